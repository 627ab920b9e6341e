/- Texts of one claim, joined in their order. -/
import Derived.Test.YtgolhfmmlanmlaaM7
import Derived.Test.YtgolhfmmlanmlaaM4
import Derived.Test.YtgolhfmmlanmlaaM3
import Derived.Test.YtgolhfmmlanmlaaM6

/- Plain mathematics of long ways: sums along an order, the same back along it, the end of all, the longest way; no program. -/
namespace Go.Proofs.Ytgolhfmmlanmlaa
open Go.RowKit Pth

/-- What stands at a place, 0 where none does. -/
def atI (out : List Int) (k : Int) : Int := out.getD k.toNat 0
theorem atI_get {out : List Int} {k : Nat} (hk : k < out.length) : atI out (k : Int) = out[k] := by
  unfold atI
  rw [show ((k : Int)).toNat = k by omega, List.getD_eq_getElem?_getD, List.getElem?_eq_getElem hk]; rfl
theorem atI_set {out : List Int} {k j : Nat} {e : Int} (hk : k < out.length) : atI (out.set k e) (j : Int) = if j = k then e else atI out (j : Int) := by
  unfold atI
  rw [show ((j : Int)).toNat = j by omega, List.getD_eq_getElem?_getD, List.getD_eq_getElem?_getD, List.getElem?_set]
  by_cases h : j = k
  · subst h; simp [hk]
  · rw [if_neg h, if_neg (by omega)]
theorem atI_self {bs : List Int} {u : Nat} (hu : u < bs.length) : bs.set u (atI bs (u : Int)) = bs := by
  rw [atI_get hu, List.set_getElem_self]

/-- The greatest of a function over some places, 0 for none. -/
def greatF (f : Int → Int) (ps : List Int) : Int := ps.foldl (fun g p => if f p > g then f p else g) 0
theorem greatF_snoc (f : Int → Int) (ps : List Int) (x : Int) : greatF f (ps ++ [x]) = if f x > greatF f ps then f x else greatF f ps := by
  unfold greatF; rw [List.foldl_append]; rfl
theorem greatF_congr {f g : Int → Int} {ps : List Int} (h : ∀ x ∈ ps, f x = g x) : greatF f ps = greatF g ps := by
  unfold greatF
  generalize (0 : Int) = z
  induction ps generalizing z with
  | nil => rfl
  | cons y r ih =>
    rw [List.foldl_cons, List.foldl_cons, h y (by simp)]
    exact ih (fun x hx => h x (by simp [hx])) _
/-- A number that is the greatest of a function over what has a property, 0 for none. -/
structure Great (f : Int → Int) (P : Int → Prop) (v : Int) : Prop where
  low : 0 ≤ v
  up : ∀ x, P x → f x ≤ v
  at' : v = 0 ∨ ∃ x, P x ∧ v = f x
theorem Great.one {f : Int → Int} {P : Int → Prop} {v u : Int} (h : Great f P v) (h' : Great f P u) : v = u := by
  have a : v ≤ u := by
    rcases h.at' with e | ⟨x, hx, e⟩
    · rw [e]; exact h'.low
    · rw [e]; exact h'.up x hx
  have b : u ≤ v := by
    rcases h'.at' with e | ⟨x, hx, e⟩
    · rw [e]; exact h.low
    · rw [e]; exact h.up x hx
  omega
theorem Great.none {f : Int → Int} : Great f (fun _ => False) 0 := ⟨Int.le_refl _, fun _ h => h.elim, .inl rfl⟩
theorem Great.same {f : Int → Int} {P Q : Int → Prop} {v : Int} (h : Great f P v) (hq : ∀ x, P x ↔ Q x) : Great f Q v :=
  ⟨h.low, fun x hx => h.up x ((hq x).2 hx), h.at'.imp id (fun ⟨x, hx, e⟩ => ⟨x, (hq x).1 hx, e⟩)⟩
theorem Great.more {f : Int → Int} {P : Int → Prop} {v k : Int} (h : Great f P v) : Great f (fun x => P x ∨ x = k) (if f k > v then f k else v) := by
  by_cases hk : f k > v
  · rw [if_pos hk]
    exact ⟨by have := h.low; omega, fun x hx => by
      rcases hx with hx | rfl
      · have := h.up x hx; omega
      · exact Int.le_refl _, .inr ⟨k, .inr rfl, rfl⟩⟩
  · rw [if_neg hk]
    exact ⟨h.low, fun x hx => by
      rcases hx with hx | rfl
      · exact h.up x hx
      · omega, h.at'.imp id (fun ⟨x, hx, e⟩ => ⟨x, .inl hx, e⟩)⟩
theorem greatF_is (f : Int → Int) (ps : List Int) : Great f (· ∈ ps) (greatF f ps) := by
  have : ∀ k, k ≤ ps.length → Great f (· ∈ ps.take k) (greatF f (ps.take k)) := by
    intro k
    induction k with
    | zero => intro _; simpa [greatF] using Great.none.same (f := f) (fun x => by simp)
    | succ k ih =>
      intro hk
      rw [List.take_succ_eq_append_getElem (by omega), greatF_snoc]
      exact ((ih (by omega)).more (k := ps[k])).same (fun x => by simp only [List.mem_append, List.mem_singleton])
  have h := this ps.length (Nat.le_refl _)
  rwa [List.take_length] at h

/-- One more of an order seen: its time, and the greatest of those ahead of it. -/
def longStep (ah : Int → List Int) (ts b : List Int) (u : Int) : List Int := b.set u.toNat (atI ts u + greatF (atI b) (ah u))
def longL (ah : Int → List Int) (ts : List Int) (n : Nat) (ord : List Int) : List Int := ord.foldl (longStep ah ts) (List.replicate n 0)
theorem longL_len (ah : Int → List Int) (ts : List Int) (n : Nat) (ord : List Int) : (longL ah ts n ord).length = n := by
  unfold longL
  have : ∀ b : List Int, (ord.foldl (longStep ah ts) b).length = b.length := by
    induction ord with
    | nil => intro b; rfl
    | cons x r ih => intro b; rw [List.foldl_cons, ih, longStep, List.length_set]
  rw [this, List.length_replicate]
theorem longL_snoc (ah : Int → List Int) (ts : List Int) (n : Nat) (ord : List Int) (x : Int) : longL ah ts n (ord ++ [x]) = longStep ah ts (longL ah ts n ord) x := by
  unfold longL; rw [List.foldl_append]; rfl
/-- All that are ahead of one come first. -/
structure Along (n : Nat) (ah : Int → List Int) (ord : List Int) : Prop where
  nodup : ord.Nodup
  all : ∀ x, x ∈ ord ↔ 0 ≤ x ∧ x < (n : Int)
  before : ∀ k (hk : k < ord.length), ∀ x ∈ ah ord[k], x ∈ ord.take k
theorem atI_rep (n : Nat) (k : Int) : atI (List.replicate n 0) k = 0 := by
  unfold atI
  rw [List.getD_eq_getElem?_getD, List.getElem?_replicate]
  split <;> rfl
theorem atI_setI {out : List Int} {k j e : Int} (hk : 0 ≤ k ∧ k < (out.length : Int)) (hj : 0 ≤ j) : atI (out.set k.toNat e) j = if j = k then e else atI out j := by
  obtain ⟨kn, rfl⟩ : ∃ kn : Nat, k = kn := ⟨k.toNat, by omega⟩
  obtain ⟨jn, rfl⟩ : ∃ jn : Nat, j = jn := ⟨j.toNat, by omega⟩
  rw [show ((kn : Int)).toNat = kn by omega, atI_set (by omega)]
  by_cases h : jn = kn
  · rw [if_pos h, if_pos (by omega)]
  · rw [if_neg h, if_neg (by omega)]
theorem Along.step {n : Nat} {ah : Int → List Int} {ord : List Int} (h : Along n ah ord) (ts : List Int) {k : Nat} (hk : k < ord.length) {y : Int} (hy : 0 ≤ y) :
    atI (longL ah ts n (ord.take (k + 1))) y = if y = ord[k] then atI ts ord[k] + greatF (atI (longL ah ts n (ord.take k))) (ah ord[k]) else atI (longL ah ts n (ord.take k)) y := by
  rw [List.take_succ_eq_append_getElem hk, longL_snoc, longStep]
  have hr := (h.all _).1 (List.getElem_mem hk)
  exact atI_setI (by rw [longL_len]; exact hr) hy
theorem Along.rest {n : Nat} {ah : Int → List Int} {ord : List Int} (h : Along n ah ord) (ts : List Int) {k : Nat} (hk : k ≤ ord.length) {y : Int} (h0 : 0 ≤ y) (hy : y ∉ ord.take k) : atI (longL ah ts n (ord.take k)) y = 0 := by
  induction k with
  | zero => rw [List.take_zero]; exact atI_rep _ _
  | succ k ih =>
    rw [List.take_succ_eq_append_getElem (by omega), List.mem_append, not_or, List.mem_singleton] at hy
    rw [h.step ts (by omega) h0, if_neg hy.2]
    exact ih (by omega) hy.1
theorem Along.stays {n : Nat} {ah : Int → List Int} {ord : List Int} (h : Along n ah ord) (ts : List Int) {k : Nat} {y : Int} (hy : y ∈ ord.take k) {j : Nat} (hj : k + j ≤ ord.length) :
    atI (longL ah ts n (ord.take (k + j))) y = atI (longL ah ts n (ord.take k)) y := by
  have h0 := ((h.all _).1 (List.mem_of_mem_take hy)).1
  induction j with
  | zero => rfl
  | succ j ih =>
    rw [← Nat.add_assoc, h.step ts (by omega) h0, if_neg, ih (by omega)]
    intro e
    rw [e] at hy
    have := nodup_at h.nodup (k := k + j) (by omega)
    exact this (List.mem_of_mem_take (i := k) (by rw [List.take_take, Nat.min_eq_left (by omega)]; exact hy))
theorem Along.whole {n : Nat} {ah : Int → List Int} {ord : List Int} (h : Along n ah ord) (ts : List Int) {k : Nat} (hk : k ≤ ord.length) {y : Int} (hy : y ∈ ord.take k) :
    atI (longL ah ts n (ord.take k)) y = atI (longL ah ts n ord) y := by
  have := h.stays ts hy (j := ord.length - k) (by omega)
  rw [show k + (ord.length - k) = ord.length by omega, List.take_length] at this
  exact this.symm
/-- What it tells of each: its time, and the greatest that it tells of those ahead. -/
theorem Along.tells {n : Nat} {ah : Int → List Int} {ord : List Int} (h : Along n ah ord) (ts : List Int) {y : Int} (hy : 0 ≤ y ∧ y < (n : Int)) :
    atI (longL ah ts n ord) y = atI ts y + greatF (atI (longL ah ts n ord)) (ah y) := by
  obtain ⟨k, hk, rfl⟩ := List.getElem_of_mem ((h.all y).2 hy)
  have hm : ord[k] ∈ ord.take (k + 1) := by rw [List.take_succ_eq_append_getElem hk]; exact List.mem_append.2 (.inr (List.mem_singleton.2 rfl))
  rw [← h.whole ts (by omega) hm, h.step ts hk hy.1, if_pos rfl, greatF_congr (fun x hx => h.whole ts (by omega) (h.before k hk x hx))]
/-- Times: so many, each 1 to 100. -/
structure TimesT (n : Nat) (ts : List Int) : Prop where
  len : ts.length = n
  each : ∀ x ∈ ts, 1 ≤ x ∧ x ≤ 100
theorem TimesT.at {n : Nat} {ts : List Int} (h : TimesT n ts) {y : Int} (hy : 0 ≤ y ∧ y < (n : Int)) : 1 ≤ atI ts y ∧ atI ts y ≤ 100 := by
  obtain ⟨k, rfl⟩ : ∃ k : Nat, y = k := ⟨y.toNat, by omega⟩
  have hk : k < ts.length := by rw [h.len]; omega
  rw [atI_get hk]
  exact h.each _ (List.getElem_mem hk)
theorem Along.small {n : Nat} {ah : Int → List Int} {ord : List Int} (h : Along n ah ord) {ts : List Int} (ht : TimesT n ts) {k : Nat} (hk : k ≤ ord.length) {y : Int} (hy : 0 ≤ y) :
    0 ≤ atI (longL ah ts n (ord.take k)) y ∧ atI (longL ah ts n (ord.take k)) y ≤ 100 * (k : Int) := by
  induction k generalizing y with
  | zero => rw [List.take_zero]; have := atI_rep n y; unfold longL; rw [List.foldl_nil, this]; omega
  | succ k ih =>
    rw [h.step ts (by omega) hy]
    split
    · have hr := (h.all _).1 (List.getElem_mem (show k < ord.length by omega))
      have h1 := ht.at hr
      have hg := greatF_is (atI (longL ah ts n (ord.take k))) (ah ord[k])
      have h2 := hg.low
      rcases hg.at' with e | ⟨x, hx, e⟩
      · omega
      · have hx0 := (h.all _).1 (List.mem_of_mem_take (h.before k (by omega) x hx))
        have := ih (by omega) (y := x) hx0.1
        omega
    · have := ih (by omega) (y := y) hy
      omega
theorem Along.great {n : Nat} {ah : Int → List Int} {ord : List Int} (h : Along n ah ord) {ts : List Int} (ht : TimesT n ts) {k : Nat} (hk : k ≤ ord.length) {ps : List Int} (hp : ∀ x ∈ ps, 0 ≤ x) :
    0 ≤ greatF (atI (longL ah ts n (ord.take k))) ps ∧ greatF (atI (longL ah ts n (ord.take k))) ps ≤ 100 * (k : Int) := by
  have hg := greatF_is (atI (longL ah ts n (ord.take k))) ps
  refine ⟨hg.low, ?_⟩
  rcases hg.at' with e | ⟨x, hx, e⟩
  · omega
  · have := (h.small ht hk (hp x hx)).2
    omega
theorem Along.low {n : Nat} {ah : Int → List Int} {ord : List Int} (h : Along n ah ord) {ts : List Int} (ht : TimesT n ts) {y : Int} (hy : 0 ≤ y ∧ y < (n : Int)) : atI ts y ≤ atI (longL ah ts n ord) y ∧ 1 ≤ atI (longL ah ts n ord) y := by
  rw [h.tells ts hy]
  have := (greatF_is (atI (longL ah ts n ord)) (ah y)).low
  have := ht.at hy
  omega
theorem Along.len {n : Nat} {ah : Int → List Int} {ord : List Int} (h : Along n ah ord) : ord.length = n := by
  have a := nodup_sub (a := ord) (b := upto n) h.nodup (fun x hx => mem_upto.2 ((h.all x).1 hx))
  have b := nodup_sub (a := upto n) (b := ord) (upto_nodup n) (fun x hx => (h.all x).2 (mem_upto.1 hx))
  rw [upto_len] at a b
  omega
theorem Along.high {n : Nat} {ah : Int → List Int} {ord : List Int} (h : Along n ah ord) {ts : List Int} (ht : TimesT n ts) {y : Int} (hy : 0 ≤ y) : 0 ≤ atI (longL ah ts n ord) y ∧ atI (longL ah ts n ord) y ≤ 100 * (n : Int) := by
  have := h.small ht (Nat.le_refl _) hy
  rw [List.take_length, h.len] at this
  exact this

/-- Along the order by what is needed. -/
theorem along_needs {ls : List (List Int)} {l : List Int} (h : GoodP ls l) : Along ls.length (needsAt ls) l :=
  ⟨h.nodup, fun _ => h.all, fun _ hk _ hx => h.needs_take hk hx⟩
/-- Back along it by what needs. -/
theorem along_users {ls : List (List Int)} {l : List Int} (h : GoodP ls l) : Along ls.length (usersL ls) l.reverse := by
  refine ⟨List.pairwise_reverse.2 (h.nodup.imp (fun h e => h e.symm)), fun _ => by rw [List.mem_reverse]; exact h.all, fun k hk x hx => ?_⟩
  rw [List.length_reverse] at hk
  rw [List.getElem_reverse] at hx
  obtain ⟨h1, h2⟩ := mem_users.1 hx
  obtain ⟨i, hi, rfl⟩ := List.getElem_of_mem (h.all.2 h1)
  have h3 := h.needs_take hi h2
  rw [mem_take_pos, pos_nodup h.nodup] at h3
  rw [List.mem_iff_getElem]
  refine ⟨l.length - 1 - i, by rw [List.length_take, List.length_reverse]; omega, ?_⟩
  rw [List.getElem_take, List.getElem_reverse]
  congr 1
  omega
def endsL (ls : List (List Int)) (l ts : List Int) : List Int := longL (needsAt ls) ts ls.length l
def tailsL (ls : List (List Int)) (l ts : List Int) : List Int := longL (usersL ls) ts ls.length l.reverse
theorem endsL_len (ls : List (List Int)) (l ts : List Int) : (endsL ls l ts).length = ls.length := longL_len _ _ _ _
theorem tailsL_len (ls : List (List Int)) (l ts : List Int) : (tailsL ls l ts).length = ls.length := longL_len _ _ _ _

/-- The reference's step along the order: what the inner loop has done, and the time behind it. -/
theorem ends_inner {b nd : List Int} {u : Int} {m : Nat} (hu : 0 ≤ u ∧ u < (b.length : Int)) (hn : u ∉ nd) (h0 : ∀ x ∈ nd, 0 ≤ x) (hm : m < nd.length) :
    (b.set u.toNat (greatF (atI b) (nd.take m))).set u.toNat (if atI (b.set u.toNat (greatF (atI b) (nd.take m))) u > atI (b.set u.toNat (greatF (atI b) (nd.take m))) nd[m] then atI (b.set u.toNat (greatF (atI b) (nd.take m))) u else atI (b.set u.toNat (greatF (atI b) (nd.take m))) nd[m])
      = b.set u.toNat (greatF (atI b) (nd.take (m + 1))) := by
  have hx := List.getElem_mem hm
  have hne : ¬ nd[m] = u := fun e => hn (by rw [← e]; exact hx)
  rw [atI_setI hu hu.1, if_pos rfl, atI_setI hu (h0 _ hx), List.set_set, List.take_succ_eq_append_getElem hm, greatF_snoc]
  simp only [if_neg hne]
  congr 1
  split <;> split <;> omega

/-- The reference's step back along the order. -/
def tail1 (ts : List Int) (k : Int) (b nd : List Int) : List Int := nd.foldl (fun b x => b.set x.toNat (if atI b x > atI ts x + atI b k then atI b x else atI ts x + atI b k)) b
theorem tail1_len (ts : List Int) (k : Int) (nd : List Int) : ∀ b, (tail1 ts k b nd).length = b.length := by
  unfold tail1
  induction nd with
  | nil => intro b; rfl
  | cons x r ih => intro b; rw [List.foldl_cons, ih, List.length_set]
theorem tail1_snoc (ts : List Int) (k : Int) (b nd : List Int) (x : Int) : tail1 ts k b (nd ++ [x]) = (tail1 ts k b nd).set x.toNat (if atI (tail1 ts k b nd) x > atI ts x + atI (tail1 ts k b nd) k then atI (tail1 ts k b nd) x else atI ts x + atI (tail1 ts k b nd) k) := by
  unfold tail1; rw [List.foldl_append]; rfl
def tailR (ls : List (List Int)) (ts st : List Int) : List Int := st.foldl (fun b k => tail1 ts k b (needsAt ls k)) ts
theorem tailR_snoc (ls : List (List Int)) (ts st : List Int) (k : Int) : tailR ls ts (st ++ [k]) = tail1 ts k (tailR ls ts st) (needsAt ls k) := by
  unfold tailR; rw [List.foldl_append]; rfl
theorem tailR_len (ls : List (List Int)) (ts st : List Int) : (tailR ls ts st).length = ts.length := by
  unfold tailR
  have : ∀ b : List Int, (st.foldl (fun b k => tail1 ts k b (needsAt ls k)) b).length = b.length := by
    induction st with
    | nil => intro b; rfl
    | cons x r ih => intro b; rw [List.foldl_cons, ih, tail1_len]
  exact this ts
theorem tail1_at {ts b : List Int} {k : Int} {nd : List Int} (hk : k ∉ nd) (hk0 : 0 ≤ k) (hn : ∀ x ∈ nd, 0 ≤ x ∧ x < (b.length : Int)) {y : Int} (hy : 0 ≤ y) :
    atI (tail1 ts k b nd) y = if y ∈ nd then (if atI ts y + atI b k > atI b y then atI ts y + atI b k else atI b y) else atI b y := by
  have : ∀ m, m ≤ nd.length → ∀ y, 0 ≤ y → atI (tail1 ts k b (nd.take m)) y = if y ∈ nd.take m then (if atI ts y + atI b k > atI b y then atI ts y + atI b k else atI b y) else atI b y := by
    intro m
    induction m with
    | zero => intro _ y _; simp [tail1]
    | succ m ih =>
      intro hm y hy
      have hm' : m < nd.length := by omega
      have hx := List.getElem_mem hm'
      have hxr := hn _ hx
      have hkm : k ∉ nd.take m := fun h => hk (List.mem_of_mem_take h)
      rw [List.take_succ_eq_append_getElem hm', tail1_snoc, atI_setI (by rw [tail1_len]; exact hxr) hy, ih (by omega) k hk0, if_neg hkm, ih (by omega) y hy, ih (by omega) nd[m] hxr.1]
      by_cases e : y = nd[m]
      · subst e
        rw [if_pos rfl, if_pos (List.mem_append.2 (.inr (List.mem_singleton.2 rfl)))]
        by_cases hq : nd[m] ∈ nd.take m
        · simp only [if_pos hq]
          split <;> split <;> omega
        · simp only [if_neg hq]
          split <;> split <;> omega
      · rw [if_neg e]
        have : y ∈ nd.take m ++ [nd[m]] ↔ y ∈ nd.take m := by
          rw [List.mem_append, List.mem_singleton]
          exact ⟨fun h => h.resolve_right e, .inl⟩
        simp only [this]
  have h := this nd.length (Nat.le_refl _) y hy
  rwa [List.take_length] at h
theorem tailR_great {ls : List (List Int)} {l ts : List Int} (hg : GoodP ls l) (ht : TimesT ls.length ts) {j : Nat} (hj : j ≤ l.reverse.length) :
    ∀ y, 0 ≤ y ∧ y < (ls.length : Int) → Great (atI (tailsL ls l ts)) (fun u => u ∈ usersL ls y ∧ u ∈ l.reverse.take j) (atI (tailR ls ts (l.reverse.take j)) y - atI ts y) := by
  have HA := along_users hg
  induction j with
  | zero =>
    intro y hy
    have : atI (tailR ls ts (l.reverse.take 0)) y - atI ts y = 0 := by simp [tailR]
    rw [this]
    exact Great.none.same (fun x => by simp)
  | succ j ih =>
    intro y hy
    have hj' : j < l.reverse.length := by omega
    have hk := List.getElem_mem hj'
    have hkr := (HA.all _).1 hk
    have hse : l.reverse[j] ∉ needsAt ls l.reverse[j] := by
      intro h
      have h1 := HA.before j hj' l.reverse[j] (mem_users.2 ⟨hkr, h⟩)
      exact nodup_at HA.nodup hj' h1
    have hrange : ∀ x ∈ needsAt ls l.reverse[j], 0 ≤ x ∧ x < ((tailR ls ts (l.reverse.take j)).length : Int) := by
      intro x hx
      rw [tailR_len, ht.len]
      obtain ⟨i, hi, e⟩ := List.getElem_of_mem (hg.all.2 hkr)
      rw [← e] at hx
      exact hg.range _ (List.mem_of_mem_take (hg.needs_take hi hx))
    have hT : atI (tailR ls ts (l.reverse.take j)) l.reverse[j] = atI (tailsL ls l ts) l.reverse[j] := by
      have h1 := (ih (by omega) _ hkr).same (Q := (· ∈ usersL ls l.reverse[j])) (fun x => ⟨fun h => h.1, fun h => ⟨h, HA.before j hj' x h⟩⟩)
      have h2 := h1.one (greatF_is (atI (tailsL ls l ts)) (usersL ls l.reverse[j]))
      have h3 := HA.tells ts hkr
      have h4 : atI (tailsL ls l ts) l.reverse[j] = atI (longL (usersL ls) ts ls.length l.reverse) l.reverse[j] := rfl
      have h5 : greatF (atI (tailsL ls l ts)) (usersL ls l.reverse[j]) = greatF (atI (longL (usersL ls) ts ls.length l.reverse)) (usersL ls l.reverse[j]) := rfl
      omega
    have hstep := tail1_at (ts := ts) hse hkr.1 hrange hy.1
    rw [← tailR_snoc, ← List.take_succ_eq_append_getElem hj', hT] at hstep
    have hI := ih (by omega) y hy
    by_cases hm : y ∈ needsAt ls l.reverse[j]
    · rw [if_pos hm] at hstep
      have h1 := (hI.more (k := l.reverse[j])).same (Q := fun u => u ∈ usersL ls y ∧ u ∈ l.reverse.take (j + 1)) (fun x => by
        rw [List.take_succ_eq_append_getElem hj', List.mem_append, List.mem_singleton]
        constructor
        · rintro (h | rfl)
          · exact ⟨h.1, .inl h.2⟩
          · exact ⟨mem_users.2 ⟨hkr, hm⟩, .inr rfl⟩
        · rintro ⟨h1, h2 | h2⟩
          · exact .inl ⟨h1, h2⟩
          · exact .inr h2)
      rw [hstep]
      have e : (if atI ts y + atI (tailsL ls l ts) l.reverse[j] > atI (tailR ls ts (l.reverse.take j)) y then atI ts y + atI (tailsL ls l ts) l.reverse[j] else atI (tailR ls ts (l.reverse.take j)) y) - atI ts y = (if atI (tailsL ls l ts) l.reverse[j] > atI (tailR ls ts (l.reverse.take j)) y - atI ts y then atI (tailsL ls l ts) l.reverse[j] else atI (tailR ls ts (l.reverse.take j)) y - atI ts y) := by
        split <;> split <;> omega
      rw [e]
      exact h1
    · rw [if_neg hm] at hstep
      rw [hstep]
      refine hI.same (fun x => ?_)
      rw [List.take_succ_eq_append_getElem hj', List.mem_append, List.mem_singleton]
      constructor
      · rintro ⟨h1, h2⟩; exact ⟨h1, .inl h2⟩
      · rintro ⟨h1, h2 | rfl⟩
        · exact ⟨h1, h2⟩
        · exact absurd (mem_users.1 h1).2 hm
theorem ext_at0 {a b : List Int} (hl : a.length = b.length) (h : ∀ y, 0 ≤ y ∧ y < (a.length : Int) → atI a y = atI b y) : a = b := by
  apply List.ext_getElem hl
  intro i h1 h2
  have := h i (by omega)
  rwa [atI_get h1, atI_get h2] at this
theorem tailR_is {ls : List (List Int)} {l ts : List Int} (hg : GoodP ls l) (ht : TimesT ls.length ts) : tailR ls ts l.reverse = tailsL ls l ts := by
  have HA := along_users hg
  refine ext_at0 (by rw [tailR_len, tailsL_len, ht.len]) (fun y hy => ?_)
  rw [tailR_len, ht.len] at hy
  have h1 := tailR_great hg ht (Nat.le_refl l.reverse.length) y hy
  rw [List.take_length] at h1
  have h2 := (h1.same (Q := (· ∈ usersL ls y)) (fun x => ⟨fun h => h.1, fun h => ⟨h, (HA.all x).2 (mem_users.1 h).1⟩⟩)).one (greatF_is _ _)
  have h3 := HA.tells ts hy
  have h4 : atI (tailsL ls l ts) y = atI (longL (usersL ls) ts ls.length l.reverse) y := rfl
  have h5 : greatF (atI (tailsL ls l ts)) (usersL ls y) = greatF (atI (longL (usersL ls) ts ls.length l.reverse)) (usersL ls y) := rfl
  omega
/-- While it goes, no number is great. -/
theorem tailR_small {ls : List (List Int)} {l ts : List Int} (hg : GoodP ls l) (ht : TimesT ls.length ts) {j : Nat} (hj : j ≤ l.reverse.length) {y : Int} (hy : 0 ≤ y ∧ y < (ls.length : Int)) :
    1 ≤ atI (tailR ls ts (l.reverse.take j)) y ∧ atI (tailR ls ts (l.reverse.take j)) y ≤ 1100 := by
  have HA := along_users hg
  have h1 := tailR_great hg ht hj y hy
  have h2 := ht.at hy
  have h3 := h1.low
  have h10 := hg.high
  refine ⟨by omega, ?_⟩
  rcases h1.at' with e | ⟨x, hx, e⟩
  · omega
  · have h4 := (HA.high ht (y := x) ((mem_users.1 hx.1).1).1).2
    have h5 : atI (tailsL ls l ts) x = atI (longL (usersL ls) ts ls.length l.reverse) x := rfl
    omega
theorem tail1_small {ls : List (List Int)} {l ts : List Int} (hg : GoodP ls l) (ht : TimesT ls.length ts) {j m : Nat} (hj : j < l.reverse.length) {y : Int} (hy : 0 ≤ y ∧ y < (ls.length : Int)) :
    1 ≤ atI (tail1 ts l.reverse[j] (tailR ls ts (l.reverse.take j)) ((needsAt ls l.reverse[j]).take m)) y ∧ atI (tail1 ts l.reverse[j] (tailR ls ts (l.reverse.take j)) ((needsAt ls l.reverse[j]).take m)) y ≤ 1200 := by
  have HA := along_users hg
  have hk := List.getElem_mem hj
  have hkr := (HA.all _).1 hk
  have hse : l.reverse[j] ∉ needsAt ls l.reverse[j] := by
    intro h
    have h1 := HA.before j hj l.reverse[j] (mem_users.2 ⟨hkr, h⟩)
    exact nodup_at HA.nodup hj h1
  have hrange : ∀ x ∈ needsAt ls l.reverse[j], 0 ≤ x ∧ x < ((tailR ls ts (l.reverse.take j)).length : Int) := by
    intro x hx
    rw [tailR_len, ht.len]
    obtain ⟨i, hi, e⟩ := List.getElem_of_mem (hg.all.2 hkr)
    rw [← e] at hx
    exact hg.range _ (List.mem_of_mem_take (hg.needs_take hi hx))
  rw [tail1_at (fun h => hse (List.mem_of_mem_take h)) hkr.1 (fun x hx => hrange x (List.mem_of_mem_take hx)) hy.1]
  have a := tailR_small hg ht (show j ≤ l.reverse.length by omega) hy
  have b := tailR_small hg ht (show j ≤ l.reverse.length by omega) hkr
  have c := ht.at hy
  split
  · split <;> omega
  · omega

/-- The end of all: the greatest of a list, 0 for none. -/
def endT (b : List Int) : Int := greatF id b
theorem endT_snoc (b : List Int) (x : Int) : endT (b ++ [x]) = if x > endT b then x else endT b := greatF_snoc id b x
theorem endT_is (b : List Int) : Great id (· ∈ b) (endT b) := greatF_is id b
theorem mem_at0 {b : List Int} {x : Int} (h : x ∈ b) : ∃ y, (0 ≤ y ∧ y < (b.length : Int)) ∧ atI b y = x := by
  obtain ⟨k, hk, rfl⟩ := List.getElem_of_mem h
  exact ⟨k, by omega, atI_get hk⟩
theorem atI_mem {b : List Int} {y : Int} (h : 0 ≤ y ∧ y < (b.length : Int)) : atI b y ∈ b := by
  obtain ⟨k, rfl⟩ : ∃ k : Nat, y = k := ⟨y.toNat, by omega⟩
  have hk : k < b.length := by omega
  rw [atI_get hk]
  exact List.getElem_mem hk
/-- One way on: no way over a task is longer than the longest back. -/
theorem long_le {n : Nat} {aa ab : Int → List Int} {oa ob ts : List Int} (ha : Along n aa oa) (hb : Along n ab ob) (_ht : TimesT n ts) (hab : ∀ x y, 0 ≤ y ∧ y < (n : Int) → x ∈ aa y → y ∈ ab x) (hr : ∀ x y, 0 ≤ y ∧ y < (n : Int) → x ∈ aa y → 0 ≤ x ∧ x < (n : Int)) :
    ∀ k, k ≤ oa.length → ∀ y ∈ oa.take k, atI (longL aa ts n oa) y + atI (longL ab ts n ob) y - atI ts y ≤ endT (longL ab ts n ob) := by
  intro k
  induction k with
  | zero => intro _ y hy; simp at hy
  | succ k ih =>
    intro hk y hy
    have hk' : k < oa.length := by omega
    rw [List.take_succ_eq_append_getElem hk', List.mem_append, List.mem_singleton] at hy
    rcases hy with hy | hy
    · exact ih (by omega) y hy
    · have hyr := (ha.all y).1 (by rw [hy]; exact List.getElem_mem hk')
      have h1 := ha.tells ts hyr
      rcases (greatF_is (atI (longL aa ts n oa)) (aa y)).at' with e | ⟨x, hx, e⟩
      · have h2 : atI (longL ab ts n ob) y ≤ endT (longL ab ts n ob) := (endT_is _).up _ (atI_mem (by rw [longL_len]; exact hyr))
        omega
      · have hxr := hr x y hyr hx
        have h2 := ih (by omega) x (by rw [hy] at hx; exact ha.before k hk' x hx)
        have h3 := hb.tells ts hxr
        have h4 := (greatF_is (atI (longL ab ts n ob)) (ab x)).up y (hab x y hyr hx)
        omega
theorem end_le {n : Nat} {aa ab : Int → List Int} {oa ob ts : List Int} (ha : Along n aa oa) (hb : Along n ab ob) (ht : TimesT n ts) (hab : ∀ x y, 0 ≤ y ∧ y < (n : Int) → x ∈ aa y → y ∈ ab x) (hr : ∀ x y, 0 ≤ y ∧ y < (n : Int) → x ∈ aa y → 0 ≤ x ∧ x < (n : Int)) :
    endT (longL aa ts n oa) ≤ endT (longL ab ts n ob) := by
  rcases (endT_is (longL aa ts n oa)).at' with e | ⟨x, hx, e⟩
  · rw [e]; exact (endT_is _).low
  · obtain ⟨y, hy, hyx⟩ := mem_at0 hx
    rw [longL_len] at hy
    have h1 := long_le ha hb ht hab hr oa.length (Nat.le_refl _) y (by rw [List.take_length]; exact (ha.all y).2 hy)
    have h2 := (hb.low ht hy).1
    rw [e]
    show x ≤ _
    omega
theorem end_same {ls : List (List Int)} {l ts : List Int} (hg : GoodP ls l) (ht : TimesT ls.length ts) : endT (endsL ls l ts) = endT (tailsL ls l ts) := by
  have HA := along_needs hg
  have HB := along_users hg
  have h1 : endT (endsL ls l ts) ≤ endT (tailsL ls l ts) := end_le HA HB ht (fun x y hy hx => mem_users.2 ⟨hy, hx⟩) (fun x y hy hx => by
    obtain ⟨k, hk, rfl⟩ := List.getElem_of_mem (hg.all.2 hy)
    exact hg.range _ (List.mem_of_mem_take (hg.needs_take hk hx)))
  have h2 : endT (tailsL ls l ts) ≤ endT (endsL ls l ts) := end_le HB HA ht (fun x y _ hx => (mem_users.1 hx).2) (fun x y _ hx => (mem_users.1 hx).1)
  omega
theorem tails_at {ls : List (List Int)} {l ts : List Int} (hg : GoodP ls l) (ht : TimesT ls.length ts) {y : Int} (hy : 0 ≤ y ∧ y < (ls.length : Int)) :
    1 ≤ atI (tailsL ls l ts) y ∧ atI ts y ≤ atI (tailsL ls l ts) y ∧ atI (tailsL ls l ts) y ≤ endT (tailsL ls l ts) ∧ atI (tailsL ls l ts) y ≤ 1000 := by
  have HB := along_users hg
  have h1 := HB.low ht hy
  have h2 := HB.high ht hy.1
  have h3 := hg.high
  have h4 : atI (tailsL ls l ts) y ≤ endT (tailsL ls l ts) := (endT_is _).up _ (atI_mem (by rw [tailsL_len]; exact hy))
  exact ⟨h1.2, h1.1, h4, by have := h2.2; show atI (longL (usersL ls) ts ls.length l.reverse) y ≤ 1000; omega⟩
theorem ends_at {ls : List (List Int)} {l ts : List Int} (hg : GoodP ls l) (ht : TimesT ls.length ts) {y : Int} (hy : 0 ≤ y ∧ y < (ls.length : Int)) :
    1 ≤ atI (endsL ls l ts) y ∧ atI (endsL ls l ts) y ≤ 1000 := by
  have HB := along_needs hg
  have h1 := HB.low ht hy
  have h2 := HB.high ht hy.1
  have h3 := hg.high
  exact ⟨h1.2, by have := h2.2; show atI (longL (needsAt ls) ts ls.length l) y ≤ 1000; omega⟩
theorem end_at {ls : List (List Int)} {l ts : List Int} (hg : GoodP ls l) (ht : TimesT ls.length ts) : 1 ≤ endT (tailsL ls l ts) ∧ endT (tailsL ls l ts) ≤ 1000 := by
  have h0 : (0 : Int) ≤ 0 ∧ (0 : Int) < (ls.length : Int) := by have := hg.low; omega
  have h1 := tails_at hg ht h0
  refine ⟨by omega, ?_⟩
  rcases (endT_is (tailsL ls l ts)).at' with e | ⟨x, hx, e⟩
  · omega
  · obtain ⟨y, hy, hyx⟩ := mem_at0 hx
    rw [tailsL_len] at hy
    have := (tails_at hg ht hy).2.2.2
    have e' : endT (tailsL ls l ts) = x := e
    omega

/-- When each must end at the latest. -/
def latestL (ls : List (List Int)) (l ts : List Int) : List Int := (upto ls.length).map (fun k => endT (tailsL ls l ts) - atI (tailsL ls l ts) k + atI ts k)
def slackL (ls : List (List Int)) (l ts : List Int) : List Int := (upto ls.length).map (fun k => atI (latestL ls l ts) k - atI (endsL ls l ts) k)
theorem latestL_len (ls : List (List Int)) (l ts : List Int) : (latestL ls l ts).length = ls.length := by simp [latestL, upto_len]
theorem slackL_len (ls : List (List Int)) (l ts : List Int) : (slackL ls l ts).length = ls.length := by simp [slackL, upto_len]
theorem atI_map {n : Nat} {f : Int → Int} {k : Int} (hk : 0 ≤ k ∧ k < (n : Int)) : atI ((upto n).map f) k = f k := by
  obtain ⟨i, rfl⟩ : ∃ i : Nat, k = i := ⟨k.toNat, by omega⟩
  rw [atI_get (by simp [upto_len]; omega)]
  simp [upto_get]
theorem upto_map_succ (n : Nat) (f : Int → Int) : (upto (n + 1)).map f = (upto n).map f ++ [f n] := by rw [upto_succ, List.map_append]; rfl
theorem latest_at {ls : List (List Int)} {l ts : List Int} (hg : GoodP ls l) (ht : TimesT ls.length ts) {y : Int} (hy : 0 ≤ y ∧ y < (ls.length : Int)) :
    atI (latestL ls l ts) y = endT (tailsL ls l ts) - atI (tailsL ls l ts) y + atI ts y ∧ 0 ≤ atI (latestL ls l ts) y ∧ atI (latestL ls l ts) y ≤ 1100 := by
  have h1 : atI (latestL ls l ts) y = endT (tailsL ls l ts) - atI (tailsL ls l ts) y + atI ts y := atI_map hy
  have h2 := tails_at hg ht hy
  have h3 := ht.at hy
  have h4 := end_at hg ht
  exact ⟨h1, by omega, by omega⟩

/-- The first of some whose tail is what is left. -/
def nextW (tl : Int → Int) (cs : List Int) (left : Int) : Option Int := cs.find? (fun k => decide (tl k = left))
/-- The way on from some, with so much left. -/
def wayF (tl : Int → Int) (us : Int → List Int) (ts : Int → Int) : Nat → List Int → Int → List Int
  | 0, _, _ => []
  | f + 1, cs, left => match nextW tl cs left with
    | none => []
    | some k => k :: wayF tl us ts f (us k) (left - ts k)
theorem nextW_mem {tl : Int → Int} {cs : List Int} {left k : Int} (h : nextW tl cs left = some k) : k ∈ cs ∧ tl k = left := by
  unfold nextW at h
  exact ⟨List.mem_of_find?_eq_some h, by simpa using List.find?_some h⟩
theorem nextW_none {tl : Int → Int} {cs : List Int} {left : Int} (h : ∀ k ∈ cs, tl k ≠ left) : nextW tl cs left = none := by
  unfold nextW
  rw [List.find?_eq_none]
  intro x hx
  simpa using h x hx
theorem nextW_some {tl : Int → Int} {cs : List Int} {left x : Int} (hx : x ∈ cs) (e : tl x = left) : ∃ k, nextW tl cs left = some k := by
  rcases h : nextW tl cs left with _ | k
  · unfold nextW at h
    rw [List.find?_eq_none] at h
    exact absurd (h x hx) (by simp [e])
  · exact ⟨k, rfl⟩
theorem nextW_first {tl : Int → Int} {cs : List Int} {left : Int} {j : Nat} (hj : j < cs.length) (hn : ∀ x ∈ cs.take j, tl x ≠ left) (e : tl cs[j] = left) : nextW tl cs left = some cs[j] := by
  unfold nextW
  conv => lhs; rw [← List.take_append_drop j cs]
  rw [List.find?_append, List.find?_eq_none.2 (fun x hx => by simpa using hn x hx), List.drop_eq_getElem_cons hj, List.find?_cons_of_pos (by simpa using e)]
  rfl
theorem wayF_len (tl : Int → Int) (us : Int → List Int) (ts : Int → Int) : ∀ f cs left, (wayF tl us ts f cs left).length ≤ f := by
  intro f
  induction f with
  | zero => intro cs left; simp [wayF]
  | succ f ih =>
    intro cs left
    rw [wayF]
    split
    · simp
    · rw [List.length_cons]; have := ih (us ‹Int›) (left - ts ‹Int›); omega
/-- Those that need none. -/
def rootsL (ls : List (List Int)) : List Int := (upto ls.length).filter (fun k => decide ((needsAt ls k).length = 0))
def wayT (ls : List (List Int)) (l ts : List Int) : List Int := wayF (atI (tailsL ls l ts)) (usersL ls) (atI ts) 1000 (rootsL ls) (endT (tailsL ls l ts))
theorem wayT_len (ls : List (List Int)) (l ts : List Int) : (wayT ls l ts).length ≤ 1000 := wayF_len _ _ _ _ _ _
theorem mem_roots {ls : List (List Int)} {k : Int} : k ∈ rootsL ls ↔ (0 ≤ k ∧ k < (ls.length : Int)) ∧ needsAt ls k = [] := by
  unfold rootsL
  rw [List.mem_filter, mem_upto, decide_eq_true_iff, List.length_eq_zero_iff]
/-- Where the longest begins. -/
theorem way_starts {ls : List (List Int)} {l ts : List Int} (hg : GoodP ls l) (ht : TimesT ls.length ts) : ∃ k, nextW (atI (tailsL ls l ts)) (rootsL ls) (endT (tailsL ls l ts)) = some k := by
  have HB := along_users hg
  rcases (endT_is (tailsL ls l ts)).at' with e | ⟨x, hx, e⟩
  · have := (end_at hg ht).1; omega
  · obtain ⟨y, hy, hyx⟩ := mem_at0 hx
    rw [tailsL_len] at hy
    have e' : endT (tailsL ls l ts) = x := e
    refine nextW_some (x := y) (mem_roots.2 ⟨hy, ?_⟩) (by omega)
    rcases hn : needsAt ls y with _ | ⟨z, r⟩
    · rfl
    · have hz : z ∈ needsAt ls y := by rw [hn]; simp
      obtain ⟨k, hk, rfl⟩ := List.getElem_of_mem (hg.all.2 hy)
      have hzr := hg.range _ (List.mem_of_mem_take (hg.needs_take hk hz))
      have h1 := HB.tells ts hzr
      have h2 := (greatF_is (atI (longL (usersL ls) ts ls.length l.reverse)) (usersL ls z)).up _ (mem_users.2 ⟨hy, hz⟩)
      have h3 := (tails_at hg ht hzr).2.2.1
      have h4 := ht.at hzr
      have h5 : atI (tailsL ls l ts) z = atI (longL (usersL ls) ts ls.length l.reverse) z := rfl
      have h6 : atI (tailsL ls l ts) l[k] = atI (longL (usersL ls) ts ls.length l.reverse) l[k] := rfl
      omega
/-- Where it goes on. -/
theorem way_goes {ls : List (List Int)} {l ts : List Int} (hg : GoodP ls l) {k : Int} (hk : 0 ≤ k ∧ k < (ls.length : Int)) (h : 0 < atI (tailsL ls l ts) k - atI ts k) :
    ∃ j, nextW (atI (tailsL ls l ts)) (usersL ls k) (atI (tailsL ls l ts) k - atI ts k) = some j := by
  have HB := along_users hg
  have h1 := HB.tells ts hk
  have h5 : atI (tailsL ls l ts) k = atI (longL (usersL ls) ts ls.length l.reverse) k := rfl
  rcases (greatF_is (atI (longL (usersL ls) ts ls.length l.reverse)) (usersL ls k)).at' with e | ⟨x, hx, e⟩
  · omega
  · have h6 : atI (tailsL ls l ts) x = atI (longL (usersL ls) ts ls.length l.reverse) x := rfl
    exact nextW_some hx (by omega)
theorem way_ends {ls : List (List Int)} {l ts : List Int} (hg : GoodP ls l) (ht : TimesT ls.length ts) {cs : List Int} (hc : ∀ k ∈ cs, 0 ≤ k ∧ k < (ls.length : Int)) {left : Int} (h : left ≤ 0) :
    nextW (atI (tailsL ls l ts)) cs left = none := nextW_none (fun k hk e => by have := (tails_at hg ht (hc k hk)).1; omega)
end Go.Proofs.Ytgolhfmmlanmlaa

/- Walks: the reference's times, ends and end of all. -/
namespace Go.Proofs.Ytgolhfmmlanmlaa
open Go.RowKit Pth

theorem good_inE {ls : List (List Int)} {l : List Int} (h : GoodG ls l) : ∀ k (hk : k < ls.length), ∀ x ∈ ls[k], 0 ≤ x ∧ x < (ls.length : Int) := by
  intro k hk x hx
  have := (h.each k hk).1.2 x hx
  omega
/-- One cell of a row of numbers turned. -/
theorem I_setE (l : List Int) (k : Nat) (x : Int) : (I l).set k (.int .i64 x) = I (l.set k x) := by simp [I, List.map_set]
theorem I_atE {l : List Int} {k : Nat} (hk : k < l.length) : (I l)[k]? = some (.int .i64 l[k]) := by rw [List.getElem?_eq_getElem (by rw [I_len]; exact hk), I_get hk]
/-- So many times as there are tasks, of a good graph. -/
noncomputable def timesG (ls : List (List Int)) (l ts : List Int) : Bool := goodG ls l && (decide (ts.length = ls.length) && allB 1 100 ts)
theorem timesG_yes {ls : List (List Int)} {l ts : List Int} (h : timesG ls l ts = true) : GoodG ls l ∧ TimesT ls.length ts := by
  unfold timesG at h
  rw [Bool.and_eq_true, Bool.and_eq_true, goodG_iff, decide_eq_true_iff, allB, decide_eq_true_iff] at h
  exact ⟨h.1, h.2.1, h.2.2⟩
/-- A list, a number that is told or not. -/
def ifL : Bool → List Int → List Int
  | true, x => x
  | false, _ => []
def ifN : Bool → Int → Int
  | true, x => x
  | false, _ => 0
theorem most_any (a b r : Int) (w : World) (hr : (if a > b then a else b) = r) :
    Calls Try.prog 76 #[.int .i64 a, .int .i64 b] w fun e w' => e = .returned (.int .i64 r) ∧ w' = w := by
  subst hr
  by_cases h : a > b
  · go_enter Try.func76, Try.ntmps76
    go_wp2_with fail
    go_ret
    exact ⟨rfl, rfl⟩
  · go_enter Try.func76, Try.ntmps76
    go_wp2_with fail
    go_ret
    exact ⟨rfl, rfl⟩

set_option maxRecDepth 20000 in
set_option maxHeartbeats 8000000 in
theorem l10Times_any (ls : List (List Int)) (l ts : List Int) (v u : Value) (w : World) (hst : GraphV w v ls l) (hrow : RowV w u (I ts)) :
    Calls Try.prog 45 #[v, u] w fun e w' => e = .returned (.bool (timesG ls l ts)) ∧ Below w.heap.size w w' := by
  have HV := Lib.hid hst
  have HR := Lib.hid hrow
  obtain ⟨nv, ov, rfl, h1, h2⟩ := hst
  obtain ⟨an, cn, rfl, hn1, hn2, hat⟩ := h1.lists
  obtain ⟨ao, co, rfl, ho1, ho2, hao⟩ := h2.ints
  obtain ⟨tm, tc, rfl, ht1, ht2, htt⟩ := hrow.ints
  clear h1 h2 hrow
  unfold maxLen at hn2 ho2 ht2
  have HAT := Lib.hid hat
  have HAO := Lib.hid hao
  have HTT := Lib.hid htt
  clear hat hao htt
  obtain ⟨wa, hwa⟩ : ∃ wa, wa = w.alloc (.cells #[.slice an ls.length cn, .slice ao l.length co] 26) := ⟨_, rfl⟩
  have P0 : Hid (Blk2 wa w.heap.size 26 (.slice an ls.length cn) (.slice ao l.length co)) := by rw [hwa]; exact Blk2.new
  have HA : Hid (Below w.heap.size w wa) := by rw [hwa]; exact (Below.refl w.heap.size w).alloc (Nat.le_refl _) _
  have hsa : wa.heap.size = w.heap.size + 1 := by rw [hwa]; simp
  have HSA := Lib.hid hsa
  have hsz : w.heap.size < wa.heap.size := by omega
  have HWA := Lib.hid hwa
  obtain ⟨c0, c1⟩ := P0.out.cells
  have HC := specGood_any ls l _ wa (HV.out.below HA.out)
  have HL := Lib.hid (fun W (h : Below w.heap.size w W) => l1All_any ts 1 100 (.slice tm ts.length tc) W (HR.out.below h))
  clear hwa hsa
  unfold timesG
  rcases hG : goodG ls l with _ | _
  · rw [hG] at HC
    have HCC := Lib.hid HC
    clear HC hG
    go_enter Try.func45, Try.ntmps45
    go_wp2_with fail
    rw [← HWA.out]
    refine HCC.out.mono ?_
    rintro e w1 ⟨rfl, hb1⟩
    have HB1 := Lib.hid (bth HA.out hb1 (Nat.le_refl _))
    clear hb1 c0 c1
    go_wp2_with fail
    go_ret
    exact ⟨rfl, HB1.out⟩
  · rw [hG] at HC
    have HCC := Lib.hid HC
    clear HC hG
    by_cases he : ts.length = ls.length
    · have he1 : ((ts.length : Int) == (ls.length : Int)) = true := by simp [he]
      rw [decide_eq_true he]
      clear he
      go_enter Try.func45, Try.ntmps45
      go_wp2_with fail
      rw [← HWA.out]
      refine HCC.out.mono ?_
      rintro e w1 ⟨rfl, hb1⟩
      have HB1 := Lib.hid (bth HA.out hb1 (Nat.le_refl _))
      have d0 := (P0.out.below hb1 hsz).cells.1
      clear hb1 c0 c1
      go_wp2_with fail
      refine (HL.out w1 HB1.out).mono ?_
      rintro e w2 ⟨rfl, rfl⟩
      go_wp2_with fail
      go_ret
      exact ⟨by simp, HB1.out⟩
    · have he1 : ((ts.length : Int) == (ls.length : Int)) = false := by simp; omega
      rw [decide_eq_false he]
      clear he
      go_enter Try.func45, Try.ntmps45
      go_wp2_with fail
      rw [← HWA.out]
      refine HCC.out.mono ?_
      rintro e w1 ⟨rfl, hb1⟩
      have HB1 := Lib.hid (bth HA.out hb1 (Nat.le_refl _))
      have d0 := (P0.out.below hb1 hsz).cells.1
      clear hb1 c0 c1
      go_wp2_with fail
      go_ret
      exact ⟨rfl, HB1.out⟩

set_option maxRecDepth 20000 in
set_option maxHeartbeats 8000000 in
theorem l10End_any (m : List Int) (v : Value) (w : World) (hrow : RowV w v (I m)) :
    Calls Try.prog 47 #[v] w fun e w' => e = .returned (.int .i64 (endT m)) ∧ w' = w := by
  obtain ⟨a, cap, rfl, hc1, hc2, hat⟩ := hrow.ints
  clear hrow
  unfold maxLen at hc2
  have HAT := Lib.hid hat
  clear hat
  go_enter Try.func47, Try.ntmps47
  go_wp2_with fail
  go_loop [3, 8] (fun q i => ∃ k : Nat, k ≤ m.length ∧ i = .int .i64 k ∧ Hid (q = .int .i64 (endT (m.take k)))) (fun _ i => m.length - (intOf i).toNat)
  case atStart => exact ⟨0, Nat.zero_le _, rfl, rfl⟩
  case round =>
    obtain ⟨k, hk, rfl, HQ⟩ := hrel
    have hq := HQ.out
    clear HQ
    subst hq
    by_cases hlt : k < m.length
    · obtain ⟨g, o, rfl, hg, hcell⟩ := HAT.out k hlt
      obtain ⟨r, hr⟩ : ∃ r, endT (m.take (k + 1)) = r := ⟨_, rfl⟩
      have HM := Lib.hid (fun W => most_any (endT (m.take k)) m[k] r W (by rw [← hr, List.take_succ_eq_append_getElem hlt, endT_snoc]; split <;> split <;> omega))
      have HRR := Lib.hid hr
      clear hr
      generalize endT (m.take k) = q at *
      generalize m[k] = x at *
      go_wp2_with fail
      refine (HM.out w).mono ?_
      rintro e w' ⟨rfl, rfl⟩
      go_wp2_with fail
      go_round
      case rel => exact ⟨k + 1, by omega, by go_num, by show _ = _; rw [HRR.out]⟩
      case measure => simp [intOf]; omega
    · have he : m.take k = m := List.take_of_length_le (by omega)
      rw [he]
      clear he
      go_wp2_with fail
      go_ret
      exact ⟨rfl, rfl⟩

set_option maxRecDepth 20000 in
set_option maxHeartbeats 8000000 in
theorem l10Ends_any (ls : List (List Int)) (l ts : List Int) (v u : Value) (w : World) (hst : GraphV w v ls l) (hrow : RowV w u (I ts)) (hG : GoodG ls l) (hT : TimesT ls.length ts) :
    Calls Try.prog 51 #[v, u] w (IntsPost w.heap.size (endsL ls l ts) w) := by
  have HV := Lib.hid hst
  have HR := Lib.hid hrow
  obtain ⟨nv, ov, rfl, h1, h2⟩ := hst
  obtain ⟨an, cn, rfl, hn1, hn2, hat⟩ := h1.lists
  obtain ⟨ao, co, rfl, ho1, ho2, hao⟩ := h2.ints
  obtain ⟨tm, tc, hu, ht1, ht2, htt⟩ := hrow.ints
  rw [hT.len] at hu ht1
  subst hu
  clear h1 h2 hrow
  unfold maxLen at hn2 ho2 ht2
  have HAT := Lib.hid hat
  have HAO := Lib.hid hao
  have HTT := Lib.hid htt
  clear hat hao htt
  obtain ⟨wa, hwa⟩ : ∃ wa, wa = w.alloc (.cells #[.slice an ls.length cn, .slice ao l.length co] 26) := ⟨_, rfl⟩
  have P0 : Hid (Blk2 wa w.heap.size 26 (.slice an ls.length cn) (.slice ao l.length co)) := by rw [hwa]; exact Blk2.new
  have HA : Hid (Below w.heap.size w wa) := by rw [hwa]; exact (Below.refl w.heap.size w).alloc (Nat.le_refl _) _
  have hsa : wa.heap.size = w.heap.size + 1 := by rw [hwa]; simp
  have HSA := Lib.hid hsa
  have hsz : w.heap.size < wa.heap.size := by omega
  have HWA := Lib.hid hwa
  have h10 := hG.high
  have hl10 : l.length ≤ 10 := by have := hG.same; omega
  have HIN := Lib.hid (good_inE hG)
  have HGG := Lib.hid hG
  have HTM := Lib.hid hT
  have HAL := Lib.hid (along_needs hG.toP)
  obtain ⟨csI, hcI, mI⟩ := make_alloc elemI rfl ls.length (by omega)
  have HCI := Lib.hid hcI
  clear hcI hG hT
  have hH := (own_of_heap (w := wa.alloc (.cells csI 3)) (B := wa.heap.size) (heap_alloc_new wa _) (Nat.le_refl _) HCI.out (by simp) (show ls.length ≤ maxLen by unfold maxLen; omega))
  have HB1 : Hid (Below wa.heap.size wa (wa.alloc (.cells csI 3))) := (Below.refl wa.heap.size wa).alloc (Nat.le_refl _) _
  rw [HSA.out] at hH
  have hc1 := (P0.out.below HB1.out (by omega)).cells.2
  rw [hwa] at hc1
  have e0 : List.replicate ls.length (Value.int .i64 0) = I (List.replicate ls.length 0) := by simp [I]
  rw [e0] at hH
  have HO0 := Lib.hid hH
  have HB0 := HB1
  obtain ⟨w2, hw2⟩ : ∃ w2, w2 = wa.alloc (.cells csI 3) := ⟨_, rfl⟩
  rw [← hw2] at HO0 HB0
  rw [hwa] at hw2
  have HW2 := Lib.hid hw2
  clear hwa hsa hH e0 hw2 HB1
  go_enter Try.func51, Try.ntmps51
  go_wp2_with fail
  rw [← HW2.out]
  clear hc1 mI HW2
  go_loopw [16] (fun i wr => ∃ k : Nat, k ≤ l.length ∧ i = .int .i64 (k : Int) ∧ Hid (wr.ownsRow (w.heap.size + 1) 3 1 (.slice (some ⟨w.heap.size + 1, 0, none⟩) ls.length ls.length) ls.length (I (longL (needsAt ls) ts ls.length (l.take k)))) ∧ Hid (Below wa.heap.size wa wr)) (fun i _ => l.length - (intOf i).toNat)
  case atStart => exact ⟨0, Nat.zero_le _, rfl, HO0, HB0⟩
  case round =>
    clear HO0 HB0
    obtain ⟨k, hk, rfl, HO, HB⟩ := hrel
    by_cases hlt : k < l.length
    · obtain ⟨g, o, hgo, hg, hcell0⟩ := HAO.out k hlt
      subst hgo
      obtain ⟨un, hun⟩ : ∃ un : Nat, l[k] = un := ⟨l[k].toNat, by have := HGG.out.tasks l[k] (List.getElem_mem hlt); omega⟩
      have hul : un < ls.length := by have := HGG.out.tasks l[k] (List.getElem_mem hlt); omega
      have hul2 : (un : Int) < (ls.length : Int) := by omega
      have hcell : wr.cell? ⟨g, o + k, none⟩ = some (.int .i64 (un : Int)) := by rw [(bth HA.out HB.out (Nat.le_refl _)).cell (p := ⟨g, o + k, none⟩) hg, hcell0, hun]
      obtain ⟨d0, d1⟩ := (P0.out.below HB.out hsz).cells
      obtain ⟨g1, o1, a2, c2, hgn, hg1, hcell1, hrow⟩ := HAT.out un hul
      subst hgn
      have hcn : wr.cell? ⟨g1, o1 + un, none⟩ = some (.slice a2 ls[un].length c2) := ((bth HA.out HB.out (Nat.le_refl _)).cell (p := ⟨g1, o1 + un, none⟩) hg1).trans hcell1
      have HRW : Hid (∀ W, Below w.heap.size w W → RowV W (.slice a2 ls[un].length c2) (I ls[un])) := fun W h => hrow.below h
      have hnl : ls[un].length ≤ c2 ∧ c2 ≤ 2 ^ 63 - 1 := by
        obtain ⟨_, _, h, h', h4, _⟩ := hrow.ints
        unfold maxLen at h4
        injection h with _ _ h3; omega
      obtain ⟨hnl, hc2⟩ := hnl
      have htl : un < ts.length := by rw [HTM.out.len]; exact hul
      obtain ⟨tg, tf, hto, htg, htc0⟩ := HTT.out un htl
      subst hto
      have HTC : Hid (∀ W, Below w.heap.size w W → W.cell? ⟨tg, tf + un, none⟩ = some (.int .i64 (atI ts (un : Int)))) := fun W h => by rw [h.cell (p := ⟨tg, tf + un, none⟩) htg, htc0, atI_get htl]
      have hgr := HAL.out.great HTM.out (show k ≤ l.length by omega) (ps := ls[un]) (fun x hx => (HIN.out un hul x hx).1)
      have htb := HTM.out.at (y := (un : Int)) (by omega)
      have hnd : (un : Int) ∉ ls[un] := by
        have := HGG.out.toP.self hlt
        rw [hun, needsAt_get hul] at this
        exact this
      have HND := Lib.hid hnd
      have hz : atI (longL (needsAt ls) ts ls.length (l.take k)) (un : Int) = 0 := HAL.out.rest ts (by omega) (by omega) (by rw [← hun]; exact nodup_at HGG.out.nodup hlt)
      have hbk : (longL (needsAt ls) ts ls.length (l.take k)).length = ls.length := longL_len _ _ _ _
      have HBK : Hid (longL (needsAt ls) ts ls.length (l.take (k + 1)) = (longL (needsAt ls) ts ls.length (l.take k)).set un (atI ts (un : Int) + greatF (atI (longL (needsAt ls) ts ls.length (l.take k))) ls[un])) := by
        show _ = _
        rw [List.take_succ_eq_append_getElem hlt, longL_snoc, hun, longStep, needsAt_get hul]
        rfl
      generalize longL (needsAt ls) ts ls.length (l.take k) = bk at *
      have HZ0 : Hid (bk.set un (greatF (atI bk) (ls[un].take 0)) = bk) := by
        have : bk.set un (atI bk (un : Int)) = bk := atI_self (by omega)
        rw [hz] at this
        exact this
      have HBKL := Lib.hid hbk
      clear hcell0 hcell1 hrow hbk hun hnd hz htc0
      go_wp2_with fail
      clear hcell hcn d0 d1
      go_loopw [26] (fun i wz => ∃ m : Nat, m ≤ ls[un].length ∧ i = .int .i64 (m : Int) ∧ Hid (wz.ownsRow (w.heap.size + 1) 3 1 (.slice (some ⟨w.heap.size + 1, 0, none⟩) ls.length ls.length) ls.length (I (bk.set un (greatF (atI bk) (ls[un].take m))))) ∧ Hid (Below wa.heap.size wa wz)) (fun i _ => ls[un].length - (intOf i).toNat)
      case atStart => exact ⟨0, Nat.zero_le _, rfl, by rw [HZ0.out]; exact HO, HB⟩
      case round =>
        clear HO HB
        obtain ⟨m, hm, rfl, HO, HB⟩ := hrel
        by_cases hlt2 : m < ls[un].length
        · have hxm := HIN.out un hul ls[un][m] (List.getElem_mem hlt2)
          obtain ⟨kn, hkn⟩ : ∃ kn : Nat, ls[un][m] = kn := ⟨ls[un][m].toNat, by omega⟩
          have hkl : kn < ls.length := by omega
          have hkl2 : (kn : Int) < (ls.length : Int) := by omega
          obtain ⟨gr, or, hra, hcr⟩ : ∃ gr or, a2 = some ⟨gr, or, none⟩ ∧ wr.cell? ⟨gr, or + m, none⟩ = some (.int .i64 (kn : Int)) := by
            obtain ⟨aa, cc, h, _, _, hc⟩ := (HRW.out wr (bth HA.out HB.out (Nat.le_refl _))).ints
            injection h with h1 _ _
            obtain ⟨gr, or, h2, _, h3⟩ := hc m hlt2
            exact ⟨gr, or, by rw [h1, h2], by rw [h3, hkn]⟩
          subst hra
          have hlo : (bk.set un (greatF (atI bk) (ls[un].take m))).length = ls.length := by rw [List.length_set, HBKL.out]
          have HE : Hid ((bk.set un (greatF (atI bk) (ls[un].take m))).set un (if atI (bk.set un (greatF (atI bk) (ls[un].take m))) (un : Int) > atI (bk.set un (greatF (atI bk) (ls[un].take m))) (kn : Int) then atI (bk.set un (greatF (atI bk) (ls[un].take m))) (un : Int) else atI (bk.set un (greatF (atI bk) (ls[un].take m))) (kn : Int)) = bk.set un (greatF (atI bk) (ls[un].take (m + 1)))) := by
            have := ends_inner (b := bk) (nd := ls[un]) (u := (un : Int)) (m := m) ⟨by omega, by rw [HBKL.out]; omega⟩ HND.out (fun x hx => (HIN.out un hul x hx).1) hlt2
            rw [hkn] at this
            exact this
          generalize bk.set un (greatF (atI bk) (ls[un].take m)) = bo at *
          have hcu : wr.cell? ⟨w.heap.size + 1, un, none⟩ = some (.int .i64 (atI bo (un : Int))) := by rw [HO.out.cellAt un (by omega), I_atE (by omega), atI_get (by omega)]
          have hck : wr.cell? ⟨w.heap.size + 1, kn, none⟩ = some (.int .i64 (atI bo (kn : Int))) := by rw [HO.out.cellAt kn (by omega), I_atE (by omega), atI_get (by omega)]
          have hf2 := HO.out.frozenAt un
          obtain ⟨r, hr⟩ : ∃ r, (if atI bo (un : Int) > atI bo (kn : Int) then atI bo (un : Int) else atI bo (kn : Int)) = r := ⟨_, rfl⟩
          rw [hr] at HE
          have HM := Lib.hid (fun W => most_any (atI bo (un : Int)) (atI bo (kn : Int)) r W hr)
          have hst := HO.out.stored un (.int .i64 r)
          rw [I_setE, HE.out] at hst
          have HO1 := Lib.hid hst.1
          have HB1 := Lib.hid (HB.out.trans (only_below hst.2 (by have := HSA.out; omega) HB.out.size))
          clear hst HE hlo hkn hxm HO HB hr
          generalize atI bo (un : Int) = cu at *
          generalize atI bo (kn : Int) = ck at *
          go_wp2_with fail
          go_region_with (go_at_call 76; refine (HM.out _).mono ?_; rintro e w9 ⟨rfl, rfl⟩)
          all_goals
            go_wp2_with fail
            go_roundw
            case rel => exact ⟨m + 1, by omega, by go_num, HO1, Lib.hid (Below.drew HB1.out)⟩
            case measure => simp [intOf]; omega
        · rw [List.take_of_length_le (by omega)] at HO
          have hlo : (bk.set un (greatF (atI bk) ls[un])).length = ls.length := by rw [List.length_set, HBKL.out]
          have hcu : wr.cell? ⟨w.heap.size + 1, un, none⟩ = some (.int .i64 (greatF (atI bk) ls[un])) := by rw [HO.out.cellAt un (by omega), I_atE (by omega), List.getElem_set_self]
          have htc := HTC.out wr (bth HA.out HB.out (Nat.le_refl _))
          have hf2 := HO.out.frozenAt un
          have hst := HO.out.stored un (.int .i64 (greatF (atI bk) ls[un] + atI ts (un : Int)))
          rw [I_setE, List.set_set, Int.add_comm (greatF (atI bk) ls[un]), ← HBK.out, Int.add_comm] at hst
          have HO1 := Lib.hid hst.1
          have HB1 := Lib.hid (HB.out.trans (only_below hst.2 (by have := HSA.out; omega) HB.out.size))
          clear hst hlo HO HB HZ0
          generalize greatF (atI bk) ls[un] = gg at *
          generalize atI ts (un : Int) = tt at *
          have hwr : IntKind.i64.wrap (gg + tt) = gg + tt := by rw [IntKind.wrap_i64]; omega
          go_wp2_with fail
          go_region
          all_goals
            go_wp2_with fail
            go_roundw
            case rel => exact ⟨k + 1, by omega, by go_num, HO1, Lib.hid (Below.drew HB1.out)⟩
            case measure => simp [intOf]; omega
    · rw [List.take_of_length_le (by omega)] at HO
      go_wp2_with fail
      go_ret
      exact ⟨_, rfl, by rw [endsL_len]; exact own_base HO.out (by omega), bth HA.out HB.out (Nat.le_refl _)⟩

set_option maxRecDepth 20000 in
set_option maxHeartbeats 8000000 in
theorem specEnds_any (ls : List (List Int)) (l ts : List Int) (v u : Value) (w : World) (hst : GraphV w v ls l) (hrow : RowV w u (I ts)) :
    Calls Try.prog 15 #[v, u] w (ListOk (ifL (timesG ls l ts) (endsL ls l ts)) (timesG ls l ts) w) := by
  have HV := Lib.hid hst
  have HR := Lib.hid hrow
  obtain ⟨nv, ov, rfl, h1, h2⟩ := hst
  obtain ⟨an, cn, rfl, hn1, hn2, hat⟩ := h1.lists
  obtain ⟨ao, co, rfl, ho1, ho2, hao⟩ := h2.ints
  obtain ⟨tm, tc, rfl, ht1, ht2, htt⟩ := hrow.ints
  clear h1 h2 hrow
  unfold maxLen at hn2 ho2 ht2
  have HAT := Lib.hid hat
  have HAO := Lib.hid hao
  have HTT := Lib.hid htt
  clear hat hao htt
  obtain ⟨wa, hwa⟩ : ∃ wa, wa = w.alloc (.cells #[.slice an ls.length cn, .slice ao l.length co] 26) := ⟨_, rfl⟩
  have P0 : Hid (Blk2 wa w.heap.size 26 (.slice an ls.length cn) (.slice ao l.length co)) := by rw [hwa]; exact Blk2.new
  have HA : Hid (Below w.heap.size w wa) := by rw [hwa]; exact (Below.refl w.heap.size w).alloc (Nat.le_refl _) _
  have hsa : wa.heap.size = w.heap.size + 1 := by rw [hwa]; simp
  have HSA := Lib.hid hsa
  have hsz : w.heap.size < wa.heap.size := by omega
  have HWA := Lib.hid hwa
  obtain ⟨c0, c1⟩ := P0.out.cells
  have HC := l10Times_any ls l ts _ _ wa (HV.out.below HA.out) (HR.out.below HA.out)
  clear hwa hsa
  rcases hT : timesG ls l ts with _ | _
  · rw [hT] at HC
    have HCC := Lib.hid HC
    clear HC hT
    go_enter Try.func15, Try.ntmps15
    go_wp2_with fail
    rw [← HWA.out]
    refine HCC.out.mono ?_
    rintro e w1 ⟨rfl, hb1⟩
    have HB1 := Lib.hid (bth HA.out hb1 (Nat.le_refl _))
    clear hb1 c0 c1
    go_wp2_with fail
    go_ret2
    exact ⟨_, rfl, none_ownZ _ _ _, HB1.out⟩
  · rw [hT] at HC
    have HCC := Lib.hid HC
    obtain ⟨hG, hTT⟩ := timesG_yes hT
    have HG := Lib.hid hG
    have HTM := Lib.hid hTT
    clear HC hT hG hTT
    go_enter Try.func15, Try.ntmps15
    go_wp2_with fail
    rw [← HWA.out]
    refine HCC.out.mono ?_
    rintro e w1 ⟨rfl, hb1⟩
    have HB1 := Lib.hid (bth HA.out hb1 (Nat.le_refl _))
    have d0 := (P0.out.below hb1 hsz).cells.1
    have d1 := (P0.out.below hb1 hsz).cells.2
    have HU := Lib.hid (l10Ends_any ls l ts _ _ w1 (HV.out.below HB1.out) (HR.out.below HB1.out) HG.out HTM.out)
    clear hb1 c0 c1
    go_wp2_with fail
    refine HU.out.mono ?_
    rintro e w2 ⟨v2, rfl, ho, hb2⟩
    have HO2 := Lib.hid (own_base ho HB1.out.size)
    have HB2 := Lib.hid (bth HB1.out hb2 (Nat.le_refl _))
    clear ho hb2
    go_wp2_with fail
    go_ret2
    exact ⟨_, rfl, HO2.out, HB2.out⟩

end Go.Proofs.Ytgolhfmmlanmlaa

/- Walks: the program's times, the greatest at places, the longest over an order, the earliest ends. -/
namespace Go.Proofs.Ytgolhfmmlanmlaa
open Go.RowKit Pth

theorem graph_rows {w : World} {nv ov : Value} {ls : List (List Int)} {l : List Int} (h : GraphV w (.agg #[nv, ov]) ls l) : RowN w nv ls ∧ RowV w ov (I l) := by
  obtain ⟨nv', ov', h, h1, h2⟩ := h
  injection h with h
  simp at h
  obtain ⟨rfl, rfl⟩ := h
  exact ⟨h1, h2⟩
def noTime (x : Int) : Bool := decide (x < 1) || decide (x > 100)
theorem noTime_all (l : List Int) : (!l.any noTime) = allB 1 100 l := by
  rw [Bool.eq_iff_iff, allB, decide_eq_true_iff, Bool.not_eq_true', List.any_eq_false]
  constructor
  · intro h x hx
    have := h x hx
    simp [noTime] at this
    omega
  · intro h x hx
    have := h x hx
    simp [noTime]
    omega
theorem noTime_any (x : Int) (w : World) : Calls Try.prog 80 #[.int .i64 x] w (BoolB (noTime x) w) := by
  unfold noTime
  rcases h1 : decide (x < 1) with _ | _
  · go_enter Try.func80, Try.ntmps80
    go_wp2_with fail
    go_ret
    exact ⟨rfl, Below.refl _ _⟩
  · go_enter Try.func80, Try.ntmps80
    go_wp2_with fail
    go_ret
    exact ⟨rfl, Below.refl _ _⟩

set_option maxRecDepth 20000 in
set_option maxHeartbeats 8000000 in
theorem areTimes_any (ts : List Int) (u : Value) (w : World) (hrow : RowV w u (I ts)) :
    Calls Try.prog 57 #[u] w (BoolB (decide (ts.length ≤ 10) && allB 1 100 ts) w) := by
  have HC := Lib.hid (containsFunc_any ts noTime (fun _ => True) u (.func (.func 80) #[] #[]) w hrow ⟨80, #[], rfl, enters_of Try.func80 (by kernel_rfl) rfl, fun W _ x _ => noTime_any x W⟩ (fun _ _ => trivial))
  obtain ⟨tm, tc, rfl, ht1, ht2, _⟩ := hrow.ints
  unfold maxLen at ht2
  clear hrow
  by_cases h : ts.length ≤ 10
  · have h1 : decide ((ts.length : Int) ≤ 10) = true := by simp; omega
    rw [decide_eq_true h, ← noTime_all]
    clear h
    go_enter Try.func57, Try.ntmps57
    go_wp2_with fail
    refine HC.out.mono ?_
    rintro e w1 ⟨rfl, hb1⟩
    have HB1 := Lib.hid hb1
    clear hb1 HC
    go_wp2_with fail
    go_ret
    exact ⟨by simp, HB1.out⟩
  · have h1 : decide ((ts.length : Int) ≤ 10) = false := by simp; omega
    rw [decide_eq_false h]
    clear h HC
    go_enter Try.func57, Try.ntmps57
    go_wp2_with fail
    go_ret
    exact ⟨rfl, Below.refl _ _⟩

set_option maxRecDepth 20000 in
set_option maxHeartbeats 8000000 in
theorem areTimesOf_any (ls : List (List Int)) (l ts : List Int) (v u : Value) (w : World) (hst : GraphV w v ls l) (hrow : RowV w u (I ts)) :
    Calls Try.prog 49 #[v, u] w (BoolB (timesG ls l ts) w) := by
  have HV := Lib.hid hst
  have HR := Lib.hid hrow
  obtain ⟨nv, ov, rfl, h1, h2⟩ := hst
  obtain ⟨an, cn, rfl, hn1, hn2, hat⟩ := h1.lists
  obtain ⟨ao, co, rfl, ho1, ho2, hao⟩ := h2.ints
  obtain ⟨tm, tc, rfl, ht1, ht2, htt⟩ := hrow.ints
  clear h1 h2 hrow
  unfold maxLen at hn2 ho2 ht2
  have HAT := Lib.hid hat
  have HAO := Lib.hid hao
  have HTT := Lib.hid htt
  clear hat hao htt
  obtain ⟨wa, hwa⟩ : ∃ wa, wa = w.alloc (.cells #[.slice an ls.length cn, .slice ao l.length co] 26) := ⟨_, rfl⟩
  have P0 : Hid (Blk2 wa w.heap.size 26 (.slice an ls.length cn) (.slice ao l.length co)) := by rw [hwa]; exact Blk2.new
  have HA : Hid (Below w.heap.size w wa) := by rw [hwa]; exact (Below.refl w.heap.size w).alloc (Nat.le_refl _) _
  have hsa : wa.heap.size = w.heap.size + 1 := by rw [hwa]; simp
  have HSA := Lib.hid hsa
  have hsz : w.heap.size < wa.heap.size := by omega
  have HWA := Lib.hid hwa
  obtain ⟨c0, c1⟩ := P0.out.cells
  have HC := implGood_any ls l _ wa (HV.out.below HA.out)
  have HL := Lib.hid (fun W (h : Below w.heap.size w W) => areTimes_any ts (.slice tm ts.length tc) W (HR.out.below h))
  clear hwa hsa
  unfold timesG
  rcases hG : goodG ls l with _ | _
  · rw [hG] at HC
    have HCC := Lib.hid HC
    clear HC hG
    go_enter Try.func49, Try.ntmps49
    go_wp2_with fail
    rw [← HWA.out]
    refine HCC.out.mono ?_
    rintro e w1 ⟨rfl, hb1⟩
    have HB1 := Lib.hid (bth HA.out hb1 (Nat.le_refl _))
    clear hb1 c0 c1
    go_wp2_with fail
    go_ret
    exact ⟨rfl, HB1.out⟩
  · rw [hG] at HC
    have HCC := Lib.hid HC
    have h10 := (goodG_iff.1 hG).high
    clear HC hG
    by_cases he : ts.length = ls.length
    · have he1 : ((ts.length : Int) == (ls.length : Int)) = true := by simp [he]
      have HD : Hid (decide (ts.length ≤ 10) = true) := by show _ = _; simp; omega
      rw [decide_eq_true he]
      rw [HD.out] at HL
      clear he HD
      go_enter Try.func49, Try.ntmps49
      go_wp2_with fail
      rw [← HWA.out]
      refine HCC.out.mono ?_
      rintro e w1 ⟨rfl, hb1⟩
      have HB1 := Lib.hid (bth HA.out hb1 (Nat.le_refl _))
      have d0 := (P0.out.below hb1 hsz).cells.1
      clear hb1 c0 c1
      go_wp2_with fail
      refine (HL.out w1 HB1.out).mono ?_
      rintro e w2 ⟨rfl, hb2⟩
      have HB2 := Lib.hid (bth HB1.out hb2 (Nat.le_refl _))
      clear hb2 d0
      go_wp2_with fail
      go_ret
      exact ⟨by simp, HB2.out⟩
    · have he1 : ((ts.length : Int) == (ls.length : Int)) = false := by simp; omega
      rw [decide_eq_false he]
      clear he
      go_enter Try.func49, Try.ntmps49
      go_wp2_with fail
      rw [← HWA.out]
      refine HCC.out.mono ?_
      rintro e w1 ⟨rfl, hb1⟩
      have HB1 := Lib.hid (bth HA.out hb1 (Nat.le_refl _))
      have d0 := (P0.out.below hb1 hsz).cells.1
      clear hb1 c0 c1
      go_wp2_with fail
      go_ret
      exact ⟨rfl, HB1.out⟩

set_option maxRecDepth 20000 in
set_option maxHeartbeats 8000000 in
theorem greatest_any (b ps : List Int) (v y : Value) (w : World) (hb : RowV w v (I b)) (hp : RowV w y (I ps)) (hr : ∀ x ∈ ps, 0 ≤ x ∧ x < (b.length : Int)) :
    Calls Try.prog 79 #[v, y] w fun e w' => e = .returned (.int .i64 (greatF (atI b) ps)) ∧ w' = w := by
  obtain ⟨ab, cb, rfl, hb1, hb2, hbt⟩ := hb.ints
  obtain ⟨ap, cp, rfl, hp1, hp2, hpt⟩ := hp.ints
  unfold maxLen at hb2 hp2
  have HBT := Lib.hid hbt
  have HPT := Lib.hid hpt
  have HRR := Lib.hid hr
  clear hbt hpt hb hp hr
  go_enter Try.func79, Try.ntmps79
  go_wp2_with fail
  go_loop [5, 10] (fun q i => ∃ k : Nat, k ≤ ps.length ∧ i = .int .i64 k ∧ Hid (q = .int .i64 (greatF (atI b) (ps.take k)))) (fun _ i => ps.length - (intOf i).toNat)
  case atStart => exact ⟨0, Nat.zero_le _, rfl, rfl⟩
  case round =>
    obtain ⟨k, hk, rfl, HQ⟩ := hrel
    have hq := HQ.out
    clear HQ
    subst hq
    by_cases hlt : k < ps.length
    · obtain ⟨g, o, hgo, hg, hcell0⟩ := HPT.out k hlt
      subst hgo
      have hxr := HRR.out ps[k] (List.getElem_mem hlt)
      obtain ⟨kn, hkn⟩ : ∃ kn : Nat, ps[k] = kn := ⟨ps[k].toNat, by omega⟩
      have hkl : kn < b.length := by omega
      have hkl2 : (kn : Int) < (b.length : Int) := by omega
      have hcell : w.cell? ⟨g, o + k, none⟩ = some (.int .i64 (kn : Int)) := by rw [hcell0, hkn]
      obtain ⟨g1, o1, hgo1, hg1, hcell1⟩ := HBT.out kn hkl
      subst hgo1
      have hck : w.cell? ⟨g1, o1 + kn, none⟩ = some (.int .i64 (atI b (kn : Int))) := by rw [hcell1, atI_get hkl]
      obtain ⟨r, hr⟩ : ∃ r, greatF (atI b) (ps.take (k + 1)) = r := ⟨_, rfl⟩
      have hmx : max (greatF (atI b) (ps.take k)) (atI b (kn : Int)) = r := by
        rw [← hr, List.take_succ_eq_append_getElem hlt, greatF_snoc, hkn, Int.max_def]
        split <;> split <;> omega
      have HRE := Lib.hid hr
      clear hr hkn hcell0 hcell1 hxr
      generalize greatF (atI b) (ps.take k) = q at *
      generalize atI b (kn : Int) = x at *
      go_wp2_with fail
      go_round
      case rel => exact ⟨k + 1, by omega, by go_num, by show _ = _; rw [HRE.out]⟩
      case measure => simp [intOf]; omega
    · have he : ps.take k = ps := List.take_of_length_le (by omega)
      rw [he]
      clear he
      go_wp2_with fail
      go_ret
      exact ⟨rfl, rfl⟩

set_option maxRecDepth 20000 in
set_option maxHeartbeats 8000000 in
theorem longestOver_any (n : Nat) (ord ts : List Int) (ahs : List (List Int)) (v1 v2 v3 : Value) (w : World) (h1 : RowV w v1 (I ord)) (h2 : RowN w v2 ahs) (h3 : RowV w v3 (I ts))
    (hA : Along n (needsAt ahs) ord) (hT : TimesT n ts) (hn : ahs.length = n) (h10 : n ≤ 10) :
    Calls Try.prog 50 #[v1, v2, v3] w (IntsPost w.heap.size (longL (needsAt ahs) ts n ord) w) := by
  obtain ⟨ao, co, hv1, ho1, ho2, hao⟩ := h1.ints
  obtain ⟨an, cn, hv2, hn1, hn2, hat⟩ := h2.lists
  obtain ⟨tm, tc, hv3, ht1, ht2, htt⟩ := h3.ints
  rw [hA.len] at hv1 ho1
  rw [hn] at hv2 hn1
  rw [hT.len] at hv3 ht1
  subst hv1 hv2 hv3
  unfold maxLen at ho2 hn2 ht2
  have HAO := Lib.hid hao
  have HAT := Lib.hid hat
  have HTT := Lib.hid htt
  have HAL := Lib.hid hA
  have HTM := Lib.hid hT
  have HN := Lib.hid hn
  clear hao hat htt h1 h2 h3 hA hT hn
  obtain ⟨csI, hcI, mI⟩ := make_alloc elemI rfl n (by omega)
  have hH := (own_of_heap (w := w.alloc (.cells csI 3)) (B := w.heap.size) (heap_alloc_new w _) (Nat.le_refl _) hcI (by simp) (show n ≤ maxLen by unfold maxLen; omega))
  have HB0 : Hid (Below w.heap.size w (w.alloc (.cells csI 3))) := (Below.refl w.heap.size w).alloc (Nat.le_refl _) _
  have e0 : List.replicate n (Value.int .i64 0) = I (List.replicate n 0) := by simp [I]
  rw [e0] at hH
  have HO0 := Lib.hid hH
  obtain ⟨w2, hw2⟩ : ∃ w2, w2 = w.alloc (.cells csI 3) := ⟨_, rfl⟩
  rw [← hw2] at HO0 HB0
  have HW2 := Lib.hid hw2
  clear hcI hH e0 hw2
  go_enter Try.func50, Try.ntmps50
  go_wp2_with fail
  rw [← HW2.out]
  clear mI HW2
  go_loopw [15] (fun i wr => ∃ k : Nat, k ≤ n ∧ i = .int .i64 (k : Int) ∧ Hid (wr.ownsRow w.heap.size 3 1 (.slice (some ⟨w.heap.size, 0, none⟩) n n) n (I (longL (needsAt ahs) ts n (ord.take k)))) ∧ Hid (Below w.heap.size w wr)) (fun i _ => n - (intOf i).toNat)
  case atStart => exact ⟨0, Nat.zero_le _, rfl, HO0, HB0⟩
  case round =>
    clear HO0 HB0
    obtain ⟨k, hk, rfl, HO, HB⟩ := hrel
    by_cases hlt : k < n
    · have hko : k < ord.length := by rw [HAL.out.len]; exact hlt
      obtain ⟨g, o, hgo, hg, hcell0⟩ := HAO.out k hko
      subst hgo
      have hor := (HAL.out.all _).1 (List.getElem_mem hko)
      obtain ⟨un, hun⟩ : ∃ un : Nat, ord[k] = un := ⟨ord[k].toNat, by omega⟩
      have hul : un < n := by omega
      have hul2 : (un : Int) < (n : Int) := by omega
      have hcell : wr.cell? ⟨g, o + k, none⟩ = some (.int .i64 (un : Int)) := by rw [HB.out.cell (p := ⟨g, o + k, none⟩) hg, hcell0, hun]
      have hua : un < ahs.length := by rw [HN.out]; exact hul
      obtain ⟨g1, o1, a2, c2, hgn, hg1, hcell1, hrow⟩ := HAT.out un hua
      subst hgn
      have hcn : wr.cell? ⟨g1, o1 + un, none⟩ = some (.slice a2 ahs[un].length c2) := (HB.out.cell (p := ⟨g1, o1 + un, none⟩) hg1).trans hcell1
      have htl : un < ts.length := by rw [HTM.out.len]; exact hul
      obtain ⟨tg, tf, hto, htg, htc0⟩ := HTT.out un htl
      subst hto
      have htc : wr.cell? ⟨tg, tf + un, none⟩ = some (.int .i64 (atI ts (un : Int))) := by rw [HB.out.cell (p := ⟨tg, tf + un, none⟩) htg, htc0, atI_get htl]
      have htb := HTM.out.at (y := (un : Int)) (by omega)
      have hbe : ∀ x ∈ ahs[un], 0 ≤ x ∧ x < (n : Int) := fun x hx => (HAL.out.all x).1 (List.mem_of_mem_take (HAL.out.before k hko x (by rw [hun, needsAt_get hua]; exact hx)))
      have hgr := HAL.out.great HTM.out (show k ≤ ord.length by omega) (ps := ahs[un]) (fun x hx => (hbe x hx).1)
      have hbk : (longL (needsAt ahs) ts n (ord.take k)).length = n := longL_len _ _ _ _
      have HM := Lib.hid (fun W (hW : Below wr.heap.size wr W) => greatest_any (longL (needsAt ahs) ts n (ord.take k)) ahs[un] (.slice (some ⟨w.heap.size, 0, none⟩) n n) (.slice a2 ahs[un].length c2) W (RowV.of_own (own_below HO.out hW)) (hrow.below (bth HB.out hW (Nat.le_refl _))) (by rw [hbk]; exact hbe))
      have HBK : Hid (longL (needsAt ahs) ts n (ord.take (k + 1)) = (longL (needsAt ahs) ts n (ord.take k)).set un (atI ts (un : Int) + greatF (atI (longL (needsAt ahs) ts n (ord.take k))) ahs[un])) := by
        show _ = _
        rw [List.take_succ_eq_append_getElem hko, longL_snoc, hun, longStep, needsAt_get hua]
        rfl
      generalize greatF (atI (longL (needsAt ahs) ts n (ord.take k))) ahs[un] = gg at *
      generalize longL (needsAt ahs) ts n (ord.take k) = bk at *
      have hcu : wr.cell? ⟨w.heap.size, un, none⟩ = some (.int .i64 (atI bk (un : Int))) := by rw [HO.out.cellAt un (by omega), I_atE (by omega), atI_get (by omega)]
      have hf2 := HO.out.frozenAt un
      have hst := HO.out.stored un (.int .i64 (atI ts (un : Int) + gg))
      rw [I_setE, ← HBK.out] at hst
      have HO1 := Lib.hid hst.1
      have HB1 := Lib.hid (HB.out.trans (only_below hst.2 (Nat.le_refl _) HB.out.size))
      clear hst hcell0 hcell1 hrow hbk hun htc0 hor hbe HBK HO HB
      generalize ahs[un].length = n1 at *
      generalize atI ts (un : Int) = tt at *
      have hwr : IntKind.i64.wrap (tt + gg) = tt + gg := by rw [IntKind.wrap_i64]; omega
      go_wp2_with fail
      go_region_with (go_at_call 79; first | (refine (HM.out _ (Below.refl _ _)).mono ?_; rintro e w9 ⟨rfl, rfl⟩) | (refine (HM.out _ (Below.drew (Below.refl _ _))).mono ?_; rintro e w9 ⟨rfl, rfl⟩))
      all_goals
        go_wp2_with fail
        go_roundw
        case rel => exact ⟨k + 1, by omega, by go_num, HO1, Lib.hid (Below.drew HB1.out)⟩
        case measure => simp [intOf]; omega
    · rw [List.take_of_length_le (by rw [HAL.out.len]; omega)] at HO
      go_wp2_with fail
      go_ret
      exact ⟨_, rfl, by rw [longL_len]; exact HO.out, HB.out⟩

set_option maxRecDepth 20000 in
set_option maxHeartbeats 8000000 in
theorem implEnds_any (ls : List (List Int)) (l ts : List Int) (v u : Value) (w : World) (hst : GraphV w v ls l) (hrow : RowV w u (I ts)) :
    Calls Try.prog 14 #[v, u] w (ListOk (ifL (timesG ls l ts) (endsL ls l ts)) (timesG ls l ts) w) := by
  have HV := Lib.hid hst
  have HR := Lib.hid hrow
  obtain ⟨nv, ov, rfl, h1, h2⟩ := hst
  obtain ⟨an, cn, rfl, hn1, hn2, hat⟩ := h1.lists
  obtain ⟨ao, co, rfl, ho1, ho2, hao⟩ := h2.ints
  obtain ⟨tm, tc, rfl, ht1, ht2, htt⟩ := hrow.ints
  clear h1 h2 hrow
  unfold maxLen at hn2 ho2 ht2
  have HAT := Lib.hid hat
  have HAO := Lib.hid hao
  have HTT := Lib.hid htt
  clear hat hao htt
  obtain ⟨wa, hwa⟩ : ∃ wa, wa = w.alloc (.cells #[.slice an ls.length cn, .slice ao l.length co] 26) := ⟨_, rfl⟩
  have P0 : Hid (Blk2 wa w.heap.size 26 (.slice an ls.length cn) (.slice ao l.length co)) := by rw [hwa]; exact Blk2.new
  have HA : Hid (Below w.heap.size w wa) := by rw [hwa]; exact (Below.refl w.heap.size w).alloc (Nat.le_refl _) _
  have hsa : wa.heap.size = w.heap.size + 1 := by rw [hwa]; simp
  have HSA := Lib.hid hsa
  have hsz : w.heap.size < wa.heap.size := by omega
  have HWA := Lib.hid hwa
  obtain ⟨c0, c1⟩ := P0.out.cells
  have HC := areTimesOf_any ls l ts _ _ wa (HV.out.below HA.out) (HR.out.below HA.out)
  clear hwa hsa
  rcases hT : timesG ls l ts with _ | _
  · rw [hT] at HC
    have HCC := Lib.hid HC
    clear HC hT
    go_enter Try.func14, Try.ntmps14
    go_wp2_with fail
    rw [← HWA.out]
    refine HCC.out.mono ?_
    rintro e w1 ⟨rfl, hb1⟩
    have HB1 := Lib.hid (bth HA.out hb1 (Nat.le_refl _))
    clear hb1 c0 c1
    go_wp2_with fail
    go_ret2
    exact ⟨_, rfl, none_ownZ _ _ _, HB1.out⟩
  · rw [hT] at HC
    have HCC := Lib.hid HC
    obtain ⟨hG, hTT⟩ := timesG_yes hT
    have HG := Lib.hid hG
    have HTM := Lib.hid hTT
    clear HC hT hG hTT
    go_enter Try.func14, Try.ntmps14
    go_wp2_with fail
    rw [← HWA.out]
    refine HCC.out.mono ?_
    rintro e w1 ⟨rfl, hb1⟩
    have HB1 := Lib.hid (bth HA.out hb1 (Nat.le_refl _))
    have P1 := Lib.hid (P0.out.below hb1 hsz)
    have hsz1 := Nat.lt_of_lt_of_le hsz hb1.size
    obtain ⟨d0, d1⟩ := P1.out.cells
    have hgr := graph_rows (HV.out.below HB1.out)
    have HU := Lib.hid (longestOver_any ls.length l ts ls _ _ _ w1 hgr.2 hgr.1 (HR.out.below HB1.out) (along_needs HG.out.toP) HTM.out rfl HG.out.high)
    clear hb1 c0 c1 hgr
    go_wp2_with fail
    refine HU.out.mono ?_
    rintro e w2 ⟨v2, rfl, ho, hb2⟩
    have HO2 := Lib.hid (own_base ho HB1.out.size)
    have HB2 := Lib.hid (bth HB1.out hb2 (Nat.le_refl _))
    clear ho hb2
    go_wp2_with fail
    go_ret2
    exact ⟨_, rfl, HO2.out, HB2.out⟩

end Go.Proofs.Ytgolhfmmlanmlaa

/- Walks: the users of all, a list turned about, the program's tails. -/
namespace Go.Proofs.Ytgolhfmmlanmlaa
open Go.RowKit Pth Go.Lib Go.Sort

def usersM (ls : List (List Int)) : List (List Int) := (upto ls.length).map (usersL ls)
theorem usersM_len (ls : List (List Int)) : (usersM ls).length = ls.length := by simp [usersM, upto_len]
theorem usersM_at {ls : List (List Int)} {x : Int} (hx : 0 ≤ x ∧ x < (ls.length : Int)) : needsAt (usersM ls) x = usersL ls x := by
  obtain ⟨k, rfl⟩ : ∃ k : Nat, x = k := ⟨x.toNat, by omega⟩
  rw [needsAt_get (by rw [usersM_len]; omega)]
  simp [usersM, upto_get]
theorem upto_map_succN (n : Nat) (f : Int → List Int) : (upto (n + 1)).map f = (upto n).map f ++ [f n] := by rw [upto_succ, List.map_append]; rfl
theorem longL_congr {ah ah' : Int → List Int} {ts : List Int} {n : Nat} {ord : List Int} (h : ∀ u ∈ ord, ah u = ah' u) : longL ah ts n ord = longL ah' ts n ord := by
  unfold longL
  generalize List.replicate n (0 : Int) = b
  induction ord generalizing b with
  | nil => rfl
  | cons x r ih =>
    rw [List.foldl_cons, List.foldl_cons, longStep, longStep, h x (by simp)]
    exact ih (fun u hu => h u (by simp [hu])) _
theorem along_usersM {ls : List (List Int)} {l : List Int} (h : GoodP ls l) : Along ls.length (needsAt (usersM ls)) l.reverse := by
  have HA := along_users h
  refine ⟨HA.nodup, HA.all, fun k hk x hx => HA.before k hk x ?_⟩
  rwa [usersM_at ((HA.all _).1 (List.getElem_mem hk))] at hx
theorem tailsL_M {ls : List (List Int)} {l ts : List Int} (h : GoodP ls l) : longL (needsAt (usersM ls)) ts ls.length l.reverse = tailsL ls l ts :=
  longL_congr (fun u hu => usersM_at (((along_users h).all u).1 hu))
theorem reverse_any (l : List Int) (v : Value) (B : Nat) (w : World) (hown : w.ownsRow B 3 1 v l.length (I l)) (hl : l.length ≤ 1000000) (hne : 0 < l.length) :
    Calls Try.prog 53 #[v] w fun e w' => e = .returned (.tuple #[]) ∧ w'.ownsRow B 3 1 v l.reverse.length (I l.reverse) ∧ Below B w w' := by
  rcases hown.2 with ⟨hv, h0⟩ | ⟨g, cap, cur, hv, hBg, hh, h1, h2, h3, h4⟩
  · omega
  · subst hv
    have hH := holds_of_blockI (ss := l) hh (by rw [Nat.mul_one] at h4; rw [← I_enc]; exact h4)
    refine (Try.slices_Reverse_int g 0 cap l w hH (by omega)).mono ?_
    rintro e w' ⟨he, q, rfl⟩
    refine ⟨he, ?_, below_putRow (Below.refl B w) hBg⟩
    have := ownsRow_putRow (enc := Value.int .i64) (q := q) (k := l.length) (zs := l) (ys := l.reverse) hown (by simp) (Nat.le_refl _)
    rw [List.take_of_length_le (by simp)] at this
    rw [List.length_reverse]
    exact this
theorem fill_one {α : Type} (sk : List α) (z x : α) (n k : Nat) (hk : sk.length = k) (hn : k < n) : (sk ++ List.replicate (n - k) z).set k x = (sk ++ [x]) ++ List.replicate (n - (k + 1)) z := by
  subst hk
  rw [List.set_append_right _ _ (Nat.le_refl _), Nat.sub_self, show n - sk.length = (n - (sk.length + 1)) + 1 by omega, List.replicate_succ, List.set_cons_zero, List.append_assoc]
  rfl

set_option maxRecDepth 20000 in
set_option maxHeartbeats 8000000 in
theorem usersOfAll_any (ls : List (List Int)) (l : List Int) (v : Value) (w : World) (hst : GraphV w v ls l) (hG : goodG ls l = true) :
    Calls Try.prog 39 #[v] w fun e w' => ∃ v' sl, e = .returned v' ∧ OwnN w.heap.size w' v' sl (usersM ls) ∧ Below w.heap.size w w' := by
  have HV := Lib.hid hst
  obtain ⟨nv, ov, rfl, h1, h2⟩ := hst
  obtain ⟨an, cn, rfl, hn1, hn2, _⟩ := h1.lists
  obtain ⟨ao, co, rfl, ho1, ho2, _⟩ := h2.ints
  clear h1 h2
  unfold maxLen at hn2 ho2
  obtain ⟨wa, hwa⟩ : ∃ wa, wa = w.alloc (.cells #[.slice an ls.length cn, .slice ao l.length co] 26) := ⟨_, rfl⟩
  have P0 : Hid (Blk2 wa w.heap.size 26 (.slice an ls.length cn) (.slice ao l.length co)) := by rw [hwa]; exact Blk2.new
  have HA : Hid (Below w.heap.size w wa) := by rw [hwa]; exact (Below.refl w.heap.size w).alloc (Nat.le_refl _) _
  have hsa : wa.heap.size = w.heap.size + 1 := by rw [hwa]; simp
  have HSA := Lib.hid hsa
  have hsz : w.heap.size < wa.heap.size := by omega
  have HWA := Lib.hid hwa
  have h10 := (goodG_iff.1 hG).high
  have HG := Lib.hid hG
  obtain ⟨csN, hcN, mN⟩ := make_alloc elemN rfl ls.length (by omega)
  have hH := (own_of_heap (w := wa.alloc (.cells csN 24)) (B := wa.heap.size) (heap_alloc_new wa _) (Nat.le_refl _) hcN (by simp) (show ls.length ≤ maxLen by unfold maxLen; omega))
  have HB0 : Hid (Below wa.heap.size wa (wa.alloc (.cells csN 24))) := (Below.refl wa.heap.size wa).alloc (Nat.le_refl _) _
  rw [hsa] at hH
  have c0 := P0.out.cells.1
  rw [hwa] at c0
  have HO0 := Lib.hid hH
  obtain ⟨w2, hw2⟩ : ∃ w2, w2 = wa.alloc (.cells csN 24) := ⟨_, rfl⟩
  rw [← hw2] at HO0 HB0
  rw [hwa] at hw2
  have HW2 := Lib.hid hw2
  clear hwa hsa hH hw2 hcN hG
  go_enter Try.func39, Try.ntmps39
  go_wp2_with fail
  rw [← HW2.out]
  clear c0 mN HW2
  go_loopw [11] (fun i wr => ∃ (k : Nat) (sk : List Value), k ≤ ls.length ∧ i = .int .i64 (k : Int) ∧ Hid (sk.length = k) ∧ Hid (wr.ownsRow (w.heap.size + 1) 24 1 (.slice (some ⟨w.heap.size + 1, 0, none⟩) ls.length ls.length) ls.length (sk ++ List.replicate (ls.length - k) (.slice none 0 0))) ∧ Hid (Lists (w.heap.size + 1) wr (sk.zip ((upto k).map (usersL ls)))) ∧ Hid (Below wa.heap.size wa wr)) (fun i _ => ls.length - (intOf i).toNat)
  case atStart => exact ⟨0, [], Nat.zero_le _, rfl, rfl, HO0, ⟨by simp, by simp⟩, HB0⟩
  case round =>
    clear HO0 HB0
    obtain ⟨k, sk, hk, rfl, HSK, HO, HL, HB⟩ := hrel
    by_cases hlt : k < ls.length
    · have HBW := Lib.hid (bth HA.out HB.out (Nat.le_refl _))
      obtain ⟨d0, d1⟩ := (P0.out.below HB.out hsz).cells
      have hkl2 : (k : Int) < (ls.length : Int) := by omega
      have HU := implUsers_any ls l (k : Int) _ wr (HV.out.below HBW.out)
      have htk : taskG ls l (k : Int) = true := by rw [taskG_in HG.out]; simp; omega
      rw [usersA_yes htk, htk] at HU
      have HUU := Lib.hid HU
      have hbs := HB.out.size
      clear HU htk
      go_wp2_with fail
      refine HUU.out.mono ?_
      rintro e w1 ⟨v1, rfl, ho1', hb1⟩
      have HO1 := own_below HO.out hb1
      have hcu : w1.cell? ⟨w.heap.size + 1, k, none⟩ = some (.slice none 0 0) := by
        rw [HO1.cellAt k (by omega), List.getElem?_append_right (by rw [HSK.out]; exact Nat.le_refl _), HSK.out, Nat.sub_self, List.getElem?_replicate, if_pos (by omega)]
      have hf2 := HO1.frozenAt k
      obtain ⟨qa, qc, hq⟩ := own_slice ho1'
      subst hq
      have hst := HO1.stored k (.slice qa (usersL ls (k : Int)).length qc)
      have hl1 := (HL.out.snoc hb1 ho1' (Nat.le_refl _) (by have := HSA.out; omega))
      rw [fill_one sk _ _ _ k HSK.out hlt] at hst
      have HO2 := Lib.hid hst.1
      have hz : sk.zip ((upto k).map (usersL ls)) ++ [(Value.slice qa (usersL ls (k : Int)).length qc, usersL ls (k : Int))] = (sk ++ [Value.slice qa (usersL ls (k : Int)).length qc]).zip ((upto (k + 1)).map (usersL ls)) := by
        rw [upto_map_succN, List.zip_append (by rw [HSK.out]; simp [upto_len])]
        rfl
      rw [hz] at hl1
      have HL2 := Lib.hid (hl1.outer HO1 (by decide) hst.2)
      have HB2 := Lib.hid ((bth HB.out hb1 (Nat.le_refl _)).trans (only_below hst.2 (by have := HSA.out; omega) (Nat.le_trans hbs hb1.size)))
      clear hst hl1 hz HO1 HO HL HB ho1' hb1 d0 d1
      generalize usersL ls (k : Int) = us at *
      go_wp2_with fail
      go_roundw
      case rel => exact ⟨k + 1, _, by omega, by go_num, by show _ = _; rw [List.length_append, HSK.out]; rfl, HO2, HL2, HB2⟩
      case measure => simp [intOf]; omega
    · obtain rfl : k = ls.length := by omega
      have ho := HO.out
      rw [Nat.sub_self, List.replicate_zero, List.append_nil] at ho
      have HO2 := Lib.hid ho
      clear ho HO
      go_wp2_with fail
      go_ret
      exact ⟨_, sk, rfl, ⟨by rw [HSK.out, usersM_len], by rw [usersM_len]; exact own_base HO2.out (by omega), HL.out.base (by omega)⟩, bth HA.out HB.out (Nat.le_refl _)⟩

set_option maxRecDepth 20000 in
set_option maxHeartbeats 8000000 in
theorem implTails_any (ls : List (List Int)) (l ts : List Int) (v u : Value) (w : World) (hst : GraphV w v ls l) (hrow : RowV w u (I ts)) :
    Calls Try.prog 19 #[v, u] w (ListOk (ifL (timesG ls l ts) (tailsL ls l ts)) (timesG ls l ts) w) := by
  have HV := Lib.hid hst
  have HR := Lib.hid hrow
  obtain ⟨nv, ov, rfl, h1, h2⟩ := hst
  obtain ⟨an, cn, rfl, hn1, hn2, hat⟩ := h1.lists
  obtain ⟨ao, co, rfl, ho1, ho2, hao⟩ := h2.ints
  obtain ⟨tm, tc, rfl, ht1, ht2, htt⟩ := hrow.ints
  clear h1 h2 hrow
  unfold maxLen at hn2 ho2 ht2
  have HAT := Lib.hid hat
  have HAO := Lib.hid hao
  have HTT := Lib.hid htt
  clear hat hao htt
  obtain ⟨wa, hwa⟩ : ∃ wa, wa = w.alloc (.cells #[.slice an ls.length cn, .slice ao l.length co] 26) := ⟨_, rfl⟩
  have P0 : Hid (Blk2 wa w.heap.size 26 (.slice an ls.length cn) (.slice ao l.length co)) := by rw [hwa]; exact Blk2.new
  have HA : Hid (Below w.heap.size w wa) := by rw [hwa]; exact (Below.refl w.heap.size w).alloc (Nat.le_refl _) _
  have hsa : wa.heap.size = w.heap.size + 1 := by rw [hwa]; simp
  have HSA := Lib.hid hsa
  have hsz : w.heap.size < wa.heap.size := by omega
  have HWA := Lib.hid hwa
  obtain ⟨c0, c1⟩ := P0.out.cells
  have HC := areTimesOf_any ls l ts _ _ wa (HV.out.below HA.out) (HR.out.below HA.out)
  clear hwa hsa
  rcases hT : timesG ls l ts with _ | _
  · rw [hT] at HC
    have HCC := Lib.hid HC
    clear HC hT
    go_enter Try.func19, Try.ntmps19
    go_wp2_with fail
    rw [← HWA.out]
    refine HCC.out.mono ?_
    rintro e w1 ⟨rfl, hb1⟩
    have HB1 := Lib.hid (bth HA.out hb1 (Nat.le_refl _))
    clear hb1 c0 c1
    go_wp2_with fail
    go_ret2
    exact ⟨_, rfl, none_ownZ _ _ _, HB1.out⟩
  · rw [hT] at HC
    have HCC := Lib.hid HC
    obtain ⟨hG, hTT⟩ := timesG_yes hT
    have HG := Lib.hid hG
    have HTM := Lib.hid hTT
    clear HC hT hG hTT
    go_enter Try.func19, Try.ntmps19
    go_wp2_with fail
    rw [← HWA.out]
    refine HCC.out.mono ?_
    rintro e w1 ⟨rfl, hb1⟩
    have HB1 := Lib.hid (bth HA.out hb1 (Nat.le_refl _))
    have P1 := Lib.hid (P0.out.below hb1 hsz)
    have hsz1 := Nat.lt_of_lt_of_le hsz hb1.size
    obtain ⟨d0, d1⟩ := P1.out.cells
    have hl10 : l.length ≤ 10 := by have := HG.out.same; have := HG.out.high; omega
    have HOW := Lib.hid (ownTasks_any l _ w1 (graph_rows (HV.out.below HB1.out)).2 (by omega))
    have hs1 := HB1.out.size
    clear hb1 c0 c1
    go_wp2_with fail
    refine HOW.out.mono ?_
    rintro e w2 ⟨v2, rfl, ho2', hb2⟩
    have HREV := Lib.hid (reverse_any l v2 w1.heap.size w2 ho2' (by omega) (by have := HG.out.same; have := HG.out.low; omega))
    have K2 := Lib.hid (bth HB1.out hb2 (Nat.le_refl _))
    have P2 := Lib.hid (P1.out.below hb2 hsz1)
    have hs2 := hb2.size
    have X2 := Lib.hid hb2
    obtain ⟨qa, qc, hq⟩ := own_slice ho2'
    subst hq
    clear ho2' hb2 d0 d1
    go_wp2_with fail
    refine HREV.out.mono ?_
    rintro e w3 ⟨rfl, ho3, hb3⟩
    have HO3 := Lib.hid ho3
    have K3 := Lib.hid (K2.out.trans (hb3.mono hs1))
    have P3 := Lib.hid (P2.out.below hb3 hsz1)
    have hs3 := hb3.size
    obtain ⟨d0, d1⟩ := P3.out.cells
    have hgood : goodG ls l = true := goodG_iff.2 HG.out
    have HUS := Lib.hid (usersOfAll_any ls l _ w3 (HV.out.below K3.out) hgood)
    clear ho3 hb3 HREV HOW hgood
    go_wp2_with fail
    refine HUS.out.mono ?_
    rintro e w4 ⟨v4, sl, rfl, ho4, hb4⟩
    have K4 := Lib.hid (bth K3.out hb4 (Nat.le_refl _))
    have HLO := longestOver_any ls.length l.reverse ts (usersM ls) (.slice qa l.length qc) v4 (.slice tm ts.length tc) w4 (RowV.of_own (own_below HO3.out hb4)) ho4.view (HR.out.below K4.out) (along_usersM HG.out.toP) HTM.out (usersM_len ls) HG.out.high
    rw [tailsL_M HG.out.toP] at HLO
    have HLL := Lib.hid HLO
    obtain ⟨ua, uc, hu⟩ := own_slice ho4.2.1
    subst hu
    clear HLO ho4 hb4 d0 d1 HUS
    go_wp2_with fail
    refine HLL.out.mono ?_
    rintro e w5 ⟨v5, rfl, ho5, hb5⟩
    have HO5 := Lib.hid (own_base ho5 K4.out.size)
    have HB5 := Lib.hid (bth K4.out hb5 (Nat.le_refl _))
    clear ho5 hb5 HLL
    go_wp2_with fail
    go_ret2
    exact ⟨_, rfl, HO5.out, HB5.out⟩

end Go.Proofs.Ytgolhfmmlanmlaa
