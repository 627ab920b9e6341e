/- Texts of one claim, joined in their order. -/
import GoSem.Op.String
import Derived.ProofKit
import Derived.SliceStrings
import Derived.SizedLaws
import Derived.OpenShut
import Derived.Deep.SlicePairs
import Derived.Lib.SmallJoins
import Derived.Deep.DeepHandedRow
import Derived.Deep.DeepLaidRun
import Derived.Test.YtgolhfmmlanmlaaGreatDoorM1

/- Plain mathematics of stores: texts in order, files, what is taken; no program. -/
namespace Go.Proofs.YtgolhfmmlanmlaaGreatDoor
namespace Pth

/-- One text is less than another. -/
def ltT (a b : List UInt8) : Bool := Op.bytesLess a b
theorem ltT_nil (b : List UInt8) : ltT b [] = false := by cases b <;> rfl
theorem ltT_nil_cons (c : UInt8) (t : List UInt8) : ltT [] (c :: t) = true := rfl
theorem ltT_cons (c d : UInt8) (a b : List UInt8) : ltT (c :: a) (d :: b) = (decide (c < d) || (c == d && ltT a b)) := by
  unfold ltT
  rw [Op.bytesLess]
theorem ltT_irrefl (a : List UInt8) : ltT a a = false := by
  induction a with
  | nil => rfl
  | cons c t ih => rw [ltT_cons, ih]; simp
theorem ltT_trans {a b c : List UInt8} (h1 : ltT a b = true) (h2 : ltT b c = true) : ltT a c = true := by
  induction a generalizing b c with
  | nil =>
    cases b with
    | nil => rw [ltT_nil] at h1; cases h1
    | cons x t =>
      cases c with
      | nil => rw [ltT_nil] at h2; cases h2
      | cons y u => rfl
  | cons x t ih =>
    cases b with
    | nil => rw [ltT_nil] at h1; cases h1
    | cons y u =>
      cases c with
      | nil => rw [ltT_nil] at h2; cases h2
      | cons z v =>
        rw [ltT_cons] at h1 h2 ⊢
        simp only [Bool.or_eq_true, decide_eq_true_iff, Bool.and_eq_true, beq_iff_eq] at h1 h2 ⊢
        rcases h1 with h1 | ⟨rfl, h1⟩
        · rcases h2 with h2 | ⟨rfl, h2⟩
          · exact .inl (UInt8.lt_trans h1 h2)
          · exact .inl h1
        · rcases h2 with h2 | ⟨rfl, h2⟩
          · exact .inl h2
          · exact .inr ⟨rfl, ih h1 h2⟩
theorem ltT_total (a b : List UInt8) : ltT a b = true ∨ a = b ∨ ltT b a = true := by
  induction a generalizing b with
  | nil =>
    cases b with
    | nil => exact .inr (.inl rfl)
    | cons y u => exact .inl rfl
  | cons x t ih =>
    cases b with
    | nil => exact .inr (.inr rfl)
    | cons y u =>
      rw [ltT_cons, ltT_cons]
      simp only [Bool.or_eq_true, decide_eq_true_iff, Bool.and_eq_true, beq_iff_eq]
      rcases Nat.lt_trichotomy x.toNat y.toNat with h | h | h
      · exact .inl (.inl (UInt8.lt_iff_toNat_lt.2 h))
      · obtain rfl : x = y := UInt8.toNat_inj.1 h
        rcases ih u with h1 | rfl | h1
        · exact .inl (.inr ⟨rfl, h1⟩)
        · exact .inr (.inl rfl)
        · exact .inr (.inr (.inr ⟨rfl, h1⟩))
      · exact .inr (.inr (.inl (UInt8.lt_iff_toNat_lt.2 h)))

/-- A file: its name and its body. -/
abbrev FileT := List UInt8 × List UInt8
def nameOk (n : List UInt8) : Bool := pathL n && (decide (n.length ≤ 20) && (cleanL n == n))
def fileOk (f : FileT) : Bool := nameOk f.1 && decide (f.2.length ≤ 40)
def riseN (l : List (List UInt8)) : Bool := decide (l.Pairwise (fun a b => ltT a b = true))
def goodF (l : List FileT) : Bool := l.all fileOk && (riseN (l.map (·.1)) && decide (l.length ≤ 12))

def findF : List FileT → List UInt8 → Int
  | [], _ => -1
  | f :: t, n => if f.1 = n then 0 else if findF t n = -1 then -1 else findF t n + 1
def putF : List FileT → FileT → List FileT
  | [], f => [f]
  | x :: t, f => if ltT x.1 f.1 = true then x :: putF t f else if x.1 = f.1 then f :: t else f :: x :: t
def dropF (l : List FileT) (n : List UInt8) : List FileT := l.filter (fun f => !(f.1 == n))
def putN : List (List UInt8) → List UInt8 → List (List UInt8)
  | [], n => [n]
  | x :: t, n => if ltT x n = true then x :: putN t n else if x = n then x :: t else n :: x :: t
def dropN (l : List (List UInt8)) (n : List UInt8) : List (List UInt8) := l.filter (fun x => !(x == n))

structure StoreT where
  files : List FileT
  staged : List FileT
  gone : List (List UInt8)
def noStore : StoreT := ⟨[], [], []⟩
def takenF (s : StoreT) : List FileT := s.gone.foldl dropF (s.staged.foldl putF s.files)
def goneOk (s : StoreT) : Bool := s.gone.all (fun n => nameOk n && decide (findF s.staged n = -1)) && riseN s.gone
def goodS (s : StoreT) : Bool := goodF s.files && (goodF s.staged && (decide (s.gone.length ≤ 12) && (goneOk s && goodF (takenF s))))

/-- What is told: the store where it is good. -/
def tellT (s : StoreT) : StoreT := if goodS s = true then s else noStore
def stageFT (s : StoreT) (n b : List UInt8) : StoreT := ⟨s.files, putF s.staged (n, b), dropN s.gone n⟩
def stageGT (s : StoreT) (n : List UInt8) : StoreT := ⟨s.files, dropF s.staged n, putN s.gone n⟩

/-! Rising. -/
theorem riseN_iff {l : List (List UInt8)} : riseN l = true ↔ l.Pairwise (fun a b => ltT a b = true) := by simp [riseN]
theorem riseN_next {l : List (List UInt8)} {k : Nat} (hk : k < l.length) (h : riseN (l.take k) = true) (h3 : ∀ h0 : 0 < k, ltT l[k - 1] l[k] = true) : riseN (l.take (k + 1)) = true := by
  rw [riseN_iff] at h ⊢
  rw [List.take_succ_eq_append_getElem hk, List.pairwise_append]
  refine ⟨h, by simp, fun x hx y hy => ?_⟩
  rw [List.mem_singleton] at hy
  subst hy
  obtain ⟨j, hj, rfl⟩ := List.mem_iff_getElem.1 hx
  rw [List.length_take] at hj
  have h0 : 0 < k := by omega
  have h4 := h3 h0
  rw [List.getElem_take]
  rcases Nat.lt_or_ge j (k - 1) with hj1 | hj1
  · have h5 := List.pairwise_iff_getElem.1 h j (k - 1) (by rw [List.length_take]; omega) (by rw [List.length_take]; omega) hj1
    rw [List.getElem_take, List.getElem_take] at h5
    exact ltT_trans h5 h4
  · have : j = k - 1 := by omega
    subst this
    exact h4
theorem riseN_fall {l : List (List UInt8)} {k : Nat} (hk : k < l.length) (h0 : 0 < k) (h : ltT l[k - 1] l[k] = false) : riseN l = false := by
  rw [← Bool.not_eq_true, riseN_iff]
  intro hh
  have := List.pairwise_iff_getElem.1 hh (k - 1) k (by omega) hk (by omega)
  rw [this] at h
  cases h

/-! Finding. -/
theorem find_range (l : List FileT) (n : List UInt8) : -1 ≤ findF l n ∧ findF l n < l.length := by
  induction l with
  | nil => simp [findF]
  | cons f t ih =>
    unfold findF
    split
    · simp
    · split
      · simp; omega
      · simp only [List.length_cons]; omega
theorem find_none {l : List FileT} {n : List UInt8} (h : ∀ f ∈ l, f.1 ≠ n) : findF l n = -1 := by
  induction l with
  | nil => rfl
  | cons f t ih =>
    rw [findF, if_neg (h f (by simp)), ih (fun g hg => h g (by simp [hg])), if_pos rfl]
theorem find_hit {l : List FileT} {n : List UInt8} {k : Nat} (hk : k < l.length) (h0 : ∀ j (hj : j < k), (l[j]'(by omega)).1 ≠ n) (h1 : l[k].1 = n) : findF l n = k := by
  induction l generalizing k with
  | nil => simp at hk
  | cons f t ih =>
    cases k with
    | zero => rw [findF, if_pos (by simpa using h1)]; rfl
    | succ k =>
      have h2 : f.1 ≠ n := by simpa using h0 0 (by omega)
      have h3 := ih (k := k) (by simpa using hk) (fun j hj => by simpa using h0 (j + 1) (by omega)) (by simpa using h1)
      rw [findF, if_neg h2, h3, if_neg (by omega)]
      omega
theorem find_miss {l : List FileT} {n : List UInt8} (h : findF l n = -1) : ∀ f ∈ l, f.1 ≠ n := by
  induction l with
  | nil => simp
  | cons f t ih =>
    unfold findF at h
    split at h
    · cases h
    · rename_i h1
      split at h
      · rename_i h2
        intro g hg
        rcases List.mem_cons.1 hg with rfl | hg
        · exact h1
        · exact ih h2 g hg
      · have := (find_range t n).1
        omega

/-! Putting: by places. -/
theorem putF_start (l : List FileT) (f : FileT) : putF l f = l.take 0 ++ putF (l.drop 0) f := by simp
theorem putF_less {l : List FileT} {f : FileT} {k : Nat} (hk : k < l.length) (h : putF l f = l.take k ++ putF (l.drop k) f) (hx : ltT l[k].1 f.1 = true) : putF l f = l.take (k + 1) ++ putF (l.drop (k + 1)) f := by
  rw [h, List.drop_eq_getElem_cons hk, putF, if_pos hx, List.take_succ_eq_append_getElem hk, List.append_assoc, List.singleton_append]
theorem putF_there {l : List FileT} {f : FileT} {k : Nat} (hk : k < l.length) (h : putF l f = l.take k ++ putF (l.drop k) f) (hx : l[k].1 = f.1) : putF l f = (l.take k ++ [f]) ++ l.drop (k + 1) := by
  rw [h, List.drop_eq_getElem_cons hk, putF, if_neg (by rw [hx, ltT_irrefl]; simp), if_pos hx]; simp
theorem putF_new {l : List FileT} {f : FileT} {k : Nat} (h : putF l f = l.take k ++ putF (l.drop k) f) (hx : ∀ hk : k < l.length, ltT l[k].1 f.1 = false ∧ ¬ l[k].1 = f.1) : putF l f = (l.take k ++ [f]) ++ l.drop k := by
  rw [h]
  by_cases hk : k < l.length
  · have := hx hk
    rw [List.drop_eq_getElem_cons hk, putF, if_neg (by rw [this.1]; simp), if_neg this.2]; simp
  · rw [List.drop_of_length_le (by omega)]; simp [putF]
theorem putF_len (l : List FileT) (f : FileT) : (putF l f).length ≤ l.length + 1 := by
  induction l with
  | nil => simp [putF]
  | cons x t ih =>
    unfold putF
    split
    · simp only [List.length_cons]; omega
    · split <;> simp
theorem putN_start (l : List (List UInt8)) (n : List UInt8) : putN l n = l.take 0 ++ putN (l.drop 0) n := by simp
theorem putN_less {l : List (List UInt8)} {n : List UInt8} {k : Nat} (hk : k < l.length) (h : putN l n = l.take k ++ putN (l.drop k) n) (hx : ltT l[k] n = true) : putN l n = l.take (k + 1) ++ putN (l.drop (k + 1)) n := by
  rw [h, List.drop_eq_getElem_cons hk, putN, if_pos hx, List.take_succ_eq_append_getElem hk, List.append_assoc, List.singleton_append]
theorem putN_there {l : List (List UInt8)} {n : List UInt8} {k : Nat} (hk : k < l.length) (h : putN l n = l.take k ++ putN (l.drop k) n) (hx : l[k] = n) : putN l n = l := by
  rw [h, List.drop_eq_getElem_cons hk, putN, if_neg (by rw [hx, ltT_irrefl]; simp), if_pos hx, ← List.drop_eq_getElem_cons hk]; simp
theorem putN_new {l : List (List UInt8)} {n : List UInt8} {k : Nat} (h : putN l n = l.take k ++ putN (l.drop k) n) (hx : ∀ hk : k < l.length, ltT l[k] n = false ∧ ¬ l[k] = n) : putN l n = (l.take k ++ [n]) ++ l.drop k := by
  rw [h]
  by_cases hk : k < l.length
  · have := hx hk
    rw [List.drop_eq_getElem_cons hk, putN, if_neg (by rw [this.1]; simp), if_neg this.2]; simp
  · rw [List.drop_of_length_le (by omega)]; simp [putN]
theorem putN_len (l : List (List UInt8)) (n : List UInt8) : (putN l n).length ≤ l.length + 1 := by
  induction l with
  | nil => simp [putN]
  | cons x t ih =>
    unfold putN
    split
    · simp only [List.length_cons]; omega
    · split <;> simp
theorem dropF_len (l : List FileT) (n : List UInt8) : (dropF l n).length ≤ l.length := List.length_filter_le _ _
theorem dropN_len (l : List (List UInt8)) (n : List UInt8) : (dropN l n).length ≤ l.length := List.length_filter_le _ _

end Pth
end Go.Proofs.YtgolhfmmlanmlaaGreatDoor

/- Lists of records: elements of several cells each, read wherever they lie, put behind one of the call's own; files. -/
namespace Go.Proofs.YtgolhfmmlanmlaaGreatDoor
open Go.RowKit Pth

/-- A slice of n elements of z cells each. -/
def RowG (z : Nat) (w : World) (v : Value) (n : Nat) (xs : List Value) : Prop :=
  ∃ a c, v = .slice a n c ∧ xs.length = n * z ∧ n ≤ c ∧ c ≤ maxLen ∧ ∀ k (hk : k < xs.length), ∃ g o, a = some ⟨g, o, none⟩ ∧ g < w.heap.size ∧ w.cell? ⟨g, o + k, none⟩ = some xs[k]

theorem RowG.of_own {w : World} {B e n z : Nat} {v : Value} {xs : List Value} (h : w.ownsRow B e z v n xs) : RowG z w v n xs := by
  have hn := h.1
  rcases h.2 with ⟨hv, h0⟩ | ⟨g, cap, cur, hv, hB, hh, hnc, hcm, hsz, htake⟩
  · refine ⟨none, 0, by rw [hv, h0], hn, by omega, by unfold maxLen; omega, fun k hk => ?_⟩
    rw [hn, h0] at hk
    omega
  · refine ⟨some ⟨g, 0, none⟩, cap, hv, hn, hnc, hcm, fun k hk => ⟨g, 0, rfl, lt_of_block hh, ?_⟩⟩
    have := h.cells (g := g) (by rw [hv]; rfl) k xs[k] (by simp [hk])
    rw [add_addr] at this
    exact this
theorem RowG.alloc {z : Nat} {w : World} {v : Value} {n : Nat} {xs : List Value} (h : RowG z w v n xs) (o : Obj) : RowG z (w.alloc o) v n xs := by
  obtain ⟨a, c, hv, h0, h1, h2, hat⟩ := h
  refine ⟨a, c, hv, h0, h1, h2, fun k hk => ?_⟩
  obtain ⟨g, o', ha, hg, hc⟩ := hat k hk
  exact ⟨g, o', ha, by simp; omega, by rw [World.cell?_alloc_lt _ _ _ hg]; exact hc⟩
theorem RowG.below {z : Nat} {w w' : World} {v : Value} {n : Nat} {xs : List Value} (h : RowG z w v n xs) (hb : Below w.heap.size w w') : RowG z w' v n xs := by
  obtain ⟨a, c, hv, h0, h1, h2, hat⟩ := h
  refine ⟨a, c, hv, h0, h1, h2, fun k hk => ?_⟩
  obtain ⟨g, o', ha, hg, hc⟩ := hat k hk
  exact ⟨g, o', ha, by have := hb.size; omega, by rw [hb.cell (p := ⟨g, o' + k, none⟩) hg]; exact hc⟩
/-- The front of it. -/
theorem RowG.front {z : Nat} {w : World} {a : Option Addr} {c n : Nat} {xs : List Value} (h : RowG z w (.slice a n c) n xs) (k : Nat) (hk : k ≤ n) : RowG z w (.slice a k c) k (xs.take (k * z)) := by
  obtain ⟨a', c', hv, h0, h1, h2, hat⟩ := h
  injection hv with e1 e2 e3
  subst e1 e3
  have hle : k * z ≤ n * z := Nat.mul_le_mul_right _ hk
  have hl : (xs.take (k * z)).length = k * z := by rw [List.length_take]; omega
  refine ⟨a, c, rfl, hl, by omega, h2, fun j hj => ?_⟩
  obtain ⟨g, o, ha, hg, hc⟩ := hat j (by omega)
  exact ⟨g, o, ha, hg, by rw [List.getElem_take]; exact hc⟩
/-- What is behind k of it. -/
theorem RowG.back {z : Nat} {w : World} {a : Option Addr} {c n : Nat} {xs : List Value} (h : RowG z w (.slice a n c) n xs) (k : Nat) (hk : k ≤ n) (_hz : 0 < z) :
    RowG z w (.slice (if c = k then a else a.map (·.add (k * z))) (n - k) (c - k)) (n - k) (xs.drop (k * z)) := by
  obtain ⟨a', c', hv, h0, h1, h2, hat⟩ := h
  injection hv with e1 e2 e3
  subst e1 e3
  refine ⟨_, _, rfl, by rw [List.length_drop, h0, Nat.sub_mul], by omega, by omega, fun j hj => ?_⟩
  rw [List.length_drop] at hj
  obtain ⟨g, o, ha, hg, hcell⟩ := hat (k * z + j) (by omega)
  have hne : ¬ c = k := by
    intro e
    subst e
    have : n * z = c * z := by rw [Nat.le_antisymm h1 hk]
    omega
  refine ⟨g, o + k * z, ?_, hg, ?_⟩
  · rw [if_neg hne, ha, Option.map_some, add_addr]
  · rw [List.getElem_drop, Nat.add_assoc]; exact hcell

/-- The element type of a slice type, its zero, its cells and its size. -/
structure ElemG (t e : TypeId) (z : Value) (size bytes : Nat) : Prop where
  under : Tryz.prog.underlying t = some (.slice e)
  info : (Tryz.prog.info? e).map (fun i => (i.zero, i.size, i.bytes)) = some (some z, size, bytes)
  cells : z.cells.size = size
  pos : 0 < size
  small : bytes ≤ 1000

theorem run_app_noneG {t e : TypeId} {z : Value} {size bytes : Nat} (E : ElemG t e z size bytes) (w : World) (B n c : Nat) (ty : TypeId) (v : Value) (xs : List Value) (hown : w.ownsRow B e size v n xs) :
    (Builtin.append_ #[t, t] ty #[v, .slice none 0 c]).run Tryz.prog w = .ok v w := by
  obtain ⟨i0, hi, hz0, hz1, hz2⟩ := info_parts E.info
  rcases hown.2 with ⟨rfl, rfl⟩ | ⟨g, cap, cur, rfl, _, _, hnc, _⟩
  · simp [Builtin.append_, run_underlying E.under, sizeOf, typeInfo, hi, Builtin.lenOf, Builtin.firstCells]
  · simp [Builtin.append_, run_underlying E.under, sizeOf, typeInfo, hi, Builtin.lenOf, Builtin.firstCells, hnc, storeCells]

theorem run_app_rowG {t e : TypeId} {z : Value} {size bytes : Nat} (E : ElemG t e z size bytes) (w : World) (B : Nat) (ty : TypeId) (v : Value) (n m : Nat) (xs ys : List Value) (A : Option Addr) (c : Nat) (hown : w.ownsRow B e size v n xs) (hrow : RowG size w (.slice A m c) m ys)
    (hone : ∀ u ∈ ys, u.oneCell' = true) (hlen : n + m ≤ 1000000) (hB : B ≤ w.heap.size) :
    ∃ v' w', (Builtin.append_ #[t, t] ty #[v, .slice A m c]).run Tryz.prog w = .ok v' w' ∧ w'.ownsRow B e size v' (n + m) (xs ++ ys) ∧ w.grownBy w' v.ownBlock := by
  obtain ⟨i0, hi, hz0, hz1, hz2⟩ := info_parts E.info
  obtain ⟨A', c', hv, h0, h1, h2, hat⟩ := hrow
  injection hv with hA _ _
  subst hA
  have go : ∀ ad : Addr, (∀ j u, ys[j]? = some u → w.cell? (ad.add j) = some u) → ∃ v' w', (Builtin.append_ #[t, t] ty #[v, .slice (some ad) m c]).run Tryz.prog w = .ok v' w' ∧ w'.ownsRow B e size v' (n + m) (xs ++ ys) ∧ w.grownBy w' v.ownBlock := by
    intro ad hc
    obtain ⟨v', w', h1, h2, h3, _⟩ := run_append_own (P := Tryz.prog) w B t ty e i0 z size bytes E.under hi hz0 hz1 hz2 E.cells E.pos v n xs hown ad m c ys h0 hc hone (by unfold maxLen; omega)
      (Nat.le_trans (Nat.mul_le_mul hlen E.small) (by decide)) hB
    exact ⟨v', w', h1, h2, h3⟩
  rcases m with _ | m
  · have hys : ys = [] := List.eq_nil_of_length_eq_zero (by rw [h0]; omega)
    subst hys
    rcases A with _ | ad
    · exact ⟨v, w, run_app_noneG E w B n c ty v xs hown, by simpa using hown, ⟨rfl, rfl, rfl, Nat.le_refl _, fun _ _ _ => rfl⟩⟩
    · exact go ad (fun j u hu => by simp at hu)
  · have hpos : 0 < ys.length := by
      have := E.pos
      rw [h0, Nat.add_mul]
      omega
    obtain ⟨g, o, rfl, _, _⟩ := hat 0 hpos
    refine go _ (fun j u hu => ?_)
    obtain ⟨hj, hu⟩ := List.getElem?_eq_some_iff.1 hu
    obtain ⟨g', o', he, _, hc⟩ := hat j hj
    obtain ⟨rfl, rfl⟩ := addr_inj he
    rw [add_addr, hc, hu]

/-- A list put behind one of the call's own. -/
theorem wpAppRowG {t e : TypeId} {z : Value} {size bytes : Nat} (E : ElemG t e z size bytes) {ops : Array Oper} {rest : List Oper} {o : Oper} {a : Act} {Q : Exit → Act → World → Prop} {w : World} (hgd : o.guard = none) (s x : Operand)
    (ho : o.op = .call { callee := .builtin .append, args := #[s, x], argTypes := #[t, t] })
    (B : Nat) (v : Value) (n m : Nat) (xs ys : List Value) (u : Value) (hs : a.eval s = v) (hown : w.ownsRow B e size v n xs) (hx : a.eval x = u) (hrow : RowG size w u m ys)
    (hone : ∀ u ∈ ys, u.oneCell' = true) (hlen : n + m ≤ 1000000) (hB : B ≤ w.heap.size)
    (h : ∀ v' w', w'.ownsRow B e size v' (n + m) (xs ++ ys) → w.grownBy w' v.ownBlock → wpList Tryz.prog ops Q rest (a.put o.dst v') w') :
    wpList Tryz.prog ops Q (o :: rest) a w := by
  refine wpList_plain hgd fun K hK => ?_
  obtain ⟨A, c, hu, _⟩ := id hrow
  subst hu
  obtain ⟨v', w', hrun, h2, h3⟩ := run_app_rowG E w B o.type v n m xs ys A c hown hrow hone hlen hB
  unfold Oper.wp execOp
  simp only [ho, resolve, invoke, builtin, Sem.run_bind, Sem.run_pure, Result.andThen_ok, List.map_toArray, List.map_cons, List.map_nil, hs, hx, hrun]
  exact hK _ _ (h v' w' h2 h3)

theorem cells_new (w : World) (ys : List Value) (t : TypeId) : ∀ j u, ys[j]? = some u → (w.alloc (.cells ys.toArray t)).cell? ((⟨w.heap.size, 0, none⟩ : Addr).add j) = some u := by
  intro j u hj
  rw [add_addr]
  simpa using hj

/-- One element put behind a list of the call's own. -/
theorem wpAppOneG {t e : TypeId} {z : Value} {size bytes : Nat} (E : ElemG t e z size bytes) {ops : Array Oper} {rest : List Oper} {o : Oper} {a : Act} {Q : Exit → Act → World → Prop} {w : World} {y : Array Value} (hgd : o.guard = none) (s x : Operand)
    (ho : o.op = .call { callee := .builtin .append, args := #[s, x], argTypes := #[t, t] })
    (B : Nat) (v : Value) (n : Nat) (xs : List Value) (hs : a.eval s = v) (hown : w.ownsRow B e size v n xs) (N : Nat) (hx : a.eval x = .slice (some ⟨N, 0, none⟩) 1 1) (hN : N = w.heap.size) (hy : y.toList.length = size) (hone : ∀ u ∈ y.toList, u.oneCell' = true)
    (hlen : n ≤ 1000000) (hB : B ≤ w.heap.size)
    (h : ∀ v' w', w'.ownsRow B e size v' (n + 1) (xs ++ y.toList) → w.grownBy w' v.ownBlock → wpList Tryz.prog ops Q rest (a.put o.dst v') w') :
    wpList Tryz.prog ops Q (o :: rest) a (w.alloc (.cells y e)) := by
  subst hN
  obtain ⟨i0, hi, hz0, hz1, hz2⟩ := info_parts E.info
  have hy2 : y = y.toList.toArray := by simp
  refine wpList_append_own _ hgd s x t ho B e i0 z size bytes E.under hi hz0 hz1 hz2 E.cells E.pos v n xs hs (hown.alloc _) ⟨w.heap.size, 0, none⟩ 1 1 y.toList hx (by rw [hy]; omega) (by rw [hy2]; simpa using cells_new w y.toList e) hone ?_ ?_ ?_ ?_
  · unfold maxLen; omega
  · exact Nat.le_trans (Nat.mul_le_mul (Nat.add_le_add_right hlen 1) E.small) (by decide)
  · simp; omega
  · intro v' w' h1 h2 _
    have hg : w.grownBy w' v.ownBlock := ⟨h2.os, h2.tape, h2.output, Nat.le_trans (by simp) h2.size, fun k hk hne => (h2.block k (by simp; omega) hne).trans (Below.heap_alloc _ _ _ hk)⟩
    exact h v' w' h1 hg

theorem own_baseG {w : World} {B B' e n z : Nat} {v : Value} {xs : List Value} (h : w.ownsRow B e z v n xs) (hB : B' ≤ B) : w.ownsRow B' e z v n xs := by
  refine ⟨h.1, ?_⟩
  rcases h.2 with h0 | ⟨g, cap, cur, hv, hg, r⟩
  · exact .inl h0
  · exact .inr ⟨g, cap, cur, hv, by omega, r⟩
theorem own_belowG {w w' : World} {B e n z : Nat} {v : Value} {xs : List Value} (h : w.ownsRow B e z v n xs) (hb : Below w.heap.size w w') : w'.ownsRow B e z v n xs := by
  refine ⟨h.1, ?_⟩
  rcases h.2 with h0 | ⟨g, cap, cur, hv, hg, hh, r⟩
  · exact .inl h0
  · exact .inr ⟨g, cap, cur, hv, hg, (hb.block g (lt_of_block hh)).trans hh, r⟩
theorem below_ownG {w w' : World} {B e n z : Nat} {v : Value} {xs : List Value} (hown : w.ownsRow B e z v n xs) (hg : w.grownBy w' v.ownBlock) (hB : B ≤ w.heap.size) : Below B w w' :=
  (Below.refl B w).grown hg hB (fun k hk => (hown.lt k hk).1)
theorem own_sliceG {w : World} {B e n z : Nat} {v : Value} {xs : List Value} (h : w.ownsRow B e z v n xs) : ∃ a c, v = .slice a n c := by
  rcases h.2 with ⟨hv, h0⟩ | ⟨g, cap, cur, hv, _⟩
  · exact ⟨none, 0, by rw [hv, h0]⟩
  · exact ⟨_, _, hv⟩

/-- Files as cells. -/
def fileC (f : FileT) : List Value := [.string ⟨f.1.toArray⟩, .string ⟨f.2.toArray⟩]
def FC (l : List FileT) : List Value := l.flatMap fileC
theorem FC_len (l : List FileT) : (FC l).length = l.length * 2 := by
  induction l with
  | nil => rfl
  | cons f t ih => simp only [FC, List.flatMap_cons, List.length_append, List.length_cons] at ih ⊢; simp only [fileC, List.length_cons, List.length_nil]; omega
theorem FC_append (a b : List FileT) : FC (a ++ b) = FC a ++ FC b := by simp [FC]
theorem FC_one (l : List FileT) : ∀ u ∈ FC l, u.oneCell' = true := by
  intro u hu
  simp only [FC, List.mem_flatMap, fileC, List.mem_cons, List.not_mem_nil, or_false] at hu
  obtain ⟨f, _, h | h⟩ := hu <;> (rw [h]; rfl)
theorem FC_take (l : List FileT) (k : Nat) : (FC l).take (k * 2) = FC (l.take k) := by
  by_cases hk : k ≤ l.length
  · have e : FC l = FC (l.take k) ++ FC (l.drop k) := by rw [← FC_append, List.take_append_drop]
    have hl : (FC (l.take k)).length = k * 2 := by rw [FC_len, List.length_take]; omega
    rw [e, ← hl, List.take_left]
  · rw [List.take_of_length_le (by rw [FC_len]; omega), List.take_of_length_le (by omega)]
theorem FC_drop (l : List FileT) (k : Nat) : (FC l).drop (k * 2) = FC (l.drop k) := by
  by_cases hk : k ≤ l.length
  · have e : FC l = FC (l.take k) ++ FC (l.drop k) := by rw [← FC_append, List.take_append_drop]
    have hl : (FC (l.take k)).length = k * 2 := by rw [FC_len, List.length_take]; omega
    rw [e, ← hl, List.drop_left]
  · rw [List.drop_of_length_le (by rw [FC_len]; omega), List.drop_of_length_le (by omega)]; rfl
theorem FC_name {l : List FileT} {k : Nat} (hk : k < l.length) : (FC l)[k * 2]'(by rw [FC_len]; omega) = .string ⟨(l[k]).1.toArray⟩ := by
  have h1 : (FC l).drop (k * 2) = FC (l.drop k) := FC_drop l k
  rw [List.drop_eq_getElem_cons hk] at h1
  have h2 : ((FC l).drop (k * 2))[0]? = some (.string ⟨(l[k]).1.toArray⟩) := by rw [h1]; rfl
  rw [List.getElem?_drop, Nat.add_zero, List.getElem?_eq_getElem (by rw [FC_len]; omega)] at h2
  exact Option.some.inj h2
theorem FC_body {l : List FileT} {k : Nat} (hk : k < l.length) : (FC l)[k * 2 + 1]'(by rw [FC_len]; omega) = .string ⟨(l[k]).2.toArray⟩ := by
  have h1 : (FC l).drop (k * 2) = FC (l.drop k) := FC_drop l k
  rw [List.drop_eq_getElem_cons hk] at h1
  have h2 : ((FC l).drop (k * 2))[1]? = some (.string ⟨(l[k]).2.toArray⟩) := by rw [h1]; rfl
  rw [List.getElem?_drop, List.getElem?_eq_getElem (by rw [FC_len]; omega)] at h2
  exact Option.some.inj h2

/-- A slice that reads as files. -/
def RowF (w : World) (v : Value) (l : List FileT) : Prop := RowG 2 w v l.length (FC l)
theorem RowF.files {w : World} {v : Value} {l : List FileT} (h : RowF w v l) :
    ∃ a c, v = .slice a l.length c ∧ l.length ≤ c ∧ c ≤ maxLen ∧ ∀ k (hk : k < l.length), ∃ g o, a = some ⟨g, o, none⟩ ∧ g < w.heap.size ∧ w.cell? ⟨g, o + k * 2, none⟩ = some (.string ⟨(l[k]).1.toArray⟩) ∧ w.cell? ⟨g, o + k * 2 + 1, none⟩ = some (.string ⟨(l[k]).2.toArray⟩) := by
  obtain ⟨a, c, hv, h0, h1, h2, hat⟩ := h
  refine ⟨a, c, hv, h1, h2, fun k hk => ?_⟩
  obtain ⟨g, o, ha, hg, hc⟩ := hat (k * 2) (by rw [FC_len]; omega)
  obtain ⟨g', o', ha', _, hc'⟩ := hat (k * 2 + 1) (by rw [FC_len]; omega)
  rw [ha] at ha'
  obtain ⟨rfl, rfl⟩ := addr_inj ha'
  rw [FC_name hk] at hc
  rw [FC_body hk, ← Nat.add_assoc] at hc'
  exact ⟨g, o, ha, hg, hc, hc'⟩

end Go.Proofs.YtgolhfmmlanmlaaGreatDoor

/- Plain mathematics of graphs: places, good graphs, orders; no program. -/
namespace Go.Proofs.YtgolhfmmlanmlaaGreatDoor
namespace Pth

/-- Where a number stands in a list (its length where it does not). -/
def pos : List Int → Int → Nat
  | [], _ => 0
  | x :: t, n => if x = n then 0 else pos t n + 1
def placeI (l : List Int) (n : Int) : Int := if n ∈ l then (pos l n : Int) else -1

theorem pos_split {a b : List Int} {n : Int} (h : n ∉ a) : pos (a ++ n :: b) n = a.length := by
  induction a with
  | nil => simp [pos]
  | cons x t ih =>
    simp only [List.mem_cons, not_or] at h
    rw [List.cons_append, pos, if_neg (fun e => h.1 e.symm), ih h.2]
    rfl
theorem mem_first {l : List Int} {n : Int} (h : n ∈ l) : ∃ a b, l = a ++ n :: b ∧ n ∉ a := by
  induction l with
  | nil => simp at h
  | cons x t ih =>
    by_cases hx : x = n
    · subst hx; exact ⟨[], t, rfl, by simp⟩
    · rw [List.mem_cons] at h
      rcases h with h | h
      · exact absurd h.symm hx
      · obtain ⟨a, b, rfl, ha⟩ := ih h
        exact ⟨x :: a, b, rfl, by simp [ha]; exact fun e => hx e.symm⟩
theorem place_at {l : List Int} {n : Int} {k : Nat} (hk : k < l.length) (h : n ∉ l.take k) (he : l[k] = n) : placeI l n = k := by
  have e : l = l.take k ++ n :: l.drop (k + 1) := by
    rw [← he, ← List.drop_eq_getElem_cons hk, List.take_append_drop]
  have hm : n ∈ l := by rw [← he]; exact List.getElem_mem hk
  unfold placeI
  rw [if_pos hm]
  have : pos l n = k := by
    conv => lhs; rw [e]
    rw [pos_split h, List.length_take]; omega
  rw [this]
theorem place_none {l : List Int} {n : Int} (h : n ∉ l) : placeI l n = -1 := by unfold placeI; rw [if_neg h]
theorem pos_lt {l : List Int} {n : Int} (h : n ∈ l) : pos l n < l.length := by
  obtain ⟨a, b, rfl, ha⟩ := mem_first h
  rw [pos_split ha]; simp
theorem pos_get {l : List Int} {n : Int} (h : n ∈ l) : l[pos l n]'(pos_lt h) = n := by
  obtain ⟨a, b, rfl, ha⟩ := mem_first h
  simp [pos_split ha]
theorem pos_take {l : List Int} {n : Int} (h : n ∈ l) : n ∉ l.take (pos l n) := by
  obtain ⟨a, b, rfl, ha⟩ := mem_first h
  simp [pos_split ha, ha]
theorem place_mem {l : List Int} {n : Int} (h : n ∈ l) : placeI l n = (pos l n : Int) := by unfold placeI; rw [if_pos h]
theorem place_nonneg {l : List Int} {n : Int} : 0 ≤ placeI l n ↔ n ∈ l := by
  by_cases h : n ∈ l
  · rw [place_mem h]; simp [h]
  · rw [place_none h]; simp [h]
theorem mem_take_pos {l : List Int} {x : Int} {k : Nat} : x ∈ l.take k ↔ x ∈ l ∧ pos l x < k := by
  constructor
  · intro h
    have hl := List.mem_of_mem_take h
    refine ⟨hl, ?_⟩
    obtain ⟨j, hj, he⟩ := List.getElem_of_mem h
    rw [List.length_take] at hj
    rw [List.getElem_take] at he
    rcases Nat.lt_or_ge (pos l x) k with h' | h'
    · exact h'
    · exact absurd h (fun h => pos_take hl (List.mem_of_mem_take (i := k) (by rw [List.take_take, Nat.min_eq_left h']; exact h)))
  · rintro ⟨h, hk⟩
    rw [List.mem_iff_getElem]
    refine ⟨pos l x, by rw [List.length_take]; have := pos_lt h; omega, ?_⟩
    rw [List.getElem_take, pos_get h]

/-- A list of unlike ones within another one is not longer. -/
theorem nodup_sub {a b : List Int} (h : a.Nodup) (hs : ∀ x ∈ a, x ∈ b) : a.length ≤ b.length := by
  induction a generalizing b with
  | nil => simp
  | cons x t ih =>
    rw [List.nodup_cons] at h
    have hx := hs x (by simp)
    have := ih (b := b.erase x) h.2 (fun y hy => (List.mem_erase_of_ne (fun e => h.1 (by rw [← e]; exact hy))).2 (hs y (by simp [hy])))
    rw [List.length_erase_of_mem hx] at this
    have hb : 0 < b.length := List.length_pos_of_mem hx
    simp only [List.length_cons]; omega
/-- The tasks. -/
def upto (n : Nat) : List Int := (List.range n).map (fun (i : Nat) => (i : Int))
theorem mem_upto {n : Nat} {x : Int} : x ∈ upto n ↔ 0 ≤ x ∧ x < n := by
  simp only [upto, List.mem_map, List.mem_range]
  constructor
  · rintro ⟨a, ha, rfl⟩; omega
  · rintro ⟨h1, h2⟩; exact ⟨x.toNat, by omega, by omega⟩
theorem upto_len (n : Nat) : (upto n).length = n := by simp [upto]
theorem upto_get (n k : Nat) (hk : k < (upto n).length) : (upto n)[k] = (k : Int) := by simp [upto]
theorem upto_succ (n : Nat) : upto (n + 1) = upto n ++ [(n : Int)] := by simp [upto, List.range_succ]
theorem upto_nodup (n : Nat) : (upto n).Nodup := by
  unfold upto
  refine List.Pairwise.map (R := fun a b => a ≠ b) _ ?_ List.nodup_range
  intro a b h e
  exact h (by omega)
theorem upto_rise (n : Nat) : Rise (upto n) := by
  unfold upto Rise
  refine List.Pairwise.map (R := fun a b => a < b) _ ?_ List.pairwise_lt_range
  intro a b h
  omega
theorem all_there {l : List Int} {n : Nat} (hl : l.length = n) (hn : l.Nodup) (hr : ∀ x ∈ l, 0 ≤ x ∧ x < n) {k : Int} (hk : 0 ≤ k ∧ k < n) : k ∈ l := by
  rcases Classical.em (k ∈ l) with h | h
  · exact h
  · have := nodup_sub (a := k :: l) (b := upto n) (List.nodup_cons.2 ⟨h, hn⟩) (fun x hx => by
      rw [mem_upto]; rw [List.mem_cons] at hx
      rcases hx with rfl | hx
      · exact hk
      · exact hr x hx)
    rw [upto_len, List.length_cons] at this
    omega
theorem not_nodup {l : List Int} (h : ¬ l.Nodup) : ∃ a x b, l = a ++ x :: b ∧ x ∈ a ++ b := by
  induction l with
  | nil => simp at h
  | cons y t ih =>
    rw [List.nodup_cons] at h
    by_cases hy : y ∈ t
    · exact ⟨[], y, t, rfl, by simpa using hy⟩
    · obtain ⟨a, x, b, rfl, hx⟩ := ih (fun hn => h ⟨hy, hn⟩)
      exact ⟨y :: a, x, b, rfl, by rw [List.cons_append, List.mem_cons]; exact .inr hx⟩
theorem all_once {l : List Int} {n : Nat} (hl : l.length = n) (hk : ∀ k : Nat, k < n → (k : Int) ∈ l) : l.Nodup := by
  rcases Classical.em l.Nodup with h | h
  · exact h
  · obtain ⟨a, x, b, rfl, hx⟩ := not_nodup h
    have := nodup_sub (a := upto n) (b := a ++ b) (upto_nodup n) (fun y hy => by
      rw [mem_upto] at hy
      have := hk y.toNat (by omega)
      rw [show ((y.toNat : Nat) : Int) = y by omega] at this
      rw [List.mem_append, List.mem_cons] at this
      rcases this with h | h | h
      · exact List.mem_append.2 (.inl h)
      · rw [h]; exact hx
      · exact List.mem_append.2 (.inr h))
    rw [upto_len] at this
    simp at this hl
    omega
theorem nodup_at {l : List Int} (h : l.Nodup) {k : Nat} (hk : k < l.length) : l[k] ∉ l.take k := by
  intro hm
  rw [mem_take_pos] at hm
  have e := pos_get hm.1
  have := (List.getElem_inj (h₀ := pos_lt hm.1) (h₁ := hk) h).1 e
  omega
theorem at_nodup {l : List Int} (h : ∀ k (hk : k < l.length), l[k] ∉ l.take k) : l.Nodup := by
  rcases Classical.em l.Nodup with h' | h'
  · exact h'
  · rw [List.nodup_iff_pairwise_ne, List.pairwise_iff_getElem] at h'
    refine absurd (fun i j hi hj hij e => ?_) h'
    refine h j hj ?_
    rw [List.mem_iff_getElem]
    exact ⟨i, by rw [List.length_take]; omega, by rw [List.getElem_take]; exact e⟩
theorem pos_nodup {l : List Int} (h : l.Nodup) {k : Nat} (hk : k < l.length) : pos l l[k] = k := by
  have hm : l[k] ∈ l := List.getElem_mem hk
  exact (List.getElem_inj (h₀ := pos_lt hm) (h₁ := hk) h).1 (pos_get hm)

/-- A good graph, as the reference has it. -/
structure GoodG (needs : List (List Int)) (order : List Int) : Prop where
  low : 1 ≤ needs.length
  high : needs.length ≤ 10
  same : order.length = needs.length
  tasks : ∀ t ∈ order, 0 ≤ t ∧ t ≤ (needs.length : Int) - 1
  each : ∀ k (hk : k < needs.length), (Rise needs[k] ∧ Within 0 ((needs.length : Int) - 1) needs[k]) ∧ (k : Int) ∈ order ∧ ∀ x ∈ needs[k], placeI order x < placeI order k
/-- As the program has it. -/
structure GoodP (needs : List (List Int)) (order : List Int) : Prop where
  low : 1 ≤ needs.length
  high : needs.length ≤ 10
  same : order.length = needs.length
  each : ∀ i (hi : i < order.length), ∃ t : Nat, ∃ ht : t < needs.length, order[i] = (t : Int) ∧ order[i] ∉ order.take i ∧ Rise needs[t] ∧ ∀ x ∈ needs[t], x ∈ order.take i

theorem GoodG.nodup {needs : List (List Int)} {order : List Int} (h : GoodG needs order) : order.Nodup := all_once h.same (fun k hk => (h.each k hk).2.1)
theorem GoodG.toP {needs : List (List Int)} {order : List Int} (h : GoodG needs order) : GoodP needs order := by
  refine ⟨h.low, h.high, h.same, fun i hi => ?_⟩
  have ht := h.tasks order[i] (List.getElem_mem hi)
  refine ⟨order[i].toNat, by omega, by omega, nodup_at h.nodup hi, ?_⟩
  obtain ⟨⟨h1, h2⟩, h3, h4⟩ := h.each order[i].toNat (by omega)
  refine ⟨h1, fun x hx => ?_⟩
  have hw := h2 x hx
  have hp := h4 x hx
  rw [show ((order[i].toNat : Nat) : Int) = order[i] by omega, place_mem (List.getElem_mem hi), pos_nodup h.nodup hi] at hp
  have hxm : x ∈ order := all_there h.same h.nodup (fun y hy => by have := h.tasks y hy; omega) (by omega)
  rw [place_mem hxm] at hp
  rw [mem_take_pos]
  exact ⟨hxm, by omega⟩
theorem GoodP.range {needs : List (List Int)} {order : List Int} (h : GoodP needs order) : ∀ t ∈ order, 0 ≤ t ∧ t < (needs.length : Int) := by
  intro t ht
  obtain ⟨i, hi, rfl⟩ := List.getElem_of_mem ht
  obtain ⟨k, hk, he, _⟩ := h.each i hi
  omega
theorem GoodP.nodup {needs : List (List Int)} {order : List Int} (h : GoodP needs order) : order.Nodup := at_nodup (fun k hk => by obtain ⟨_, _, _, h1, _⟩ := h.each k hk; exact h1)
theorem GoodP.toG {needs : List (List Int)} {order : List Int} (h : GoodP needs order) : GoodG needs order := by
  refine ⟨h.low, h.high, h.same, fun t ht => by have := h.range t ht; omega, fun k hk => ?_⟩
  have hm : (k : Int) ∈ order := all_there h.same h.nodup h.range (by omega)
  have hp := pos_lt hm
  obtain ⟨t, ht, he, _, h1, h2⟩ := h.each (pos order k) hp
  rw [pos_get hm] at he
  obtain rfl : k = t := by omega
  refine ⟨⟨h1, fun x hx => ?_⟩, hm, fun x hx => ?_⟩
  · have := h.range x (List.mem_of_mem_take (h2 x hx)); omega
  · have := h2 x hx
    rw [mem_take_pos] at this
    rw [place_mem this.1, place_mem hm]
    omega
theorem good_iff {needs : List (List Int)} {order : List Int} : GoodG needs order ↔ GoodP needs order := ⟨GoodG.toP, GoodP.toG⟩

open Classical in
noncomputable def goodG (needs : List (List Int)) (order : List Int) : Bool := decide (GoodG needs order)
theorem goodG_iff {needs : List (List Int)} {order : List Int} : goodG needs order = true ↔ GoodG needs order := by unfold goodG; simp
theorem goodG_no {needs : List (List Int)} {order : List Int} (h : ¬ GoodG needs order) : goodG needs order = false := by rw [← Bool.not_eq_true, goodG_iff]; exact h
theorem goodG_noP {needs : List (List Int)} {order : List Int} (h : ¬ GoodP needs order) : goodG needs order = false := goodG_no (fun hg => h hg.toP)

/-- Which of so many are in a list. -/
def marksIn (n : Nat) (l : List Int) : List Bool := (List.range n).map (fun (i : Nat) => decide ((i : Int) ∈ l))
theorem marksIn_len (n : Nat) (l : List Int) : (marksIn n l).length = n := by simp [marksIn]
theorem marksIn_at (n : Nat) (l : List Int) (k : Nat) (hk : k < (marksIn n l).length) : (marksIn n l)[k] = decide ((k : Int) ∈ l) := by simp [marksIn]
theorem marksIn_nil (n : Nat) : marksIn n [] = List.replicate n false := by
  apply List.ext_getElem (by simp [marksIn])
  intro i h1 h2
  simp [marksIn]
theorem marksIn_set (n : Nat) (l : List Int) (k : Nat) : (marksIn n l).set k true = marksIn n (l ++ [(k : Int)]) := by
  apply List.ext_getElem (by simp [marksIn])
  intro i h1 h2
  rw [List.getElem_set, marksIn_at, marksIn_at]
  by_cases h : k = i
  · subst h; simp
  · rw [if_neg h]
    have : ¬ ((i : Int) = (k : Int)) := by omega
    simp [this]
theorem rise_more {l : List Int} {k : Nat} (hk : k < l.length) (hr : Rise (l.take k)) (h3 : ∀ h0 : 0 < k, l[k - 1] < l[k]) : Rise (l.take (k + 1)) := by
  rw [List.take_succ_eq_append_getElem hk]
  unfold Rise at hr ⊢
  rw [List.pairwise_append]
  refine ⟨hr, by simp, fun x hx y hy => ?_⟩
  rw [List.mem_singleton] at hy
  subst hy
  obtain ⟨j, hj, rfl⟩ := List.mem_iff_getElem.1 hx
  rw [List.length_take] at hj
  have h0 : 0 < k := by omega
  have h4 := h3 h0
  rw [List.getElem_take]
  rcases Nat.lt_or_ge j (k - 1) with hj1 | hj1
  · have h5 := List.pairwise_iff_getElem.1 hr j (k - 1) (by rw [List.length_take]; omega) (by rw [List.length_take]; omega) hj1
    rw [List.getElem_take, List.getElem_take] at h5
    omega
  · have : j = k - 1 := by omega
    subst this
    exact h4
/-- Rising, and all in the other list. -/
def needsB (l pre : List Int) : Bool := decide (l.Pairwise (· < ·)) && decide (∀ x ∈ l, x ∈ pre)
theorem needsB_iff {l pre : List Int} : needsB l pre = true ↔ Rise l ∧ ∀ x ∈ l, x ∈ pre := by simp [needsB, Rise]
theorem needsB_no {l pre : List Int} (h : ¬ (Rise l ∧ ∀ x ∈ l, x ∈ pre)) : needsB l pre = false := by rw [← Bool.not_eq_true, needsB_iff]; exact h
theorem needs_next {l pre : List Int} {k : Nat} (hk : k < l.length) (h : Rise (l.take k) ∧ ∀ x ∈ l.take k, x ∈ pre) (h1 : l[k] ∈ pre) (h3 : ∀ h0 : 0 < k, l[k - 1] < l[k]) :
    Rise (l.take (k + 1)) ∧ ∀ x ∈ l.take (k + 1), x ∈ pre := by
  refine ⟨rise_more hk h.1 h3, fun x hx => ?_⟩
  rw [List.take_succ_eq_append_getElem hk, List.mem_append, List.mem_singleton] at hx
  rcases hx with hx | hx
  · exact h.2 x hx
  · rw [hx]; exact h1
theorem needs_not {l pre : List Int} {k : Nat} (hk : k < l.length) (h1 : ¬ l[k] ∈ pre) : needsB l pre = false := needsB_no (fun h => h1 (h.2 _ (List.getElem_mem hk)))
theorem needs_fall {l pre : List Int} {k : Nat} (hk : k < l.length) (h0 : 0 < k) (h : l[k] ≤ l[k - 1]) : needsB l pre = false :=
  needsB_no (fun hh => by
    have := List.pairwise_iff_getElem.1 hh.1 (k - 1) k (by omega) hk (by omega)
    omega)
end Pth
end Go.Proofs.YtgolhfmmlanmlaaGreatDoor

/- Graphs in memory: lists of lists of numbers, wherever they lie and as memory of the call's own. -/
namespace Go.Proofs.YtgolhfmmlanmlaaGreatDoor
open Go.RowKit Pth

theorem elemN : Elem 22 23 (.slice none 0 0) 24 := ⟨Tryz.underlying22, by kernel_rfl, rfl, by decide⟩
theorem elemB : Elem 26 4 (.bool false) 1 := ⟨Tryz.underlying26, by kernel_rfl, rfl, by decide⟩

theorem bth {B : Nat} {w w1 w2 : World} (h1 : Below B w w1) (h2 : Below w1.heap.size w1 w2) (hB : B ≤ w.heap.size) : Below B w w2 := h1.trans (h2.mono (Nat.le_trans hB h1.size))

/-- A list of lists of numbers, wherever it lies. -/
def RowN (w : World) (v : Value) (ls : List (List Int)) : Prop :=
  ∃ sl : List Value, sl.length = ls.length ∧ RowV w v sl ∧ ∀ k (h1 : k < sl.length) (h2 : k < ls.length), RowV w sl[k] (I ls[k])
theorem RowN.below {w w' : World} {v : Value} {ls : List (List Int)} (h : RowN w v ls) (hb : Below w.heap.size w w') : RowN w' v ls := by
  obtain ⟨sl, h1, h2, h3⟩ := h
  exact ⟨sl, h1, h2.below hb, fun k a b => (h3 k a b).below hb⟩
theorem RowN.lists {w : World} {v : Value} {ls : List (List Int)} (h : RowN w v ls) :
    ∃ a c, v = .slice a ls.length c ∧ ls.length ≤ c ∧ c ≤ maxLen ∧ ∀ k (hk : k < ls.length), ∃ g o a2 c2, a = some ⟨g, o, none⟩ ∧ g < w.heap.size ∧ w.cell? ⟨g, o + k, none⟩ = some (.slice a2 ls[k].length c2) ∧ RowV w (.slice a2 ls[k].length c2) (I ls[k]) := by
  obtain ⟨sl, h1, ⟨a, c, hv, h2, h3, hat⟩, hr⟩ := h
  refine ⟨a, c, by rw [hv, h1], by omega, h3, fun k hk => ?_⟩
  obtain ⟨g, o, ha, hg, hc⟩ := hat k (by omega)
  have hrk := hr k (by omega) hk
  obtain ⟨a2, c2, he, _⟩ := hrk.ints
  rw [he] at hc hrk
  exact ⟨g, o, a2, c2, ha, hg, hc, hrk⟩

/-- A graph, wherever it lies. -/
def GraphV (w : World) (v : Value) (ls : List (List Int)) (l : List Int) : Prop := ∃ nv ov, v = .agg #[nv, ov] ∧ RowN w nv ls ∧ RowV w ov (I l)
theorem GraphV.below {w w' : World} {v : Value} {ls : List (List Int)} {l : List Int} (h : GraphV w v ls l) (hb : Below w.heap.size w w') : GraphV w' v ls l := by
  obtain ⟨nv, ov, hv, h1, h2⟩ := h
  exact ⟨nv, ov, hv, h1.below hb, h2.below hb⟩

/-- Two lists that do not lie in one block. -/
def Apart (p q : Value × List Int) : Prop := ∀ b, p.1.ownBlock = some b → q.1.ownBlock ≠ some b
theorem Apart.symm {p q : Value × List Int} (h : Apart p q) : Apart q p := fun b h1 h2 => h b h2 h1
/-- Lists of numbers of the call's own, no two in one block. -/
def Lists (B : Nat) (w : World) (L : List (Value × List Int)) : Prop := (∀ p ∈ L, w.ownsRow B 3 1 p.1 p.2.length (I p.2)) ∧ L.Pairwise Apart
theorem Lists.below {B : Nat} {w w' : World} {L : List (Value × List Int)} (h : Lists B w L) (hb : Below w.heap.size w w') : Lists B w' L := ⟨fun p hp => own_below (h.1 p hp) hb, h.2⟩
theorem Lists.base {B B' : Nat} {w : World} {L : List (Value × List Int)} (h : Lists B w L) (hB : B' ≤ B) : Lists B' w L := ⟨fun p hp => own_base (h.1 p hp) hB, h.2⟩
theorem Lists.perm {B : Nat} {w : World} {L M : List (Value × List Int)} (h : Lists B w L) (hp : L.Perm M) : Lists B w M :=
  ⟨fun p hm => h.1 p (hp.mem_iff.2 hm), (hp.pairwise_iff (fun h => Apart.symm h)).1 h.2⟩
theorem Lists.snoc {B B2 : Nat} {w w' : World} {L : List (Value × List Int)} {v : Value} {l : List Int} (h : Lists B w L) (hb : Below w.heap.size w w') (hown : w'.ownsRow B2 3 1 v l.length (I l)) (h2 : w.heap.size ≤ B2) (hB : B ≤ B2) :
    Lists B w' (L ++ [(v, l)]) := by
  refine ⟨fun p hp => ?_, ?_⟩
  · rw [List.mem_append, List.mem_singleton] at hp
    rcases hp with hp | rfl
    · exact own_below (h.1 p hp) hb
    · exact own_base hown hB
  · rw [List.pairwise_append]
    refine ⟨h.2, by simp, fun p hp q hq b hpb hqb => ?_⟩
    rw [List.mem_singleton] at hq
    subst hq
    have h1 := ((h.1 p hp).lt b hpb).2
    have h2' := (hown.lt b hqb).1
    omega
theorem Lists.left {B : Nat} {w : World} {L M : List (Value × List Int)} (h : Lists B w (L ++ M)) : Lists B w L := ⟨fun p hp => h.1 p (List.mem_append.2 (.inl hp)), (List.pairwise_append.1 h.2).1⟩
theorem Lists.right {B : Nat} {w : World} {L M : List (Value × List Int)} (h : Lists B w (L ++ M)) : Lists B w M := ⟨fun p hp => h.1 p (List.mem_append.2 (.inr hp)), (List.pairwise_append.1 h.2).2.1⟩
theorem own_apartI {w w' : World} {B e n : Nat} {v u : Value} {xs : List Value} (h : w.ownsRow B e 1 v n xs) (hg : w.grownBy w' u.ownBlock) (hne : ∀ k, u.ownBlock = some k → v.ownBlock ≠ some k) : w'.ownsRow B e 1 v n xs := by
  refine ⟨h.1, ?_⟩
  rcases h.2 with h0 | ⟨g, cap, cur, hv, hB, hh, r⟩
  · exact .inl h0
  · refine .inr ⟨g, cap, cur, hv, hB, (hg.block g (lt_of_block hh) (fun hi => hne g hi.symm (by rw [hv]; rfl))).trans hh, r⟩
/-- One of them has turned, in its block or into a new one. -/
theorem Lists.turn {B : Nat} {w w' : World} {L M : List (Value × List Int)} {v v' : Value} {l l' : List Int} (h : Lists B w (L ++ (v, l) :: M)) (hg : w.grownBy w' v.ownBlock) (hown : w'.ownsRow B 3 1 v' l'.length (I l'))
    (hv : ∀ b, v'.ownBlock = some b → v.ownBlock = some b ∨ w.heap.size ≤ b) : Lists B w' (L ++ (v', l') :: M) := by
  obtain ⟨h1, h2⟩ := h
  rw [List.pairwise_append, List.pairwise_cons] at h2
  obtain ⟨p1, ⟨p2, p3⟩, p4⟩ := h2
  have ap : ∀ p ∈ L ++ M, Apart (v, l) p := by
    intro p hp
    rcases List.mem_append.1 hp with h | h
    · exact (p4 p h (v, l) (by simp)).symm
    · exact p2 p h
  have own : ∀ p ∈ L ++ M, w.ownsRow B 3 1 p.1 p.2.length (I p.2) := fun p hp => h1 p (by rcases List.mem_append.1 hp with h | h <;> simp [h])
  have ap' : ∀ p ∈ L ++ M, Apart (v', l') p := by
    intro p hp b hb hb'
    rcases hv b hb with h | h
    · exact ap p hp b h hb'
    · have := ((own p hp).lt b hb').2; omega
  refine ⟨fun p hp => ?_, ?_⟩
  · rw [List.mem_append, List.mem_cons] at hp
    rcases hp with hp | rfl | hp
    · exact own_apartI (h1 p (by simp [hp])) hg (ap p (by simp [hp]))
    · exact hown
    · exact own_apartI (h1 p (by simp [hp])) hg (ap p (by simp [hp]))
  · rw [List.pairwise_append, List.pairwise_cons]
    refine ⟨p1, ⟨fun p hp => ap' p (by simp [hp]), p3⟩, fun p hp q hq => ?_⟩
    rw [List.mem_cons] at hq
    rcases hq with rfl | hq
    · exact (ap' p (by simp [hp])).symm
    · exact p4 p hp q (by simp [hq])

theorem own_typesI {w : World} {B B' e e' n n' : Nat} {v v' : Value} {xs xs' : List Value} (h : w.ownsRow B e 1 v n xs) (h' : w.ownsRow B' e' 1 v' n' xs') (hne : e ≠ e') : ∀ k, v.ownBlock = some k → v'.ownBlock ≠ some k := by
  intro k hk hk'
  rcases h.2 with ⟨hv, _⟩ | ⟨g, cap, cur, hv, _, hg, _⟩
  · rw [hv] at hk; simp [Value.ownBlock] at hk
  · rcases h'.2 with ⟨hv', _⟩ | ⟨g', cap', cur', hv', _, hg', _⟩
    · rw [hv'] at hk'; simp [Value.ownBlock] at hk'
    · rw [hv] at hk; rw [hv'] at hk'
      simp only [Value.ownBlock, Option.some.injEq] at hk hk'
      subst hk
      subst hk'
      rw [hg] at hg'
      simp at hg'
      exact hne hg'.2
/-- A list of another type has turned. -/
theorem Lists.outer {B B' e n : Nat} {w w' : World} {L : List (Value × List Int)} {u : Value} {xs : List Value} (h : Lists B w L) (ho : w.ownsRow B' e 1 u n xs) (he : e ≠ 3) (hg : w.grownBy w' u.ownBlock) : Lists B w' L :=
  ⟨fun p hp => own_apartI (h.1 p hp) hg (own_typesI ho (h.1 p hp) he), h.2⟩
theorem Lists.set {B : Nat} {w : World} {L : List (Value × List Int)} (h : Lists B w L) {p : Addr} (hp : p.block < B) (u : Value) : Lists B (w.setCell p u) L := by
  refine ⟨fun q hq => ?_, h.2⟩
  have ho := h.1 q hq
  refine ⟨ho.1, ?_⟩
  rcases ho.2 with h0 | ⟨g, cap, cur, hv, hg, hh, r⟩
  · exact .inl h0
  · exact .inr ⟨g, cap, cur, hv, hg, (Below.heap_setCell w p u g (by omega)).trans hh, r⟩

/-- Only the blocks of these lists have turned. -/
structure GrownL (w w' : World) (L : List (Value × List Int)) : Prop where
  os : w'.os = w.os
  tape : w'.tape = w.tape
  output : w'.output = w.output
  size : w.heap.size ≤ w'.heap.size
  block : ∀ i, i < w.heap.size → (∀ p ∈ L, p.1.ownBlock ≠ some i) → w'.heap[i]? = w.heap[i]?
theorem GrownL.refl (w : World) (L : List (Value × List Int)) : GrownL w w L := ⟨rfl, rfl, rfl, Nat.le_refl _, fun _ _ _ => rfl⟩
theorem GrownL.one {a b c : World} {L : List (Value × List Int)} {v : Value} {l : List Int} (h : GrownL a b L) (k : b.grownBy c v.ownBlock) (hm : (v, l) ∈ L) : GrownL a c L :=
  ⟨k.os.trans h.os, k.tape.trans h.tape, k.output.trans h.output, Nat.le_trans h.size k.size, fun i hi hne => (k.block i (Nat.lt_of_lt_of_le hi h.size) (fun e => hne _ hm e.symm)).trans (h.block i hi hne)⟩
theorem GrownL.below {B : Nat} {w w' : World} {L : List (Value × List Int)} (h : GrownL w w' L) (hl : Lists B w L) (hB : B ≤ w.heap.size) : Below B w w' :=
  ⟨h.os, h.tape, h.output, h.size, fun i hi => h.block i (by omega) (fun p hp e => by have := ((hl.1 p hp).lt i e).1; omega)⟩

/-- A list of lists of the call's own. -/
def OwnN (B : Nat) (w : World) (v : Value) (sl : List Value) (ls : List (List Int)) : Prop := sl.length = ls.length ∧ w.ownsRow B 23 1 v ls.length sl ∧ Lists B w (sl.zip ls)
theorem zip_get {sl : List Value} {ls : List (List Int)} {k : Nat} (h1 : k < sl.length) (h2 : k < ls.length) : (sl[k], ls[k]) ∈ sl.zip ls := by
  rw [List.mem_iff_getElem]
  exact ⟨k, by simp; omega, by simp⟩
theorem OwnN.view {B : Nat} {w : World} {v : Value} {sl : List Value} {ls : List (List Int)} (h : OwnN B w v sl ls) : RowN w v ls :=
  ⟨sl, h.1, RowV.of_own h.2.1, fun _ h1 h2 => RowV.of_own (h.2.2.1 _ (zip_get h1 h2))⟩
/-- A graph of the call's own. -/
def GraphO (B : Nat) (w : World) (v : Value) (ls : List (List Int)) (l : List Int) : Prop :=
  ∃ nv ov sl, v = .agg #[nv, ov] ∧ sl.length = ls.length ∧ w.ownsRow B 23 1 nv ls.length sl ∧ Lists B w (sl.zip ls ++ [(ov, l)])
theorem GraphO.view {B : Nat} {w : World} {v : Value} {ls : List (List Int)} {l : List Int} (h : GraphO B w v ls l) : GraphV w v ls l := by
  obtain ⟨nv, ov, sl, hv, h1, h2, h3⟩ := h
  exact ⟨nv, ov, hv, OwnN.view ⟨h1, h2, h3.left⟩, RowV.of_own (h3.1 (ov, l) (List.mem_append.2 (.inr (List.mem_singleton.2 rfl))))⟩
theorem GraphO.below {B : Nat} {w w' : World} {v : Value} {ls : List (List Int)} {l : List Int} (h : GraphO B w v ls l) (hb : Below w.heap.size w w') : GraphO B w' v ls l := by
  obtain ⟨nv, ov, sl, hv, h1, h2, h3⟩ := h
  exact ⟨nv, ov, sl, hv, h1, own_below h2 hb, h3.below hb⟩
theorem GraphO.base {B B' : Nat} {w : World} {v : Value} {ls : List (List Int)} {l : List Int} (h : GraphO B w v ls l) (hB : B' ≤ B) : GraphO B' w v ls l := by
  obtain ⟨nv, ov, sl, hv, h1, h2, h3⟩ := h
  exact ⟨nv, ov, sl, hv, h1, own_base h2 hB, h3.base hB⟩
theorem GraphO.slices {B : Nat} {w : World} {v : Value} {ls : List (List Int)} {l : List Int} (h : GraphO B w v ls l) : ∃ a c a2 c2, v = .agg #[.slice a ls.length c, .slice a2 l.length c2] := by
  obtain ⟨nv, ov, sl, hv, h1, h2, h3⟩ := h
  obtain ⟨a, c, rfl⟩ := own_slice h2
  obtain ⟨a2, c2, h4⟩ := own_slice (h3.1 (ov, l) (List.mem_append.2 (.inr (List.mem_singleton.2 rfl))))
  exact ⟨a, c, a2, c2, by rw [hv]; simp only at h4; rw [h4]⟩

/-- A block of two cells. -/
def Blk2 (w : World) (b t : Nat) (x y : Value) : Prop := w.heap[b]? = some (.cells #[x, y] t (0, 0))
theorem Blk2.cells {w : World} {b t : Nat} {x y : Value} (h : Blk2 w b t x y) : w.cell? ⟨b, 0, none⟩ = some x ∧ w.cell? ⟨b, 1, none⟩ = some y := by
  refine ⟨?_, ?_⟩ <;> rw [cell_of_row w b _ _ t (0, 0) h] <;> rfl
theorem Blk2.soft {w : World} {b t : Nat} {x y : Value} (h : Blk2 w b t x y) (j : Nat) : w.frozen? ⟨b, j, none⟩ = false := frozen_of_row w b j _ t h
theorem Blk2.set0 {w : World} {b t : Nat} {x y : Value} (h : Blk2 w b t x y) (u : Value) : Blk2 (w.setCell ⟨b, 0, none⟩ u) b t u y := heap_setCell_same w b 0 _ t u h
theorem Blk2.set1 {w : World} {b t : Nat} {x y : Value} (h : Blk2 w b t x y) (u : Value) : Blk2 (w.setCell ⟨b, 1, none⟩ u) b t x u := heap_setCell_same w b 1 _ t u h
theorem Blk2.below {w w' : World} {B b t : Nat} {x y : Value} (h : Blk2 w b t x y) (hb : Below B w w') (hlt : b < B) : Blk2 w' b t x y := (hb.block b hlt).trans h
theorem Blk2.new {w : World} {t : Nat} {x y : Value} : Blk2 (w.alloc (.cells #[x, y] t)) w.heap.size t x y := heap_alloc_new w _
theorem Blk2.old {w : World} {b t : Nat} {x y : Value} (h : Blk2 w b t x y) (o : Obj) : Blk2 (w.alloc o) b t x y := (Below.heap_alloc w o b (lt_of_block h)).trans h
theorem own_setI {w : World} {B e n : Nat} {v : Value} {xs : List Value} (h : w.ownsRow B e 1 v n xs) {p : Addr} (hp : p.block < B) (u : Value) : (w.setCell p u).ownsRow B e 1 v n xs := by
  refine ⟨h.1, ?_⟩
  rcases h.2 with h0 | ⟨g, cap, cur, hv, hg, hh, r⟩
  · exact .inl h0
  · exact .inr ⟨g, cap, cur, hv, hg, (Below.heap_setCell w p u g (by omega)).trans hh, r⟩
end Go.Proofs.YtgolhfmmlanmlaaGreatDoor

/- What the rows of chapter 5 share: how graphs that came in read. -/
namespace Go.Proofs.YtgolhfmmlanmlaaGreatDoor
open Go.ChangeShapes Go.WideShapes Go.ChangeAt Go.RowKit Pth

theorem own : ownKnob Tryz.prog.godebug = none := by kernel_rfl
theorem laidOut : laidOutB Tryz.prog = true := by kernel_rfl
theorem met_none (w : World) : laidMet Tryz.prog [] w := ⟨[], rfl, List.nodup_nil, fun _ _ h => by cases h⟩

/-- A slice of numbers that came in. -/
theorem ints_cells {H : Type} {enc : TypeId × Value → H} {W : World} {fuel : Nat} {v : Value} {x : DataW H × List MemPlace}
    (h : DataW.trod enc Tryz.prog W 0 (fun _ => true) true fuel 23 [v] = some x) : ∃ l : List Int, RowV W v (I l) := by
  rcases open_ints Tryz.underlying23 Tryz.underlying3 (by kernel_rfl) h with ⟨hcs, _⟩ | ⟨x, len, cap, zs, hcs, _, hl, hm, hz, hx, hcell, hwz⟩
  · simp at hcs
    subst hcs
    exact ⟨[], none, 0, rfl, Nat.le_refl _, by unfold maxLen; omega, fun k hk => absurd hk (by simp [I])⟩
  · simp at hcs
    subst hcs
    simp only [if_true] at hz
    have hlen : (zs.take len).length = len := by rw [List.length_take]; omega
    refine ⟨zs.take len, some x, cap, by rw [I_len, hlen], by rw [I_len, hlen]; omega, by omega, fun k hk => ?_⟩
    rw [I_len, hlen] at hk
    have hc := hcell k (by omega)
    have h0 := hcell 0 (by omega)
    obtain ⟨b, off, spot⟩ := x
    have hspot : spot = none := by simpa [Addr.add] using World.cell?_spot h0
    subst hspot
    rw [add_addr] at hc
    refine ⟨b, off, rfl, World.block_lt_of_cell? _ _ hc, ?_⟩
    rw [hc]
    simp only [I, List.getElem_map, List.getElem_take]
    rw [List.getD_eq_getElem?_getD, List.getElem?_eq_getElem (by omega)]
    rfl
/-- A slice of slices of numbers that came in. -/
theorem lists_cells {H : Type} {enc : TypeId × Value → H} {W : World} {fuel : Nat} {v : Value} {x : DataW H × List MemPlace}
    (h : DataW.trod enc Tryz.prog W 0 (fun _ => true) true fuel 22 [v] = some x) : ∃ ls : List (List Int), RowN W v ls := by
  rcases Deep.open_slice Tryz.underlying22 h with ⟨hcs, _⟩ | ⟨a, len, cap, m, n, D, Pl, hcs, hb, hl, hm, hmm, _, hx⟩
  · simp at hcs
    subst hcs
    exact ⟨[], [], rfl, ⟨none, 0, rfl, Nat.le_refl _, by unfold maxLen; omega, fun k hk => absurd hk (by simp)⟩, fun k h1 h2 => absurd h2 (by simp)⟩
  · simp at hcs
    subst hcs
    simp only [if_true] at hmm
    have each : ∀ i, i < m → ∃ q : Value × List Int, W.cell? ((a.add (i * 1)).add 0) = some q.1 ∧ RowV W q.1 (I q.2) := by
      intro i hi
      obtain ⟨cs', h1, h2⟩ := hx i hi
      rw [show Tryz.prog.cellsOf 23 = 1 by kernel_rfl] at h1
      obtain ⟨_, hlen, hcell⟩ := World.cells?_some h1
      match cs', hlen with
      | [u], _ =>
        obtain ⟨l, hl⟩ := ints_cells h2
        have q0 := hcell 0 (by omega)
        exact ⟨(u, l), by simpa using q0, hl⟩
    obtain ⟨q, hq⟩ := Deep.choose_lt each
    have hlen : ((List.range len).map fun i => (q i).2).length = len := by simp
    have hlen1 : ((List.range len).map fun i => (q i).1).length = len := by simp
    refine ⟨(List.range len).map fun i => (q i).2, (List.range len).map fun i => (q i).1, by rw [hlen, hlen1], ⟨some a, cap, by rw [hlen1], by rw [hlen1]; exact hl, hm, fun k hk => ?_⟩, fun k h1 h2 => ?_⟩
    · rw [hlen1] at hk
      obtain ⟨b, off, spot⟩ := a
      have h0 := (hq 0 (by omega)).1
      have hspot : spot = none := by simpa [Addr.add] using World.cell?_spot h0
      subst hspot
      have hk1 := (hq k (by omega)).1
      rw [add_addr, add_addr, Nat.mul_one, Nat.add_zero] at hk1
      refine ⟨b, off, rfl, World.block_lt_of_cell? _ _ hk1, ?_⟩
      rw [hk1]
      simp
    · have := (hq k (by rw [hlen1] at h1; omega)).2
      simpa using this
set_option maxRecDepth 100000 in
/-- A graph that came in. -/
theorem graph_in {H : Type} {enc : TypeId × Value → H} {W : World} {base : Nat} {v : Value} {d : DataW H} {p : List MemPlace} (hv : Value.okWide Tryz.prog W .any base 25 v)
    (h : DataW.Trod enc Tryz.prog W 0 (fun _ => true) true 25 v d p) : ∃ ls l, GraphV W v ls l := by
  obtain ⟨v0, v1, y0, y1, n, rfl, _, _, h0, h1⟩ := Joins.open_agg2 Tryz.underlying25 (by kernel_rfl) (by kernel_rfl) hv h
  obtain ⟨ls, r0⟩ := lists_cells h0
  obtain ⟨l, r1⟩ := ints_cells h1
  exact ⟨ls, l, v0, v1, rfl, r0, r1⟩
end Go.Proofs.YtgolhfmmlanmlaaGreatDoor

/- Results as cells; lists of results, wherever they lie; the laws' helpers on one result. -/
namespace Go.Proofs.YtgolhfmmlanmlaaGreatDoor
open Go.RowKit Pth

abbrev ResT := List UInt8 × Int
def resC (o : ResT) : List Value := [.string ⟨o.1.toArray⟩, .int .i64 o.2]
def resV (o : ResT) : Value := .agg #[.string ⟨o.1.toArray⟩, .int .i64 o.2]
def RC (l : List ResT) : List Value := l.flatMap resC
theorem RC_cons (f : ResT) (l : List ResT) : RC (f :: l) = .string ⟨f.1.toArray⟩ :: .int .i64 f.2 :: RC l := rfl
theorem RC_len (l : List ResT) : (RC l).length = l.length * 2 := by
  induction l with
  | nil => rfl
  | cons f t ih => rw [RC_cons]; simp only [List.length_cons]; omega
theorem RC_append (a b : List ResT) : RC (a ++ b) = RC a ++ RC b := by simp [RC]
theorem RC_one (l : List ResT) : ∀ u ∈ RC l, u.oneCell' = true := by
  intro u hu
  simp only [RC, List.mem_flatMap, resC, List.mem_cons, List.not_mem_nil, or_false] at hu
  obtain ⟨f, _, h | h⟩ := hu <;> (rw [h]; rfl)
theorem RC_drop (l : List ResT) (k : Nat) : (RC l).drop (k * 2) = RC (l.drop k) := by
  by_cases hk : k ≤ l.length
  · have e : RC l = RC (l.take k) ++ RC (l.drop k) := by rw [← RC_append, List.take_append_drop]
    have hl : (RC (l.take k)).length = k * 2 := by rw [RC_len, List.length_take]; omega
    rw [e, ← hl, List.drop_left]
  · rw [List.drop_of_length_le (by rw [RC_len]; omega), List.drop_of_length_le (by omega)]; rfl
theorem RC_at {l : List ResT} {k : Nat} (hk : k < l.length) :
    (RC l)[k * 2]? = some (.string ⟨(l[k]).1.toArray⟩) ∧ (RC l)[k * 2 + 1]? = some (.int .i64 l[k].2) := by
  have h1 : (RC l).drop (k * 2) = RC (l.drop k) := RC_drop l k
  rw [List.drop_eq_getElem_cons hk] at h1
  have g : ∀ j : Nat, ((RC l).drop (k * 2))[j]? = (RC (l[k] :: l.drop (k + 1)))[j]? := fun j => by rw [h1]
  refine ⟨?_, ?_⟩
  · have := g 0; rw [List.getElem?_drop] at this; exact this
  · have := g 1; rw [List.getElem?_drop] at this; exact this

/-- A slice that reads as results. -/
def RowR (w : World) (v : Value) (l : List ResT) : Prop := RowG 2 w v l.length (RC l)
theorem RowR.res {w : World} {v : Value} {l : List ResT} (h : RowR w v l) :
    ∃ a c, v = .slice a l.length c ∧ l.length ≤ c ∧ c ≤ maxLen ∧ ∀ k (hk : k < l.length), ∃ g o, a = some ⟨g, o, none⟩ ∧ g < w.heap.size ∧ w.cell? ⟨g, o + k * 2, none⟩ = some (.string ⟨(l[k]).1.toArray⟩) ∧ w.cell? ⟨g, o + k * 2 + 1, none⟩ = some (.int .i64 l[k].2) := by
  obtain ⟨a, c, hv, h0, h1, h2, hat⟩ := h
  refine ⟨a, c, hv, h1, h2, fun k hk => ?_⟩
  obtain ⟨q0, q1⟩ := RC_at hk
  obtain ⟨g, o, ha, hg, hc⟩ := hat (k * 2) (by rw [RC_len]; omega)
  obtain ⟨g', o', ha', _, hc'⟩ := hat (k * 2 + 1) (by rw [RC_len]; omega)
  rw [ha] at ha'
  obtain ⟨rfl, rfl⟩ := addr_inj ha'
  rw [List.getElem?_eq_getElem (by rw [RC_len]; omega)] at q0 q1
  refine ⟨g, o, ha, hg, hc.trans q0, ?_⟩
  rw [Nat.add_assoc]; exact hc'.trans q1
theorem RowR.of_own {w : World} {B e : Nat} {v : Value} {l : List ResT} (h : w.ownsRow B e 2 v l.length (RC l)) : RowR w v l := RowG.of_own h
theorem RowR.below {w w' : World} {v : Value} {l : List ResT} (h : RowR w v l) (hb : Below w.heap.size w w') : RowR w' v l := RowG.below h hb

theorem elemR : ElemG 35 75 (.agg #[.string ByteArray.empty, .int .i64 0]) 2 24 := ⟨Tryz.underlying35, by kernel_rfl, rfl, by decide, by decide⟩

set_option maxHeartbeats 1000000 in
theorem szResult_any (o : ResT) (left : Nat) (w : World) (hx : o.1.length ≤ maxLen) (hl : left ≤ 2000000) :
    Calls Tryz.prog 62 #[resV o, .int .i64 (left : Int)] w fun e w' => ∃ r : Int, e = .returned (.int .i64 r) ∧ r ≤ left ∧ (0 ≤ r → r + o.1.length = left) ∧ Below w.heap.size w w' := by
  obtain ⟨t, n⟩ := o
  unfold resV
  simp only at hx ⊢
  unfold maxLen at hx
  have HB := Lib.hid ((Below.refl w.heap.size w).alloc (Nat.le_refl _) (.cells #[.string ⟨t.toArray⟩, .int .i64 n] 69))
  by_cases h1 : t.length ≤ left
  · have d1 : decide ((left : Int) - (t.length : Int) < 0) = false := by simp; omega
    go_enter Tryz.func62, Tryz.ntmps62
    go_wp2_with fail
    go_ret
    exact ⟨_, rfl, by omega, fun _ => by omega, HB.out⟩
  · have d1 : decide ((left : Int) - (t.length : Int) < 0) = true := by simp; omega
    go_enter Tryz.func62, Tryz.ntmps62
    go_wp2_with fail
    go_ret
    exact ⟨-1, rfl, by omega, fun h => by omega, HB.out⟩

theorem results_cellR {fn : Func} {p : Tmp} {ty : TypeId} (h : fn.results = #[.cell p ty]) {tmps : Array Value} {w : World} {ad : Addr} {v : Value} (hp : tmps.getD p undef = .pointer (some ad)) (hl : (loadVar ty ad).run Tryz.prog w = .ok v w) :
    (results fn tmps).run Tryz.prog w = .ok v w := by
  have hp' : tmps[p]?.getD undef = .pointer (some ad) := by simpa using hp
  simp only [results, h]
  simp [hp', asAddr, hl]
theorem load_res {w : World} {b : Nat} {x y : Value} (h0 : w.cell? ⟨b, 0, none⟩ = some x) (h1 : w.cell? ⟨b, 1, none⟩ = some y) : (loadVar 75 ⟨b, 0, none⟩).run Tryz.prog w = .ok (.agg #[x, y]) w := by
  go_simp

set_option maxHeartbeats 1000000 in
theorem toResult_any (o : ResT) (w : World) :
    Calls Tryz.prog 65 #[resV o] w fun e w' => e = .returned (resV o) ∧ Below w.heap.size w w' := by
  obtain ⟨t, n⟩ := o
  unfold resV
  simp only
  go_enter Tryz.func65, Tryz.ntmps65
  go_wp2_with fail
  refine bodyPost_ret (results_cellR rfl rfl (load_res (x := .string ⟨t.toArray⟩) (y := .int .i64 n) (by go_simp) (by go_simp))) rfl ?_
  exact ⟨rfl, (((Below.refl w.heap.size w).alloc (Nat.le_refl _) _).alloc (by simp) _).alloc (by simp; omega) _⟩

set_option maxHeartbeats 1000000 in
theorem eqResult_b {o p : ResT} {b : Bool} (h : decide (o = p) = b) (w : World) :
    Calls Tryz.prog 52 #[resV o, resV p] w fun e w' => e = .returned (.bool b) ∧ Below w.heap.size w w' := by
  obtain ⟨t, n⟩ := o
  obtain ⟨t', n'⟩ := p
  have HT := Lib.hid h
  unfold resV
  simp only
  have HB := Lib.hid (((Below.refl w.heap.size w).alloc (Nat.le_refl _) (.cells #[.string ⟨t.toArray⟩, .int .i64 n] 75)).alloc (by simp) (.cells #[.string ⟨t'.toArray⟩, .int .i64 n'] 75))
  clear h
  by_cases h3 : t = t'
  · have d3 : (!(t == t')) = false := by simp [h3]
    by_cases h2 : n = n'
    · have d2 : (n != n') = false := by simp [h2]
      have HE : Hid (b = true) := by have := HT.out; rw [h2, h3] at this; simpa [Hid] using this.symm
      clear h2 h3 HT
      go_enter Tryz.func52, Tryz.ntmps52
      go_wp2_with fail
      go_ret
      exact ⟨by rw [HE.out] <;> rfl, HB.out⟩
    · have d2 : (n != n') = true := by simp [h2]
      have HE : Hid (b = false) := by rw [← HT.out]; exact decide_eq_false (fun h => h2 (by injection h))
      clear h2 h3 HT
      go_enter Tryz.func52, Tryz.ntmps52
      go_wp2_with fail
      go_ret
      exact ⟨by rw [HE.out] <;> rfl, HB.out⟩
  · have d3 : (!(t == t')) = true := by simp [h3]
    have HE : Hid (b = false) := by rw [← HT.out]; exact decide_eq_false (fun h => h3 (by injection h))
    clear h3 HT
    go_enter Tryz.func52, Tryz.ntmps52
    go_wp2_with fail
    go_ret
    exact ⟨by rw [HE.out] <;> rfl, HB.out⟩

end Go.Proofs.YtgolhfmmlanmlaaGreatDoor

/- Plain mathematics of recipes: ops, one step, a run, what is read, digests, texts; no program. -/
namespace Go.Proofs.YtgolhfmmlanmlaaGreatDoor
namespace Pth

/-- An op: its kind, its number, its text. -/
abbrev OpT := Int × Int × List UInt8

def opOk (ins : Int) (o : OpT) : Bool :=
  if o.1 = 1 then decide (0 ≤ o.2.1) && decide (o.2.1 ≤ ins - 1) && decide (o.2.2 = [])
  else if o.1 = 2 then decide (o.2.1 = 0) && decide (o.2.2.length ≤ 10)
  else if o.1 = 5 then decide (0 ≤ o.2.1) && decide (o.2.1 ≤ 40) && decide (o.2.2 = [])
  else if o.1 = 3 ∨ o.1 = 4 ∨ o.1 = 6 ∨ o.1 = 7 then decide (o.2.1 = 0) && decide (o.2.2 = [])
  else false
def goodR (r : List OpT) (ins : Int) : Bool := decide (0 ≤ ins) && decide (ins ≤ 10) && decide (r.length ≤ 8) && r.all (opOk ins)
def textsL (l : List (List UInt8)) : Bool := l.all (fun x => decide (x.length ≤ 40)) && decide (l.length ≤ 10)

theorem goodR_iff {r : List OpT} {ins : Int} : goodR r ins = true ↔ 0 ≤ ins ∧ ins ≤ 10 ∧ r.length ≤ 8 ∧ r.all (opOk ins) = true := by
  simp only [goodR, Bool.and_eq_true, decide_eq_true_eq, and_assoc]
theorem goodR_ins {r : List OpT} {ins : Int} (h : ¬ (0 ≤ ins ∧ ins ≤ 10)) : goodR r ins = false := by
  rcases hg : goodR r ins with _ | _
  · rfl
  · exact absurd ⟨(goodR_iff.1 hg).1, (goodR_iff.1 hg).2.1⟩ h
theorem goodR_long {r : List OpT} {ins : Int} (h : 8 < r.length) : goodR r ins = false := by
  rcases hg : goodR r ins with _ | _
  · rfl
  · have := (goodR_iff.1 hg).2.2.1; omega
theorem goodR_bad {r : List OpT} {ins : Int} {k : Nat} (hk : k < r.length) (h : opOk ins r[k] = false) : goodR r ins = false := by
  rcases hg : goodR r ins with _ | _
  · rfl
  · have := List.all_eq_true.1 (goodR_iff.1 hg).2.2.2 _ (List.getElem_mem hk)
    rw [h] at this; cases this
theorem goodR_end {r : List OpT} {ins : Int} {k : Nat} (h0 : 0 ≤ ins) (h1 : ins ≤ 10) (h2 : r.length ≤ 8) (hk : r.length ≤ k) (h : (r.take k).all (opOk ins) = true) : goodR r ins = true := by
  rw [List.take_of_length_le hk] at h
  exact goodR_iff.2 ⟨h0, h1, h2, h⟩
theorem all_next {α : Type} {p : α → Bool} {l : List α} {k : Nat} (hk : k < l.length) (h0 : (l.take k).all p = true) (h : p l[k] = true) : (l.take (k + 1)).all p = true := by
  rw [List.take_succ_eq_append_getElem hk, List.all_append, h0]; simp [h]
theorem all_bad {α : Type} {p : α → Bool} {l : List α} {k : Nat} (hk : k < l.length) (h : p l[k] = false) : l.all p = false := by
  rw [List.all_eq_false]; exact ⟨l[k], List.getElem_mem hk, by simp [h]⟩
theorem all_end {α : Type} {p : α → Bool} {l : List α} {k : Nat} (hk : l.length ≤ k) (h : (l.take k).all p = true) : l.all p = true := by
  rwa [List.take_of_length_le hk] at h

/-- One op's kinds. -/
theorem opOk_cat {ins n : Int} {t : List UInt8} : opOk ins (1, n, t) = (decide (0 ≤ n) && decide (n ≤ ins - 1) && decide (t = [])) := by simp [opOk]
theorem opOk_text {ins n : Int} {t : List UInt8} : opOk ins (2, n, t) = (decide (n = 0) && decide (t.length ≤ 10)) := by simp [opOk]
theorem opOk_drop {ins n : Int} {t : List UInt8} : opOk ins (5, n, t) = (decide (0 ≤ n) && decide (n ≤ 40) && decide (t = [])) := by simp [opOk]
theorem opOk_bare {ins k n : Int} {t : List UInt8} (hk : k = 3 ∨ k = 4 ∨ k = 6 ∨ k = 7) : opOk ins (k, n, t) = (decide (n = 0) && decide (t = [])) := by
  rcases hk with rfl | rfl | rfl | rfl <;> simp [opOk]
theorem opOk_none {ins k n : Int} {t : List UInt8} (h1 : k ≠ 1) (h2 : k ≠ 2) (h3 : k ≠ 3) (h4 : k ≠ 4) (h5 : k ≠ 5) (h6 : k ≠ 6) (h7 : k ≠ 7) : opOk ins (k, n, t) = false := by
  simp [opOk, h1, h2, h3, h4, h5, h6, h7]
/-- What a good op is. -/
theorem opOk_cases {ins : Int} {o : OpT} (h : opOk ins o = true) :
    (∃ n : Nat, o = (1, (n : Int), []) ∧ (n : Int) ≤ ins - 1) ∨ (∃ t : List UInt8, o = (2, 0, t) ∧ t.length ≤ 10) ∨ o = (3, 0, []) ∨ o = (4, 0, []) ∨ (∃ n : Nat, o = (5, (n : Int), []) ∧ n ≤ 40) ∨ o = (6, 0, []) ∨ o = (7, 0, []) := by
  obtain ⟨k, n, t⟩ := o
  by_cases h1 : k = 1
  · subst h1
    simp only [opOk_cat, Bool.and_eq_true, decide_eq_true_eq] at h
    obtain ⟨⟨ha, hb⟩, rfl⟩ := h
    exact .inl ⟨n.toNat, by rw [show (n.toNat : Int) = n by omega], by omega⟩
  by_cases h2 : k = 2
  · subst h2
    simp only [opOk_text, Bool.and_eq_true, decide_eq_true_eq] at h
    obtain ⟨rfl, hb⟩ := h
    exact .inr (.inl ⟨t, rfl, hb⟩)
  by_cases h5 : k = 5
  · subst h5
    simp only [opOk_drop, Bool.and_eq_true, decide_eq_true_eq] at h
    obtain ⟨⟨ha, hb⟩, rfl⟩ := h
    exact .inr (.inr (.inr (.inr (.inl ⟨n.toNat, by rw [show (n.toNat : Int) = n by omega], by omega⟩))))
  by_cases h3 : k = 3 ∨ k = 4 ∨ k = 6 ∨ k = 7
  · rw [opOk_bare h3] at h
    simp only [Bool.and_eq_true, decide_eq_true_eq] at h
    obtain ⟨rfl, rfl⟩ := h
    rcases h3 with rfl | rfl | rfl | rfl <;> simp
  · have h3' : k ≠ 3 ∧ k ≠ 4 ∧ k ≠ 6 ∧ k ≠ 7 := by omega
    rw [opOk_none h1 h2 h3'.1 h3'.2.1 h5 h3'.2.2.1 h3'.2.2.2] at h
    cases h

def upB (c : UInt8) : UInt8 := if 97 ≤ c.toNat ∧ c.toNat ≤ 122 then c - 32 else c
def upT (l : List UInt8) : List UInt8 := l.map upB
def sortT (l : List UInt8) : List UInt8 := l.mergeSort (fun a b => decide (a ≤ b))
def Sorted8 (l : List UInt8) : Prop := l.Pairwise (· ≤ ·)
theorem sortT_perm (l : List UInt8) : (sortT l).Perm l := List.mergeSort_perm _ _
theorem le8_total (a b : UInt8) : a ≤ b ∨ b ≤ a := by
  simp only [UInt8.le_iff_toNat_le]; omega
theorem le8_trans {a b c : UInt8} (h : a ≤ b) (k : b ≤ c) : a ≤ c := by
  simp only [UInt8.le_iff_toNat_le] at *; omega
theorem sortT_sorted (l : List UInt8) : Sorted8 (sortT l) := by
  have := List.pairwise_mergeSort (le := fun a b : UInt8 => decide (a ≤ b)) (fun a b c h1 h2 => by simp only [decide_eq_true_eq] at *; exact le8_trans h1 h2) (fun a b => by simpa using le8_total a b) l
  exact this.imp (fun h => by simpa using h)
theorem sort_unique {a b : List UInt8} (hp : a.Perm b) (ha : Sorted8 a) (hb : Sorted8 b) : a = b :=
  hp.eq_of_pairwise (le := fun a b : UInt8 => a ≤ b) (fun a b _ _ h1 h2 => by
    apply UInt8.toNat.inj
    simp only [UInt8.le_iff_toNat_le] at h1 h2
    omega) ha hb
theorem sortT_is {a l : List UInt8} (hp : a.Perm l) (ha : Sorted8 a) : a = sortT l := sort_unique (hp.trans (sortT_perm l).symm) ha (sortT_sorted l)
theorem sortT_len (l : List UInt8) : (sortT l).length = l.length := (sortT_perm l).length_eq
theorem upT_len (l : List UInt8) : (upT l).length = l.length := by simp [upT]

def digB (n : Nat) : UInt8 := UInt8.ofNat (48 + n)
/-- A number below 100 as text. -/
def numT (n : Nat) : List UInt8 := if n < 10 then [digB n] else [digB (n / 10), digB (n % 10)]
theorem numT_len (n : Nat) : (numT n).length ≤ 2 := by unfold numT; split <;> simp

/-- What an op makes of a text, however long that is; none where it fails. -/
def rawT (o : OpT) (ins : List (List UInt8)) (acc : List UInt8) : Option (List UInt8) :=
  if o.1 = 1 then some (acc ++ (ins[o.2.1.toNat]?).getD [])
  else if o.1 = 2 then some (acc ++ o.2.2)
  else if o.1 = 3 then some (upT acc)
  else if o.1 = 4 then some (sortT acc)
  else if o.1 = 5 then some (acc.drop o.2.1.toNat)
  else if o.1 = 6 then some (numT acc.length)
  else none
def capT (x : List UInt8) : Option (List UInt8) := if x.length ≤ 40 then some x else none
def stepT (o : OpT) (ins : List (List UInt8)) (acc : List UInt8) : Option (List UInt8) := (rawT o ins acc).bind capT
def runT (ins : List (List UInt8)) : List OpT → List UInt8 → Option (List UInt8)
  | [], acc => some acc
  | o :: t, acc => (stepT o ins acc).bind (runT ins t)
theorem capT_some {x y : List UInt8} (h : capT x = some y) : y = x ∧ x.length ≤ 40 := by
  unfold capT at h
  split at h
  · simp only [Option.some.injEq] at h; exact ⟨h.symm, by assumption⟩
  · cases h
theorem stepT_len {o : OpT} {ins : List (List UInt8)} {acc y : List UInt8} (h : stepT o ins acc = some y) : y.length ≤ 40 := by
  unfold stepT at h
  rcases hr : rawT o ins acc with _ | x
  · rw [hr] at h; cases h
  · rw [hr] at h
    obtain ⟨rfl, hl⟩ := capT_some h
    exact hl
theorem run_step {ins : List (List UInt8)} {r : List OpT} {k : Nat} (hk : k < r.length) (acc : List UInt8) : runT ins (r.drop k) acc = (stepT r[k] ins acc).bind (runT ins (r.drop (k + 1))) := by
  rw [List.drop_eq_getElem_cons hk]; rfl
theorem runT_len {ins : List (List UInt8)} {r : List OpT} {acc y : List UInt8} (ha : acc.length ≤ 40) (h : runT ins r acc = some y) : y.length ≤ 40 := by
  induction r generalizing acc with
  | nil => simp only [runT, Option.some.injEq] at h; subst h; exact ha
  | cons o t ih =>
    simp only [runT] at h
    rcases hs : stepT o ins acc with _ | x
    · rw [hs] at h; cases h
    · rw [hs] at h
      exact ih (stepT_len hs) h
/-- The text behind, empty where it failed. -/
def txtO (x : Option (List UInt8)) : List UInt8 := x.getD []

/-- StepRecipe, RunRecipe: as told. -/
def stepOk (o : OpT) (ins : List (List UInt8)) (acc : List UInt8) : Bool := textsL ins && opOk ins.length o && decide (acc.length ≤ 40)
def runOk (r : List OpT) (ins : List (List UInt8)) : Bool := textsL ins && goodR r ins.length
def stepA (o : OpT) (ins : List (List UInt8)) (acc : List UInt8) : Option (List UInt8) := if stepOk o ins acc then stepT o ins acc else none
def runA (r : List OpT) (ins : List (List UInt8)) : Option (List UInt8) := if runOk r ins then runT ins r [] else none

/-- What is read. -/
def read1 (out : List Int) (o : OpT) : List Int := if o.1 = 1 then putL out o.2.1 else out
def readsL (r : List OpT) : List Int := r.foldl read1 []
def readsA (r : List OpT) : List Int := if goodR r 10 then readsL r else []
def catsL (r : List OpT) : List Int := r.filterMap (fun o => if o.1 = 1 then some o.2.1 else none)
theorem reads_fold_rise (r : List OpT) {out : List Int} (h : Rise out) : Rise (r.foldl read1 out) := by
  induction r generalizing out with
  | nil => exact h
  | cons o t ih =>
    refine ih ?_
    unfold read1
    split
    · exact put_rise h
    · exact h
theorem reads_rise (r : List OpT) : Rise (readsL r) := reads_fold_rise r .nil
theorem reads_fold_mem (r : List OpT) {out : List Int} {x : Int} : x ∈ r.foldl read1 out ↔ x ∈ out ∨ x ∈ catsL r := by
  induction r generalizing out with
  | nil => simp [catsL]
  | cons o t ih =>
    rw [List.foldl_cons, ih]
    unfold read1 catsL
    by_cases h : o.1 = 1
    · simp only [if_pos h, mem_put, List.filterMap_cons, List.mem_cons]
      constructor
      · rintro ((h | h) | h)
        · exact .inr (.inl h)
        · exact .inl h
        · exact .inr (.inr h)
      · rintro (h | (h | h))
        · exact .inl (.inr h)
        · exact .inl (.inl h)
        · exact .inr h
    · simp only [if_neg h, List.filterMap_cons]
theorem mem_reads {r : List OpT} {x : Int} : x ∈ readsL r ↔ x ∈ catsL r := by
  rw [readsL, reads_fold_mem]; simp
theorem reads_is {r : List OpT} {l : List Int} (hr : Rise l) (h : ∀ x, x ∈ l ↔ x ∈ catsL r) : l = readsL r :=
  rise_ext hr (reads_rise r) (fun x => (h x).trans mem_reads.symm)
theorem reads_next {r : List OpT} {k : Nat} (hk : k < r.length) : (r.take (k + 1)).foldl read1 [] = read1 ((r.take k).foldl read1 []) r[k] := by
  rw [List.take_succ_eq_append_getElem hk, List.foldl_append]; rfl
theorem cats_next {r : List OpT} {k : Nat} (hk : k < r.length) : catsL (r.take (k + 1)) = catsL (r.take k) ++ (if r[k].1 = 1 then [r[k].2.1] else []) := by
  rw [List.take_succ_eq_append_getElem hk]
  unfold catsL
  rw [List.filterMap_append]
  by_cases h : r[k].1 = 1 <;> simp [h]
theorem cats_len (r : List OpT) : (catsL r).length ≤ r.length := List.length_filterMap_le _ _

/-- Digests. -/
def dig1 (d : Int) (c : UInt8) : Int := (31 * d + (c.toNat : Int)) % 1000003
def digL (s : List UInt8) : Int := s.foldl dig1 7
def digA (s : List UInt8) : Int := if s.length ≤ 100 then digL s else 0
theorem dig_bound (s : List UInt8) : 0 ≤ digL s ∧ digL s < 1000003 := by
  have : ∀ (l : List UInt8) (d : Int), 0 ≤ d ∧ d < 1000003 → 0 ≤ l.foldl dig1 d ∧ l.foldl dig1 d < 1000003 := by
    intro l
    induction l with
    | nil => exact fun d h => h
    | cons c t ih => exact fun d _ => ih _ (by unfold dig1; omega)
  exact this s 7 (by omega)
theorem dig_next {s : List UInt8} {k : Nat} (hk : k < s.length) : digL (s.take (k + 1)) = (31 * digL (s.take k) + (s[k].toNat : Int)) % 1000003 := by
  rw [digL, List.take_succ_eq_append_getElem hk, List.foldl_append]; rfl

/-- A recipe as text. -/
def byteI (x : Int) : UInt8 := UInt8.ofNat x.toNat
def text1 (o : OpT) : List UInt8 := [byteI o.1, byteI o.2.1, byteI (o.2.2.length : Int)] ++ o.2.2
def textR (r : List OpT) : List UInt8 := r.flatMap text1
def textA (r : List OpT) : List UInt8 := if goodR r 10 then textR r else []
theorem text_next {r : List OpT} {k : Nat} (hk : k < r.length) : textR (r.take (k + 1)) = textR (r.take k) ++ text1 r[k] := by
  rw [textR, List.take_succ_eq_append_getElem hk, List.flatMap_append]; simp [textR]
theorem byteI_inj {x y : Int} (hx : 0 ≤ x ∧ x ≤ 255) (hy : 0 ≤ y ∧ y ≤ 255) (h : byteI x = byteI y) : x = y := by
  have := congrArg UInt8.toNat h
  simp only [byteI, UInt8.toNat_ofNat'] at this
  omega
def Small1 (o : OpT) : Prop := (1 ≤ o.1 ∧ o.1 ≤ 7) ∧ (0 ≤ o.2.1 ∧ o.2.1 ≤ 40) ∧ o.2.2.length ≤ 10
theorem small_of {ins : Int} {o : OpT} (hi : ins ≤ 10) (h : opOk ins o = true) : Small1 o := by
  unfold Small1
  rcases opOk_cases h with ⟨n, rfl, hn⟩ | ⟨t, rfl, ht⟩ | rfl | rfl | ⟨n, rfl, hn⟩ | rfl | rfl <;> simp <;> omega
theorem text1_inj {a b : OpT} {x y : List UInt8} (ha : Small1 a) (hb : Small1 b) (h : text1 a ++ x = text1 b ++ y) : a = b ∧ x = y := by
  obtain ⟨k, n, t⟩ := a
  obtain ⟨k', n', t'⟩ := b
  simp only [Small1] at ha hb
  simp only [text1, List.cons_append, List.nil_append, List.cons.injEq] at h
  obtain ⟨h1, h2, h3, h4⟩ := h
  have e1 := byteI_inj (by omega) (by omega) h1
  have e2 := byteI_inj (by omega) (by omega) h2
  have e3 : t.length = t'.length := by have := byteI_inj (by omega) (by omega) h3; omega
  obtain ⟨e4, e5⟩ := List.append_inj h4 e3
  exact ⟨by rw [e1, e2, e4], e5⟩
theorem textR_inj : ∀ {r q : List OpT}, (∀ o ∈ r, Small1 o) → (∀ o ∈ q, Small1 o) → textR r = textR q → r = q
  | [], [], _, _, _ => rfl
  | [], b :: q, _, _, h => by simp [textR, text1] at h
  | a :: r, [], _, _, h => by simp [textR, text1] at h
  | a :: r, b :: q, hr, hq, h => by
    simp only [textR, List.flatMap_cons] at h
    obtain ⟨e1, e2⟩ := text1_inj (hr a (by simp)) (hq b (by simp)) h
    have := textR_inj (r := r) (q := q) (fun o ho => hr o (by simp [ho])) (fun o ho => hq o (by simp [ho])) e2
    rw [e1, this]
theorem good_small {r : List OpT} {ins : Int} (h : goodR r ins = true) : ∀ o ∈ r, Small1 o := fun o ho =>
  small_of (goodR_iff.1 h).2.1 (List.all_eq_true.1 (goodR_iff.1 h).2.2.2 o ho)
theorem text_same {r q : List OpT} (hr : goodR r 10 = true) (hq : goodR q 10 = true) : decide (r = q) = decide (textA q = textA r) := by
  rw [textA, textA, if_pos hr, if_pos hq]
  by_cases h : r = q
  · subst h; simp
  · rw [decide_eq_false h, decide_eq_false]
    exact fun e => h (textR_inj (good_small hr) (good_small hq) e.symm)
theorem text1_len {o : OpT} (h : Small1 o) : (text1 o).length ≤ 13 := by
  simp [text1]; exact h.2.2
theorem textR_len {r : List OpT} (h : ∀ o ∈ r, Small1 o) : (textR r).length ≤ 13 * r.length := by
  induction r with
  | nil => simp [textR]
  | cons o t ih =>
    have h1 := text1_len (h o (by simp))
    have h2 := ih (fun o ho => h o (by simp [ho]))
    simp only [textR, List.flatMap_cons, List.length_append, List.length_cons] at h2 ⊢
    omega

/-- What two lists have alike for a recipe. -/
def sameL (r : List OpT) (a b : List (List UInt8)) : Bool := r.all (fun o => decide (o.1 = 1 → (a[o.2.1.toNat]?).getD [] = (b[o.2.1.toNat]?).getD []))
theorem raw_same {o : OpT} {a b : List (List UInt8)} (h : o.1 = 1 → (a[o.2.1.toNat]?).getD [] = (b[o.2.1.toNat]?).getD []) (acc : List UInt8) : rawT o a acc = rawT o b acc := by
  unfold rawT
  by_cases h1 : o.1 = 1
  · rw [if_pos h1, if_pos h1, h h1]
  · rw [if_neg h1, if_neg h1]
theorem run_same {r : List OpT} {a b : List (List UInt8)} (h : sameL r a b = true) (acc : List UInt8) : runT a r acc = runT b r acc := by
  induction r generalizing acc with
  | nil => rfl
  | cons o t ih =>
    simp only [sameL, List.all_cons, Bool.and_eq_true, decide_eq_true_eq] at h
    simp only [runT, stepT, raw_same h.1]
    exact congrArg _ (funext fun x => ih h.2 x)

end Pth
end Go.Proofs.YtgolhfmmlanmlaaGreatDoor

/- Ops as cells; lists of ops, wherever they lie. -/
namespace Go.Proofs.YtgolhfmmlanmlaaGreatDoor
open Go.RowKit Pth

def opC (o : OpT) : List Value := [.int .i64 o.1, .int .i64 o.2.1, .string ⟨o.2.2.toArray⟩]
def opV (o : OpT) : Value := .agg #[.int .i64 o.1, .int .i64 o.2.1, .string ⟨o.2.2.toArray⟩]
def OC (l : List OpT) : List Value := l.flatMap opC
theorem OC_cons (f : OpT) (l : List OpT) : OC (f :: l) = .int .i64 f.1 :: .int .i64 f.2.1 :: .string ⟨f.2.2.toArray⟩ :: OC l := rfl
theorem OC_len (l : List OpT) : (OC l).length = l.length * 3 := by
  induction l with
  | nil => rfl
  | cons f t ih => rw [OC_cons]; simp only [List.length_cons]; omega
theorem OC_append (a b : List OpT) : OC (a ++ b) = OC a ++ OC b := by simp [OC]
theorem OC_one (l : List OpT) : ∀ u ∈ OC l, u.oneCell' = true := by
  intro u hu
  simp only [OC, List.mem_flatMap, opC, List.mem_cons, List.not_mem_nil, or_false] at hu
  obtain ⟨f, _, h | h | h⟩ := hu <;> (rw [h]; rfl)
theorem OC_drop (l : List OpT) (k : Nat) : (OC l).drop (k * 3) = OC (l.drop k) := by
  by_cases hk : k ≤ l.length
  · have e : OC l = OC (l.take k) ++ OC (l.drop k) := by rw [← OC_append, List.take_append_drop]
    have hl : (OC (l.take k)).length = k * 3 := by rw [OC_len, List.length_take]; omega
    rw [e, ← hl, List.drop_left]
  · rw [List.drop_of_length_le (by rw [OC_len]; omega), List.drop_of_length_le (by omega)]; rfl
theorem OC_at {l : List OpT} {k : Nat} (hk : k < l.length) :
    (OC l)[k * 3]? = some (.int .i64 l[k].1) ∧ (OC l)[k * 3 + 1]? = some (.int .i64 l[k].2.1) ∧ (OC l)[k * 3 + 2]? = some (.string ⟨(l[k]).2.2.toArray⟩) := by
  have h1 : (OC l).drop (k * 3) = OC (l.drop k) := OC_drop l k
  rw [List.drop_eq_getElem_cons hk] at h1
  have g : ∀ j : Nat, ((OC l).drop (k * 3))[j]? = (OC (l[k] :: l.drop (k + 1)))[j]? := fun j => by rw [h1]
  refine ⟨?_, ?_, ?_⟩
  · have := g 0; rw [List.getElem?_drop] at this; exact this
  · have := g 1; rw [List.getElem?_drop] at this; exact this
  · have := g 2; rw [List.getElem?_drop] at this; exact this

/-- A slice that reads as ops. -/
def RowO (w : World) (v : Value) (l : List OpT) : Prop := RowG 3 w v l.length (OC l)
theorem RowO.ops {w : World} {v : Value} {l : List OpT} (h : RowO w v l) :
    ∃ a c, v = .slice a l.length c ∧ l.length ≤ c ∧ c ≤ maxLen ∧ ∀ k (hk : k < l.length), ∃ g o, a = some ⟨g, o, none⟩ ∧ g < w.heap.size ∧ w.cell? ⟨g, o + k * 3, none⟩ = some (.int .i64 l[k].1) ∧ w.cell? ⟨g, o + k * 3 + 1, none⟩ = some (.int .i64 l[k].2.1) ∧ w.cell? ⟨g, o + k * 3 + 2, none⟩ = some (.string ⟨(l[k]).2.2.toArray⟩) := by
  obtain ⟨a, c, hv, h0, h1, h2, hat⟩ := h
  refine ⟨a, c, hv, h1, h2, fun k hk => ?_⟩
  obtain ⟨q0, q1, q2⟩ := OC_at hk
  obtain ⟨g, o, ha, hg, hc⟩ := hat (k * 3) (by rw [OC_len]; omega)
  obtain ⟨g', o', ha', _, hc'⟩ := hat (k * 3 + 1) (by rw [OC_len]; omega)
  obtain ⟨g'', o'', ha'', _, hc''⟩ := hat (k * 3 + 2) (by rw [OC_len]; omega)
  rw [ha] at ha' ha''
  obtain ⟨rfl, rfl⟩ := addr_inj ha'
  obtain ⟨rfl, rfl⟩ := addr_inj ha''
  rw [List.getElem?_eq_getElem (by rw [OC_len]; omega)] at q0 q1 q2
  refine ⟨g, o, ha, hg, hc.trans q0, ?_, ?_⟩
  · rw [Nat.add_assoc]; exact hc'.trans q1
  · rw [Nat.add_assoc]; exact hc''.trans q2
theorem RowO.of_own {w : World} {B e : Nat} {v : Value} {l : List OpT} (h : w.ownsRow B e 3 v l.length (OC l)) : RowO w v l := RowG.of_own h
theorem RowO.below {w w' : World} {v : Value} {l : List OpT} (h : RowO w v l) (hb : Below w.heap.size w w') : RowO w' v l := RowG.below h hb

theorem elemO : ElemG 114 141 (.agg #[.int .i64 0, .int .i64 0, .string ByteArray.empty]) 3 32 := ⟨Tryz.underlying114, by kernel_rfl, rfl, by decide, by decide⟩

end Go.Proofs.YtgolhfmmlanmlaaGreatDoor

/- Walks: the laws' helpers on ops. -/
namespace Go.Proofs.YtgolhfmmlanmlaaGreatDoor
open Go.RowKit Pth

set_option maxHeartbeats 1000000 in
theorem szOp_any (o : OpT) (left : Nat) (w : World) (hx : o.2.2.length ≤ maxLen) (hl : left ≤ 2000000) :
    Calls Tryz.prog 101 #[opV o, .int .i64 (left : Int)] w fun e w' => ∃ r : Int, e = .returned (.int .i64 r) ∧ r ≤ left ∧ (0 ≤ r → o.2.2.length ≤ left) ∧ Below w.heap.size w w' := by
  obtain ⟨k, n, t⟩ := o
  unfold opV
  simp only at hx ⊢
  unfold maxLen at hx
  have HB := Lib.hid ((Below.refl w.heap.size w).alloc (Nat.le_refl _) (.cells #[.int .i64 k, .int .i64 n, .string ⟨t.toArray⟩] 136))
  by_cases h1 : t.length ≤ left
  · have d1 : decide ((left : Int) - (t.length : Int) < 0) = false := by simp; omega
    go_enter Tryz.func101, Tryz.ntmps101
    go_wp2_with fail
    go_ret
    exact ⟨_, rfl, by omega, fun _ => by omega, HB.out⟩
  · have d1 : decide ((left : Int) - (t.length : Int) < 0) = true := by simp; omega
    go_enter Tryz.func101, Tryz.ntmps101
    go_wp2_with fail
    go_ret
    exact ⟨-1, rfl, by omega, fun h => by omega, HB.out⟩

/-- Results that lie in a block. -/
theorem results_cellO {fn : Func} {p : Tmp} {ty : TypeId} (h : fn.results = #[.cell p ty]) {tmps : Array Value} {w : World} {ad : Addr} {v : Value} (hp : tmps.getD p undef = .pointer (some ad)) (hl : (loadVar ty ad).run Tryz.prog w = .ok v w) :
    (results fn tmps).run Tryz.prog w = .ok v w := by
  have hp' : tmps[p]?.getD undef = .pointer (some ad) := by simpa using hp
  simp only [results, h]
  simp [hp', asAddr, hl]
theorem load_op {w : World} {b : Nat} {x y z : Value} (h0 : w.cell? ⟨b, 0, none⟩ = some x) (h1 : w.cell? ⟨b, 1, none⟩ = some y) (h2 : w.cell? ⟨b, 2, none⟩ = some z) : (loadVar 141 ⟨b, 0, none⟩).run Tryz.prog w = .ok (.agg #[x, y, z]) w := by
  go_simp

set_option maxHeartbeats 1000000 in
theorem toOp_any (o : OpT) (w : World) :
    Calls Tryz.prog 107 #[opV o] w fun e w' => e = .returned (opV o) ∧ Below w.heap.size w w' := by
  obtain ⟨k, n, t⟩ := o
  unfold opV
  simp only
  go_enter Tryz.func107, Tryz.ntmps107
  go_wp2_with fail
  refine bodyPost_ret (results_cellO rfl rfl (load_op (x := .int .i64 k) (y := .int .i64 n) (z := .string ⟨t.toArray⟩) (by go_simp) (by go_simp) (by go_simp))) rfl ?_
  exact ⟨rfl, (((Below.refl w.heap.size w).alloc (Nat.le_refl _) _).alloc (by simp) _).alloc (by simp; omega) _⟩

theorem ret_dec {p : Prop} [Decidable p] {b : Bool} (h : decide p = b) : Ending.returned (.bool b) = Ending.returned (.bool (decide p)) := by rw [h]

set_option maxHeartbeats 1000000 in
theorem eqOp_b {o p : OpT} {b : Bool} (h : decide (o = p) = b) (w : World) :
    Calls Tryz.prog 120 #[opV o, opV p] w fun e w' => e = .returned (.bool b) ∧ Below w.heap.size w w' := by
  obtain ⟨k, n, t⟩ := o
  obtain ⟨k', n', t'⟩ := p
  have HT := Lib.hid h
  unfold opV
  simp only
  have HB := Lib.hid (((Below.refl w.heap.size w).alloc (Nat.le_refl _) (.cells #[.int .i64 k, .int .i64 n, .string ⟨t.toArray⟩] 141)).alloc (by simp) (.cells #[.int .i64 k', .int .i64 n', .string ⟨t'.toArray⟩] 141))
  clear h
  by_cases h1 : k = k'
  · have d1 : (k != k') = false := by simp [h1]
    by_cases h2 : n = n'
    · have d2 : (n != n') = false := by simp [h2]
      by_cases h3 : t = t'
      · have d3 : (!(t == t')) = false := by simp [h3]
        have HE : Hid (b = true) := by have := HT.out; rw [h1, h2, h3] at this; simpa [Hid] using this.symm
        clear h1 h2 h3 HT
        go_enter Tryz.func120, Tryz.ntmps120
        go_wp2_with fail
        go_ret
        exact ⟨by rw [HE.out] <;> rfl, HB.out⟩
      · have d3 : (!(t == t')) = true := by simp [h3]
        have HE : Hid (b = false) := by rw [← HT.out]; exact decide_eq_false (fun h => h3 (by injection h with _ h; injection h))
        clear h1 h2 h3 HT
        go_enter Tryz.func120, Tryz.ntmps120
        go_wp2_with fail
        go_ret
        exact ⟨by rw [HE.out] <;> rfl, HB.out⟩
    · have d2 : (n != n') = true := by simp [h2]
      have HE : Hid (b = false) := by rw [← HT.out]; exact decide_eq_false (fun h => h2 (by injection h with _ h; injection h))
      clear h1 h2 HT
      go_enter Tryz.func120, Tryz.ntmps120
      go_wp2_with fail
      go_ret
      exact ⟨by rw [HE.out] <;> rfl, HB.out⟩
  · have d1 : (k != k') = true := by simp [h1]
    have HE : Hid (b = false) := by rw [← HT.out]; exact decide_eq_false (fun h => h1 (by injection h))
    clear h1 HT
    go_enter Tryz.func120, Tryz.ntmps120
    go_wp2_with fail
    go_ret
    exact ⟨by rw [HE.out] <;> rfl, HB.out⟩

end Go.Proofs.YtgolhfmmlanmlaaGreatDoor
