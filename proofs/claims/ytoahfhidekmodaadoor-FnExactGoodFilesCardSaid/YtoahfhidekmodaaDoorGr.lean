/- Lists of records: elements of several cells each, read wherever they lie, put behind one of the call's own; files. -/
import Derived.Test.YtoahfhidekmodaaDoorPr
import Derived.Test.YtoahfhidekmodaaDoorFMath
namespace Go.Proofs.YtoahfhidekmodaaDoor
open Go.RowKit Pth

/-- A slice of n elements of z cells each. -/
def RowG (z : Nat) (w : World) (v : Value) (n : Nat) (xs : List Value) : Prop :=
  ∃ a c, v = .slice a n c ∧ xs.length = n * z ∧ n ≤ c ∧ c ≤ maxLen ∧ ∀ k (hk : k < xs.length), ∃ g o, a = some ⟨g, o, none⟩ ∧ g < w.heap.size ∧ w.cell? ⟨g, o + k, none⟩ = some xs[k]

theorem RowG.of_own {w : World} {B e n z : Nat} {v : Value} {xs : List Value} (h : w.ownsRow B e z v n xs) : RowG z w v n xs := by
  have hn := h.1
  rcases h.2 with ⟨hv, h0⟩ | ⟨g, cap, cur, hv, hB, hh, hnc, hcm, hsz, htake⟩
  · refine ⟨none, 0, by rw [hv, h0], hn, by omega, by unfold maxLen; omega, fun k hk => ?_⟩
    rw [hn, h0] at hk
    omega
  · refine ⟨some ⟨g, 0, none⟩, cap, hv, hn, hnc, hcm, fun k hk => ⟨g, 0, rfl, lt_of_block hh, ?_⟩⟩
    have := h.cells (g := g) (by rw [hv]; rfl) k xs[k] (by simp [hk])
    rw [add_addr] at this
    exact this
theorem RowG.alloc {z : Nat} {w : World} {v : Value} {n : Nat} {xs : List Value} (h : RowG z w v n xs) (o : Obj) : RowG z (w.alloc o) v n xs := by
  obtain ⟨a, c, hv, h0, h1, h2, hat⟩ := h
  refine ⟨a, c, hv, h0, h1, h2, fun k hk => ?_⟩
  obtain ⟨g, o', ha, hg, hc⟩ := hat k hk
  exact ⟨g, o', ha, by simp; omega, by rw [World.cell?_alloc_lt _ _ _ hg]; exact hc⟩
theorem RowG.below {z : Nat} {w w' : World} {v : Value} {n : Nat} {xs : List Value} (h : RowG z w v n xs) (hb : Below w.heap.size w w') : RowG z w' v n xs := by
  obtain ⟨a, c, hv, h0, h1, h2, hat⟩ := h
  refine ⟨a, c, hv, h0, h1, h2, fun k hk => ?_⟩
  obtain ⟨g, o', ha, hg, hc⟩ := hat k hk
  exact ⟨g, o', ha, by have := hb.size; omega, by rw [hb.cell (p := ⟨g, o' + k, none⟩) hg]; exact hc⟩
/-- The front of it. -/
theorem RowG.front {z : Nat} {w : World} {a : Option Addr} {c n : Nat} {xs : List Value} (h : RowG z w (.slice a n c) n xs) (k : Nat) (hk : k ≤ n) : RowG z w (.slice a k c) k (xs.take (k * z)) := by
  obtain ⟨a', c', hv, h0, h1, h2, hat⟩ := h
  injection hv with e1 e2 e3
  subst e1 e3
  have hle : k * z ≤ n * z := Nat.mul_le_mul_right _ hk
  have hl : (xs.take (k * z)).length = k * z := by rw [List.length_take]; omega
  refine ⟨a, c, rfl, hl, by omega, h2, fun j hj => ?_⟩
  obtain ⟨g, o, ha, hg, hc⟩ := hat j (by omega)
  exact ⟨g, o, ha, hg, by rw [List.getElem_take]; exact hc⟩
/-- What is behind k of it. -/
theorem RowG.back {z : Nat} {w : World} {a : Option Addr} {c n : Nat} {xs : List Value} (h : RowG z w (.slice a n c) n xs) (k : Nat) (hk : k ≤ n) (hz : 0 < z) :
    RowG z w (.slice (if c = k then a else a.map (·.add (k * z))) (n - k) (c - k)) (n - k) (xs.drop (k * z)) := by
  obtain ⟨a', c', hv, h0, h1, h2, hat⟩ := h
  injection hv with e1 e2 e3
  subst e1 e3
  refine ⟨_, _, rfl, by rw [List.length_drop, h0, Nat.sub_mul], by omega, by omega, fun j hj => ?_⟩
  rw [List.length_drop] at hj
  obtain ⟨g, o, ha, hg, hcell⟩ := hat (k * z + j) (by omega)
  have hne : ¬ c = k := by
    intro e
    subst e
    have : n * z = c * z := by rw [Nat.le_antisymm h1 hk]
    omega
  refine ⟨g, o + k * z, ?_, hg, ?_⟩
  · rw [if_neg hne, ha, Option.map_some, add_addr]
  · rw [List.getElem_drop, Nat.add_assoc]; exact hcell

/-- The element type of a slice type, its zero, its cells and its size. -/
structure ElemG (t e : TypeId) (z : Value) (size bytes : Nat) : Prop where
  under : Tryd.prog.underlying t = some (.slice e)
  info : (Tryd.prog.info? e).map (fun i => (i.zero, i.size, i.bytes)) = some (some z, size, bytes)
  cells : z.cells.size = size
  pos : 0 < size
  small : bytes ≤ 1000

theorem run_app_noneG {t e : TypeId} {z : Value} {size bytes : Nat} (E : ElemG t e z size bytes) (w : World) (B n c : Nat) (ty : TypeId) (v : Value) (xs : List Value) (hown : w.ownsRow B e size v n xs) :
    (Builtin.append_ #[t, t] ty #[v, .slice none 0 c]).run Tryd.prog w = .ok v w := by
  obtain ⟨i0, hi, hz0, hz1, hz2⟩ := info_parts E.info
  rcases hown.2 with ⟨rfl, rfl⟩ | ⟨g, cap, cur, rfl, _, _, hnc, _⟩
  · simp [Builtin.append_, run_underlying E.under, sizeOf, typeInfo, hi, Builtin.lenOf, Builtin.firstCells]
  · simp [Builtin.append_, run_underlying E.under, sizeOf, typeInfo, hi, Builtin.lenOf, Builtin.firstCells, hnc, storeCells]

theorem run_app_rowG {t e : TypeId} {z : Value} {size bytes : Nat} (E : ElemG t e z size bytes) (w : World) (B : Nat) (ty : TypeId) (v : Value) (n m : Nat) (xs ys : List Value) (A : Option Addr) (c : Nat) (hown : w.ownsRow B e size v n xs) (hrow : RowG size w (.slice A m c) m ys)
    (hone : ∀ u ∈ ys, u.oneCell' = true) (hlen : n + m ≤ 1000000) (hB : B ≤ w.heap.size) :
    ∃ v' w', (Builtin.append_ #[t, t] ty #[v, .slice A m c]).run Tryd.prog w = .ok v' w' ∧ w'.ownsRow B e size v' (n + m) (xs ++ ys) ∧ w.grownBy w' v.ownBlock := by
  obtain ⟨i0, hi, hz0, hz1, hz2⟩ := info_parts E.info
  obtain ⟨A', c', hv, h0, h1, h2, hat⟩ := hrow
  injection hv with hA _ _
  subst hA
  have go : ∀ ad : Addr, (∀ j u, ys[j]? = some u → w.cell? (ad.add j) = some u) → ∃ v' w', (Builtin.append_ #[t, t] ty #[v, .slice (some ad) m c]).run Tryd.prog w = .ok v' w' ∧ w'.ownsRow B e size v' (n + m) (xs ++ ys) ∧ w.grownBy w' v.ownBlock := by
    intro ad hc
    obtain ⟨v', w', h1, h2, h3, _⟩ := run_append_own (P := Tryd.prog) w B t ty e i0 z size bytes E.under hi hz0 hz1 hz2 E.cells E.pos v n xs hown ad m c ys h0 hc hone (by unfold maxLen; omega)
      (Nat.le_trans (Nat.mul_le_mul hlen E.small) (by decide)) hB
    exact ⟨v', w', h1, h2, h3⟩
  rcases m with _ | m
  · have hys : ys = [] := List.eq_nil_of_length_eq_zero (by rw [h0]; omega)
    subst hys
    rcases A with _ | ad
    · exact ⟨v, w, run_app_noneG E w B n c ty v xs hown, by simpa using hown, ⟨rfl, rfl, rfl, Nat.le_refl _, fun _ _ _ => rfl⟩⟩
    · exact go ad (fun j u hu => by simp at hu)
  · have hpos : 0 < ys.length := by
      have := E.pos
      rw [h0, Nat.add_mul]
      omega
    obtain ⟨g, o, rfl, _, _⟩ := hat 0 hpos
    refine go _ (fun j u hu => ?_)
    obtain ⟨hj, hu⟩ := List.getElem?_eq_some_iff.1 hu
    obtain ⟨g', o', he, _, hc⟩ := hat j hj
    obtain ⟨rfl, rfl⟩ := addr_inj he
    rw [add_addr, hc, hu]

/-- A list put behind one of the call's own. -/
theorem wpAppRowG {t e : TypeId} {z : Value} {size bytes : Nat} (E : ElemG t e z size bytes) {ops : Array Oper} {rest : List Oper} {o : Oper} {a : Act} {Q : Exit → Act → World → Prop} {w : World} (hgd : o.guard = none) (s x : Operand)
    (ho : o.op = .call { callee := .builtin .append, args := #[s, x], argTypes := #[t, t] })
    (B : Nat) (v : Value) (n m : Nat) (xs ys : List Value) (u : Value) (hs : a.eval s = v) (hown : w.ownsRow B e size v n xs) (hx : a.eval x = u) (hrow : RowG size w u m ys)
    (hone : ∀ u ∈ ys, u.oneCell' = true) (hlen : n + m ≤ 1000000) (hB : B ≤ w.heap.size)
    (h : ∀ v' w', w'.ownsRow B e size v' (n + m) (xs ++ ys) → w.grownBy w' v.ownBlock → wpList Tryd.prog ops Q rest (a.put o.dst v') w') :
    wpList Tryd.prog ops Q (o :: rest) a w := by
  refine wpList_plain hgd fun K hK => ?_
  obtain ⟨A, c, hu, _⟩ := id hrow
  subst hu
  obtain ⟨v', w', hrun, h2, h3⟩ := run_app_rowG E w B o.type v n m xs ys A c hown hrow hone hlen hB
  unfold Oper.wp execOp
  simp only [ho, resolve, invoke, builtin, Sem.run_bind, Sem.run_pure, Result.andThen_ok, List.map_toArray, List.map_cons, List.map_nil, hs, hx, hrun]
  exact hK _ _ (h v' w' h2 h3)

theorem cells_new (w : World) (ys : List Value) (t : TypeId) : ∀ j u, ys[j]? = some u → (w.alloc (.cells ys.toArray t)).cell? ((⟨w.heap.size, 0, none⟩ : Addr).add j) = some u := by
  intro j u hj
  rw [add_addr]
  simpa using hj

/-- One element put behind a list of the call's own. -/
theorem wpAppOneG {t e : TypeId} {z : Value} {size bytes : Nat} (E : ElemG t e z size bytes) {ops : Array Oper} {rest : List Oper} {o : Oper} {a : Act} {Q : Exit → Act → World → Prop} {w : World} {y : Array Value} (hgd : o.guard = none) (s x : Operand)
    (ho : o.op = .call { callee := .builtin .append, args := #[s, x], argTypes := #[t, t] })
    (B : Nat) (v : Value) (n : Nat) (xs : List Value) (hs : a.eval s = v) (hown : w.ownsRow B e size v n xs) (N : Nat) (hx : a.eval x = .slice (some ⟨N, 0, none⟩) 1 1) (hN : N = w.heap.size) (hy : y.toList.length = size) (hone : ∀ u ∈ y.toList, u.oneCell' = true)
    (hlen : n ≤ 1000000) (hB : B ≤ w.heap.size)
    (h : ∀ v' w', w'.ownsRow B e size v' (n + 1) (xs ++ y.toList) → w.grownBy w' v.ownBlock → wpList Tryd.prog ops Q rest (a.put o.dst v') w') :
    wpList Tryd.prog ops Q (o :: rest) a (w.alloc (.cells y e)) := by
  subst hN
  obtain ⟨i0, hi, hz0, hz1, hz2⟩ := info_parts E.info
  have hy2 : y = y.toList.toArray := by simp
  refine wpList_append_own _ hgd s x t ho B e i0 z size bytes E.under hi hz0 hz1 hz2 E.cells E.pos v n xs hs (hown.alloc _) ⟨w.heap.size, 0, none⟩ 1 1 y.toList hx (by rw [hy]; omega) (by rw [hy2]; simpa using cells_new w y.toList e) hone ?_ ?_ ?_ ?_
  · unfold maxLen; omega
  · exact Nat.le_trans (Nat.mul_le_mul (Nat.add_le_add_right hlen 1) E.small) (by decide)
  · simp; omega
  · intro v' w' h1 h2 _
    have hg : w.grownBy w' v.ownBlock := ⟨h2.os, h2.tape, h2.output, Nat.le_trans (by simp) h2.size, fun k hk hne => (h2.block k (by simp; omega) hne).trans (Below.heap_alloc _ _ _ hk)⟩
    exact h v' w' h1 hg

theorem own_baseG {w : World} {B B' e n z : Nat} {v : Value} {xs : List Value} (h : w.ownsRow B e z v n xs) (hB : B' ≤ B) : w.ownsRow B' e z v n xs := by
  refine ⟨h.1, ?_⟩
  rcases h.2 with h0 | ⟨g, cap, cur, hv, hg, r⟩
  · exact .inl h0
  · exact .inr ⟨g, cap, cur, hv, by omega, r⟩
theorem own_belowG {w w' : World} {B e n z : Nat} {v : Value} {xs : List Value} (h : w.ownsRow B e z v n xs) (hb : Below w.heap.size w w') : w'.ownsRow B e z v n xs := by
  refine ⟨h.1, ?_⟩
  rcases h.2 with h0 | ⟨g, cap, cur, hv, hg, hh, r⟩
  · exact .inl h0
  · exact .inr ⟨g, cap, cur, hv, hg, (hb.block g (lt_of_block hh)).trans hh, r⟩
theorem below_ownG {w w' : World} {B e n z : Nat} {v : Value} {xs : List Value} (hown : w.ownsRow B e z v n xs) (hg : w.grownBy w' v.ownBlock) (hB : B ≤ w.heap.size) : Below B w w' :=
  (Below.refl B w).grown hg hB (fun k hk => (hown.lt k hk).1)
theorem own_sliceG {w : World} {B e n z : Nat} {v : Value} {xs : List Value} (h : w.ownsRow B e z v n xs) : ∃ a c, v = .slice a n c := by
  rcases h.2 with ⟨hv, h0⟩ | ⟨g, cap, cur, hv, _⟩
  · exact ⟨none, 0, by rw [hv, h0]⟩
  · exact ⟨_, _, hv⟩

/-- Files as cells. -/
def fileC (f : FileT) : List Value := [.string ⟨f.1.toArray⟩, .string ⟨f.2.toArray⟩]
def FC (l : List FileT) : List Value := l.flatMap fileC
theorem FC_len (l : List FileT) : (FC l).length = l.length * 2 := by
  induction l with
  | nil => rfl
  | cons f t ih => simp only [FC, List.flatMap_cons, List.length_append, List.length_cons] at ih ⊢; simp only [fileC, List.length_cons, List.length_nil]; omega
theorem FC_append (a b : List FileT) : FC (a ++ b) = FC a ++ FC b := by simp [FC]
theorem FC_one (l : List FileT) : ∀ u ∈ FC l, u.oneCell' = true := by
  intro u hu
  simp only [FC, List.mem_flatMap, fileC, List.mem_cons, List.not_mem_nil, or_false] at hu
  obtain ⟨f, _, h | h⟩ := hu <;> (rw [h]; rfl)
theorem FC_take (l : List FileT) (k : Nat) : (FC l).take (k * 2) = FC (l.take k) := by
  by_cases hk : k ≤ l.length
  · have e : FC l = FC (l.take k) ++ FC (l.drop k) := by rw [← FC_append, List.take_append_drop]
    have hl : (FC (l.take k)).length = k * 2 := by rw [FC_len, List.length_take]; omega
    rw [e, ← hl, List.take_left]
  · rw [List.take_of_length_le (by rw [FC_len]; omega), List.take_of_length_le (by omega)]
theorem FC_drop (l : List FileT) (k : Nat) : (FC l).drop (k * 2) = FC (l.drop k) := by
  by_cases hk : k ≤ l.length
  · have e : FC l = FC (l.take k) ++ FC (l.drop k) := by rw [← FC_append, List.take_append_drop]
    have hl : (FC (l.take k)).length = k * 2 := by rw [FC_len, List.length_take]; omega
    rw [e, ← hl, List.drop_left]
  · rw [List.drop_of_length_le (by rw [FC_len]; omega), List.drop_of_length_le (by omega)]; rfl
theorem FC_name {l : List FileT} {k : Nat} (hk : k < l.length) : (FC l)[k * 2]'(by rw [FC_len]; omega) = .string ⟨(l[k]).1.toArray⟩ := by
  have h1 : (FC l).drop (k * 2) = FC (l.drop k) := FC_drop l k
  rw [List.drop_eq_getElem_cons hk] at h1
  have h2 : ((FC l).drop (k * 2))[0]? = some (.string ⟨(l[k]).1.toArray⟩) := by rw [h1]; rfl
  rw [List.getElem?_drop, Nat.add_zero, List.getElem?_eq_getElem (by rw [FC_len]; omega)] at h2
  exact Option.some.inj h2
theorem FC_body {l : List FileT} {k : Nat} (hk : k < l.length) : (FC l)[k * 2 + 1]'(by rw [FC_len]; omega) = .string ⟨(l[k]).2.toArray⟩ := by
  have h1 : (FC l).drop (k * 2) = FC (l.drop k) := FC_drop l k
  rw [List.drop_eq_getElem_cons hk] at h1
  have h2 : ((FC l).drop (k * 2))[1]? = some (.string ⟨(l[k]).2.toArray⟩) := by rw [h1]; rfl
  rw [List.getElem?_drop, List.getElem?_eq_getElem (by rw [FC_len]; omega)] at h2
  exact Option.some.inj h2

/-- A slice that reads as files. -/
def RowF (w : World) (v : Value) (l : List FileT) : Prop := RowG 2 w v l.length (FC l)
theorem RowF.files {w : World} {v : Value} {l : List FileT} (h : RowF w v l) :
    ∃ a c, v = .slice a l.length c ∧ l.length ≤ c ∧ c ≤ maxLen ∧ ∀ k (hk : k < l.length), ∃ g o, a = some ⟨g, o, none⟩ ∧ g < w.heap.size ∧ w.cell? ⟨g, o + k * 2, none⟩ = some (.string ⟨(l[k]).1.toArray⟩) ∧ w.cell? ⟨g, o + k * 2 + 1, none⟩ = some (.string ⟨(l[k]).2.toArray⟩) := by
  obtain ⟨a, c, hv, h0, h1, h2, hat⟩ := h
  refine ⟨a, c, hv, h1, h2, fun k hk => ?_⟩
  obtain ⟨g, o, ha, hg, hc⟩ := hat (k * 2) (by rw [FC_len]; omega)
  obtain ⟨g', o', ha', _, hc'⟩ := hat (k * 2 + 1) (by rw [FC_len]; omega)
  rw [ha] at ha'
  obtain ⟨rfl, rfl⟩ := addr_inj ha'
  rw [FC_name hk] at hc
  rw [FC_body hk, ← Nat.add_assoc] at hc'
  exact ⟨g, o, ha, hg, hc, hc'⟩

end Go.Proofs.YtoahfhidekmodaaDoor
