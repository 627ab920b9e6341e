/- Lists of cells: read wherever they lie, put behind one of the call's own. -/
import Derived.Test.YtoahfhidekmodaaDoorRows
import Derived.Test.YtoahfhidekmodaaDoorPMath
import Derived.WalkKit
import Derived.WalkSpells
import Derived.WalkLawsBesides
import Derived.Deep.Light
import Derived.Deep.LoopGhost
import Derived.Deep.DeepMust
import Derived.Lib.Hide
import Derived.BigQuiet
import Derived.Deep.QuietTactic
import Derived.Deep.RegionHeld3
import Derived.StillTailTactics
import Derived.Laws.IdiomStrings
namespace Go.Proofs.YtoahfhidekmodaaDoor
open Go.RowKit Pth

theorem ret_bool {a b : Bool} (h : a = b) : Ending.returned (.bool a) = .returned (.bool b) := by rw [h]

theorem lt_of_block {w : World} {b : Nat} {o : Obj} (h : w.heap[b]? = some o) : b < w.heap.size := by
  rcases Nat.lt_or_ge b w.heap.size with h' | h'
  · exact h'
  · rw [Array.getElem?_eq_none h'] at h; cases h

theorem one_new (w : World) (x : Value) (t : TypeId) : ∀ j u, [x][j]? = some u → (w.alloc (.cells #[x] t)).cell? ((⟨w.heap.size, 0, none⟩ : Addr).add j) = some u := by
  intro j u hj
  match j, hj with
  | 0, hj => simp at hj; subst hj; simp [Addr.add]

theorem own_slice {w : World} {B e n : Nat} {v : Value} {xs : List Value} (h : w.ownsRow B e 1 v n xs) : ∃ a c, v = .slice a n c := by
  rcases h.2 with ⟨hv, h0⟩ | ⟨g, cap, cur, hv, _⟩
  · exact ⟨none, 0, by rw [hv, h0]⟩
  · exact ⟨_, _, hv⟩

theorem add_addr (g o k : Nat) : (⟨g, o, none⟩ : Addr).add k = ⟨g, o + k, none⟩ := by unfold Addr.add; split <;> simp_all

theorem addr_inj {g o g' o' : Nat} (h : (some (⟨g, o, none⟩ : Addr)) = some ⟨g', o', none⟩) : g = g' ∧ o = o' := by
  injection h with h
  injection h with h1 h2
  exact ⟨h1, h2⟩

/-- A slice that reads as a list of cells, wherever it lies. -/
def RowV (w : World) (v : Value) (xs : List Value) : Prop :=
  ∃ a c, v = .slice a xs.length c ∧ xs.length ≤ c ∧ c ≤ maxLen ∧ ∀ k (hk : k < xs.length), ∃ g o, a = some ⟨g, o, none⟩ ∧ g < w.heap.size ∧ w.cell? ⟨g, o + k, none⟩ = some xs[k]

theorem RowV.of_own {w : World} {B e n : Nat} {v : Value} {xs : List Value} (h : w.ownsRow B e 1 v n xs) : RowV w v xs := by
  have hn : xs.length = n := by have := h.1; omega
  rcases h.2 with ⟨hv, h0⟩ | ⟨g, cap, cur, hv, hB, hh, hnc, hcm, hsz, htake⟩
  · refine ⟨none, 0, by rw [hv, hn, h0], by omega, by unfold maxLen; omega, fun k hk => by omega⟩
  · refine ⟨some ⟨g, 0, none⟩, cap, by rw [hv, hn], by omega, hcm, fun k hk => ⟨g, 0, rfl, lt_of_block hh, ?_⟩⟩
    have := h.cells (g := g) (by rw [hv]; rfl) k xs[k] (by simp [hk])
    rw [add_addr] at this
    exact this
theorem RowV.alloc {w : World} {v : Value} {xs : List Value} (h : RowV w v xs) (o : Obj) : RowV (w.alloc o) v xs := by
  obtain ⟨a, c, hv, h1, h2, hat⟩ := h
  refine ⟨a, c, hv, h1, h2, fun k hk => ?_⟩
  obtain ⟨g, o', ha, hg, hc⟩ := hat k hk
  exact ⟨g, o', ha, by simp; omega, by rw [World.cell?_alloc_lt _ _ _ hg]; exact hc⟩
theorem RowV.below {w w' : World} {v : Value} {xs : List Value} (h : RowV w v xs) (hb : Below w.heap.size w w') : RowV w' v xs := by
  obtain ⟨a, c, hv, h1, h2, hat⟩ := h
  refine ⟨a, c, hv, h1, h2, fun k hk => ?_⟩
  obtain ⟨g, o', ha, hg, hc⟩ := hat k hk
  exact ⟨g, o', ha, by have := hb.size; omega, by rw [hb.cell (p := ⟨g, o' + k, none⟩) hg]; exact hc⟩
/-- The front of it. -/
theorem RowV.front {w : World} {a : Option Addr} {c : Nat} {xs : List Value} (h : RowV w (.slice a xs.length c) xs) (k : Nat) (hk : k ≤ xs.length) : RowV w (.slice a k c) (xs.take k) := by
  obtain ⟨a', c', hv, h1, h2, hat⟩ := h
  injection hv with e1 e2 e3
  subst e1 e3
  have hl : (xs.take k).length = k := by rw [List.length_take]; omega
  refine ⟨a, c, by rw [hl], by omega, h2, fun j hj => ?_⟩
  obtain ⟨g, o, ha, hg, hc⟩ := hat j (by omega)
  exact ⟨g, o, ha, hg, by rw [List.getElem_take]; exact hc⟩
/-- What is behind k of it. -/
theorem RowV.back {w : World} {a : Option Addr} {c : Nat} {xs : List Value} (h : RowV w (.slice a xs.length c) xs) (k : Nat) (hk : k ≤ xs.length) :
    RowV w (.slice (if c = k then a else a.map (·.add (k * 1))) (xs.length - k) (c - k)) (xs.drop k) := by
  obtain ⟨a', c', hv, h1, h2, hat⟩ := h
  injection hv with e1 e2 e3
  subst e1 e3
  refine ⟨_, _, by rw [List.length_drop], by rw [List.length_drop]; omega, by omega, fun j hj => ?_⟩
  rw [List.length_drop] at hj
  obtain ⟨g, o, ha, hg, hcell⟩ := hat (k + j) (by omega)
  refine ⟨g, o + k, ?_, hg, ?_⟩
  · rw [if_neg (by omega), ha, Option.map_some, add_addr, Nat.mul_one]
  · rw [List.getElem_drop, Nat.add_assoc]; exact hcell

/-- The element type of a slice type, its zero and its size. -/
structure Elem (t e : TypeId) (z : Value) (bytes : Nat) : Prop where
  under : Tryd.prog.underlying t = some (.slice e)
  info : (Tryd.prog.info? e).map (fun i => (i.zero, i.size, i.bytes)) = some (some z, 1, bytes)
  one : z.cells.size = 1
  small : bytes ≤ 100

theorem info_parts {e : TypeId} {z : Value} {s b : Nat} (h : (Tryd.prog.info? e).map (fun i => (i.zero, i.size, i.bytes)) = some (some z, s, b)) :
    ∃ i, Tryd.prog.info? e = some i ∧ i.zero = some z ∧ i.size = s ∧ i.bytes = b := by
  obtain ⟨i, hi, he⟩ := Option.map_eq_some_iff.1 h
  simp only [Prod.mk.injEq] at he
  exact ⟨i, hi, he.1, he.2.1, he.2.2⟩

theorem run_app_none {t e : TypeId} {z : Value} {bytes : Nat} (E : Elem t e z bytes) (w : World) (B n c : Nat) (ty : TypeId) (v : Value) (xs : List Value) (hown : w.ownsRow B e 1 v n xs) :
    (Builtin.append_ #[t, t] ty #[v, .slice none 0 c]).run Tryd.prog w = .ok v w := by
  obtain ⟨i0, hi, hz0, hz1, hz2⟩ := info_parts E.info
  rcases hown.2 with ⟨rfl, rfl⟩ | ⟨g, cap, cur, rfl, _, _, hnc, _⟩
  · simp [Builtin.append_, run_underlying E.under, sizeOf, typeInfo, hi, Builtin.lenOf, Builtin.firstCells]
  · simp [Builtin.append_, run_underlying E.under, sizeOf, typeInfo, hi, Builtin.lenOf, Builtin.firstCells, hnc, storeCells]

theorem run_app_row {t e : TypeId} {z : Value} {bytes : Nat} (E : Elem t e z bytes) (w : World) (B : Nat) (ty : TypeId) (v : Value) (xs ys : List Value) (A : Option Addr) (c : Nat) (hown : w.ownsRow B e 1 v xs.length xs) (hrow : RowV w (.slice A ys.length c) ys)
    (hone : ∀ u ∈ ys, u.oneCell' = true) (hlen : xs.length + ys.length ≤ 1000000) (hB : B ≤ w.heap.size) :
    ∃ v' w', (Builtin.append_ #[t, t] ty #[v, .slice A ys.length c]).run Tryd.prog w = .ok v' w' ∧ w'.ownsRow B e 1 v' (xs ++ ys).length (xs ++ ys) ∧ w.grownBy w' v.ownBlock := by
  obtain ⟨i0, hi, hz0, hz1, hz2⟩ := info_parts E.info
  obtain ⟨A', c', hv, h1, h2, hat⟩ := hrow
  injection hv with hA _ _
  subst hA
  have go : ∀ ad : Addr, (∀ j u, ys[j]? = some u → w.cell? (ad.add j) = some u) → ∃ v' w', (Builtin.append_ #[t, t] ty #[v, .slice (some ad) ys.length c]).run Tryd.prog w = .ok v' w' ∧ w'.ownsRow B e 1 v' (xs ++ ys).length (xs ++ ys) ∧ w.grownBy w' v.ownBlock := by
    intro ad hc
    obtain ⟨v', w', h1, h2, h3, _⟩ := run_append_own (P := Tryd.prog) w B t ty e i0 z 1 bytes E.under hi hz0 hz1 hz2 E.one (by decide) v xs.length xs hown ad ys.length c ys (by omega) hc hone (by unfold maxLen; omega)
      (Nat.le_trans (Nat.mul_le_mul hlen E.small) (by decide)) hB
    exact ⟨v', w', h1, by rw [List.length_append]; exact h2, h3⟩
  rcases ys with _ | ⟨p, q⟩
  · rcases A with _ | ad
    · exact ⟨v, w, run_app_none E w B xs.length c ty v xs hown, by simpa using hown, ⟨rfl, rfl, rfl, Nat.le_refl _, fun _ _ _ => rfl⟩⟩
    · exact go ad (fun j u hu => by simp at hu)
  · obtain ⟨g, o, rfl, _, _⟩ := hat 0 (by simp)
    refine go _ (fun j u hu => ?_)
    obtain ⟨hj, hu⟩ := List.getElem?_eq_some_iff.1 hu
    obtain ⟨g', o', he, _, hc⟩ := hat j hj
    obtain ⟨rfl, rfl⟩ := addr_inj he
    rw [add_addr, hc, hu]

/-- A list put behind one of the call's own. -/
theorem wpAppRow {t e : TypeId} {z : Value} {bytes : Nat} (E : Elem t e z bytes) {ops : Array Oper} {rest : List Oper} {o : Oper} {a : Act} {Q : Exit → Act → World → Prop} {w : World} (hgd : o.guard = none) (s x : Operand)
    (ho : o.op = .call { callee := .builtin .append, args := #[s, x], argTypes := #[t, t] })
    (B : Nat) (v : Value) (xs ys : List Value) (u : Value) (hs : a.eval s = v) (hown : w.ownsRow B e 1 v xs.length xs) (hx : a.eval x = u) (hrow : RowV w u ys)
    (hone : ∀ u ∈ ys, u.oneCell' = true) (hlen : xs.length + ys.length ≤ 1000000) (hB : B ≤ w.heap.size)
    (h : ∀ v' w', w'.ownsRow B e 1 v' (xs ++ ys).length (xs ++ ys) → w.grownBy w' v.ownBlock → wpList Tryd.prog ops Q rest (a.put o.dst v') w') :
    wpList Tryd.prog ops Q (o :: rest) a w := by
  refine wpList_plain hgd fun K hK => ?_
  obtain ⟨A, c, hu, _⟩ := id hrow
  subst hu
  obtain ⟨v', w', hrun, h2, h3⟩ := run_app_row E w B o.type v xs ys A c hown hrow hone hlen hB
  unfold Oper.wp execOp
  simp only [ho, resolve, invoke, builtin, Sem.run_bind, Sem.run_pure, Result.andThen_ok, List.map_toArray, List.map_cons, List.map_nil, hs, hx, hrun]
  exact hK _ _ (h v' w' h2 h3)

/-- One cell put behind a list of the call's own. -/
theorem wpAppOne {t e : TypeId} {z : Value} {bytes : Nat} (E : Elem t e z bytes) {ops : Array Oper} {rest : List Oper} {o : Oper} {a : Act} {Q : Exit → Act → World → Prop} {w : World} {y : Value} (hgd : o.guard = none) (s x : Operand)
    (ho : o.op = .call { callee := .builtin .append, args := #[s, x], argTypes := #[t, t] })
    (B : Nat) (v : Value) (xs : List Value) (hs : a.eval s = v) (hown : w.ownsRow B e 1 v xs.length xs) (N : Nat) (hx : a.eval x = .slice (some ⟨N, 0, none⟩) 1 1) (hN : N = w.heap.size) (hone : y.oneCell' = true)
    (hlen : xs.length ≤ 1000000) (hB : B ≤ w.heap.size)
    (h : ∀ v' w', w'.ownsRow B e 1 v' (xs ++ [y]).length (xs ++ [y]) → w.grownBy w' v.ownBlock → wpList Tryd.prog ops Q rest (a.put o.dst v') w') :
    wpList Tryd.prog ops Q (o :: rest) a (w.alloc (.cells #[y] e)) := by
  subst hN
  obtain ⟨i0, hi, hz0, hz1, hz2⟩ := info_parts E.info
  refine wpList_append_own _ hgd s x t ho B e i0 z 1 bytes E.under hi hz0 hz1 hz2 E.one (by decide) v xs.length xs hs (hown.alloc _) ⟨w.heap.size, 0, none⟩ 1 1 [y] hx rfl (one_new w _ _) ?_ ?_ ?_ ?_ ?_
  · intro u hu; simp at hu; subst hu; exact hone
  · unfold maxLen; omega
  · exact Nat.le_trans (Nat.mul_le_mul (Nat.add_le_add_right hlen 1) E.small) (by decide)
  · simp; omega
  · intro v' w' h1 h2 _
    have hg : w.grownBy w' v.ownBlock := ⟨h2.os, h2.tape, h2.output, Nat.le_trans (by simp) h2.size, fun k hk hne => (h2.block k (by simp; omega) hne).trans (Below.heap_alloc _ _ _ hk)⟩
    exact h v' w' (by simpa using h1) hg

theorem below_own {w w' : World} {B e n : Nat} {v : Value} {xs : List Value} (hown : w.ownsRow B e 1 v n xs) (hg : w.grownBy w' v.ownBlock) (hB : B ≤ w.heap.size) : Below B w w' :=
  (Below.refl B w).grown hg hB (fun k hk => (hown.lt k hk).1)

theorem below_drewN {B : Nat} {a w : World} (h : Below B a w) (n : Nat) : Below B a (w.drewN n) := ⟨h.os, h.tape, h.output, h.size, h.block⟩

theorem own_base {w : World} {B B' e n : Nat} {v : Value} {xs : List Value} (h : w.ownsRow B e 1 v n xs) (hB : B' ≤ B) : w.ownsRow B' e 1 v n xs := by
  refine ⟨h.1, ?_⟩
  rcases h.2 with h0 | ⟨g, cap, cur, hv, hg, r⟩
  · exact .inl h0
  · exact .inr ⟨g, cap, cur, hv, by omega, r⟩

theorem own_below {w w' : World} {B e n : Nat} {v : Value} {xs : List Value} (h : w.ownsRow B e 1 v n xs) (hb : Below w.heap.size w w') : w'.ownsRow B e 1 v n xs := by
  refine ⟨h.1, ?_⟩
  rcases h.2 with h0 | ⟨g, cap, cur, hv, hg, hh, r⟩
  · exact .inl h0
  · exact .inr ⟨g, cap, cur, hv, hg, (hb.block g (lt_of_block hh)).trans hh, r⟩

/-- Numbers as cells. -/
def I (l : List Int) : List Value := l.map fun x => .int .i64 x
theorem I_len (l : List Int) : (I l).length = l.length := by simp [I]
theorem I_append (a b : List Int) : I (a ++ b) = I a ++ I b := by simp [I]
theorem I_one (l : List Int) : ∀ u ∈ I l, u.oneCell' = true := by
  intro u hu
  simp only [I, List.mem_map] at hu
  obtain ⟨x, _, rfl⟩ := hu
  rfl
theorem I_take (l : List Int) (k : Nat) : (I l).take k = I (l.take k) := by simp [I, List.map_take]
theorem I_drop (l : List Int) (k : Nat) : (I l).drop k = I (l.drop k) := by simp [I, List.map_drop]

theorem RowV.ints {w : World} {v : Value} {l : List Int} (h : RowV w v (I l)) :
    ∃ a c, v = .slice a l.length c ∧ l.length ≤ c ∧ c ≤ maxLen ∧ ∀ k (hk : k < l.length), ∃ g o, a = some ⟨g, o, none⟩ ∧ g < w.heap.size ∧ w.cell? ⟨g, o + k, none⟩ = some (.int .i64 l[k]) := by
  obtain ⟨a, c, hv, h1, h2, hat⟩ := h
  refine ⟨a, c, by rw [hv, I_len], by rw [I_len] at h1; exact h1, h2, fun k hk => ?_⟩
  obtain ⟨g, o, ha, hg, hc⟩ := hat k (by rw [I_len]; exact hk)
  exact ⟨g, o, ha, hg, by rw [hc]; simp [I]⟩

/-- Texts as cells. -/
def S (l : List (List UInt8)) : List Value := l.map fun x => .string ⟨x.toArray⟩
theorem S_len (l : List (List UInt8)) : (S l).length = l.length := by simp [S]
theorem S_append (a b : List (List UInt8)) : S (a ++ b) = S a ++ S b := by simp [S]
theorem S_one (l : List (List UInt8)) : ∀ u ∈ S l, u.oneCell' = true := by
  intro u hu
  simp only [S, List.mem_map] at hu
  obtain ⟨x, _, rfl⟩ := hu
  rfl

theorem RowV.texts {w : World} {v : Value} {l : List (List UInt8)} (h : RowV w v (S l)) :
    ∃ a c, v = .slice a l.length c ∧ l.length ≤ c ∧ c ≤ maxLen ∧ ∀ k (hk : k < l.length), ∃ g o, a = some ⟨g, o, none⟩ ∧ g < w.heap.size ∧ w.cell? ⟨g, o + k, none⟩ = some (.string ⟨(l[k]).toArray⟩) := by
  obtain ⟨a, c, hv, h1, h2, hat⟩ := h
  refine ⟨a, c, by rw [hv, S_len], by rw [S_len] at h1; exact h1, h2, fun k hk => ?_⟩
  obtain ⟨g, o, ha, hg, hc⟩ := hat k (by rw [S_len]; exact hk)
  exact ⟨g, o, ha, hg, by rw [hc]; simp [S]⟩

theorem text_snoc {w : World} {B e : Nat} {v : Value} {l : List (List UInt8)} {x : List UInt8} (h : w.ownsRow B e 1 v (S l ++ [Value.string ⟨x.toArray⟩]).length (S l ++ [Value.string ⟨x.toArray⟩])) : w.ownsRow B e 1 v (l ++ [x]).length (S (l ++ [x])) := by
  rw [S_append, ← S_len (l ++ [x]), S_append]; exact h

theorem elemS : Elem 29 9 (.string ByteArray.empty) 16 := ⟨Tryd.underlying29, by kernel_rfl, rfl, by decide⟩

theorem extract_mid (s : ByteArray) (f k : Nat) : s.extract f k = ⟨(mid s.data.toList f k).toArray⟩ := by
  apply ByteArray.ext
  apply Array.ext'
  simp [mid, ByteArray.data_extract, List.extract_eq_take_drop, List.drop_take]
theorem run_one_byte (c : UInt8) (w : World) : (convert 88 9 (.slice (some ⟨w.heap.size, 0, none⟩) 1 1)).run Tryd.prog (w.alloc (.cells #[.int .u8 (c.toNat : Int)] 5)) = .ok (.string ⟨#[c]⟩) (w.alloc (.cells #[.int .u8 (c.toNat : Int)] 5)) :=
  run_convert_bytes_back _ 88 9 5 ⟨w.heap.size, 0, none⟩ 1 [c] Tryd.underlying88 Tryd.underlying5 Tryd.underlying9 (fun j hj => by
    have hj0 : j = 0 := by simp at hj; omega
    subst hj0
    exact one_new w _ _ 0 _ rfl)

end Go.Proofs.YtoahfhidekmodaaDoor
