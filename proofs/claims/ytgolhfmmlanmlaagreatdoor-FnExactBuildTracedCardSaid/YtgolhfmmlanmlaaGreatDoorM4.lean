/- Texts of one claim, joined in their order. -/
import Derived.Test.YtgolhfmmlanmlaaGreatDoorCards
import Derived.Test.YtgolhfmmlanmlaaGreatDoorTie
import Derived.Test.YtgolhfmmlanmlaaGreatDoorM2
import Derived.Test.YtgolhfmmlanmlaaGreatDoorM3

/- What the rows of chapter 7 share: how texts, ops, bools, results and plans that came in read. -/
namespace Go.Proofs.YtgolhfmmlanmlaaGreatDoor
open Go.ChangeShapes Go.WideShapes Go.ChangeAt Go.RowKit Pth

/-- A slice of texts that came in. -/
theorem texts_cells {H : Type} {enc : TypeId × Value → H} {W : World} {fuel : Nat} {v : Value} {x : DataW H × List MemPlace}
    (h : DataW.trod enc Tryz.prog W 0 (fun _ => true) true fuel 31 [v] = some x) : ∃ l : List (List UInt8), RowV W v (S l) ∧ ∀ x ∈ l, x.length ≤ maxLen := by
  rcases open_strings Tryz.underlying31 Tryz.underlying9 (by kernel_rfl) h with ⟨hcs, _⟩ | ⟨x, len, cap, ss, hcs, _, hl, hm, hz, hx, hcell, hws⟩
  · simp at hcs
    subst hcs
    exact ⟨[], ⟨none, 0, rfl, Nat.le_refl _, by unfold maxLen; omega, fun k hk => absurd hk (by simp [S])⟩, fun x hx => by simp at hx⟩
  · simp at hcs
    subst hcs
    simp only [if_true] at hz
    have hlen : ((ss.take len).map (·.data.toList)).length = len := by rw [List.length_map, List.length_take]; omega
    refine ⟨(ss.take len).map (·.data.toList), ⟨some x, cap, by rw [S_len, hlen], by rw [S_len, hlen]; omega, by omega, fun k hk => ?_⟩, fun y hy => ?_⟩
    · rw [S_len, hlen] at hk
      have hc := hcell k (by omega)
      have h0 := hcell 0 (by omega)
      obtain ⟨b, off, spot⟩ := x
      have hspot : spot = none := by simpa [Addr.add] using World.cell?_spot h0
      subst hspot
      rw [add_addr] at hc
      refine ⟨b, off, rfl, World.block_lt_of_cell? _ _ hc, ?_⟩
      rw [hc]
      simp only [S, List.getElem_map, List.getElem_take]
      rw [List.getD_eq_getElem?_getD, List.getElem?_eq_getElem (by omega)]
      rfl
    · simp only [List.mem_map] at hy
      obtain ⟨z, hz1, rfl⟩ := hy
      have := hws z (List.mem_of_mem_take hz1)
      show z.data.toList.length ≤ maxLen
      rw [Array.length_toList]
      exact this

/-- A slice of results that came in. -/
theorem res_cells {H : Type} {enc : TypeId × Value → H} {W : World} {fuel : Nat} {v : Value} {x : DataW H × List MemPlace}
    (h : DataW.trod enc Tryz.prog W 0 (fun _ => true) true fuel 54 [v] = some x) : ∃ l : List ResT, RowR W v l ∧ ∀ f ∈ l, f.1.length ≤ maxLen := by
  rcases Deep.open_slice_pairs Tryz.underlying54 Tryz.underlying69 (by kernel_rfl) rfl rfl (by kernel_rfl) (by kernel_rfl) h with ⟨hcs, _⟩ | ⟨a, len, cap, m, n, V0, V1, D0, D1, P0, P1, hcs, _, hl, hm, hmm, _, hc⟩
  · simp at hcs
    subst hcs
    exact ⟨[], ⟨none, 0, rfl, rfl, Nat.le_refl _, by unfold maxLen; omega, fun k hk => absurd hk (by simp [RC])⟩, fun f hf => by simp at hf⟩
  · simp at hcs
    subst hcs
    simp only [if_true] at hmm
    have each : ∀ i, i < m → ∃ q : ResT, W.cell? (a.add (i * 2)) = some (.string ⟨q.1.toArray⟩) ∧ W.cell? (a.add (i * 2 + 1)) = some (.int .i64 q.2) ∧ q.1.length ≤ maxLen := by
      intro i hi
      obtain ⟨c0, c1, t0, t1⟩ := hc i hi
      obtain ⟨s0, e0, _, z0⟩ := DataW.trod_string Tryz.underlying9 t0
      obtain ⟨n1, e1, _, _⟩ := DataW.trod_int Tryz.underlying3 t1
      simp at e0 e1
      rw [e0] at c0
      rw [e1] at c1
      exact ⟨(s0.data.toList, n1), by simpa using c0, by simpa using c1, by show s0.data.toList.length ≤ _; rw [Array.length_toList]; exact z0⟩
    obtain ⟨q, hq⟩ := Deep.choose_lt each
    have hlen : ((List.range len).map q).length = len := by simp
    refine ⟨(List.range len).map q, ⟨some a, cap, by rw [hlen], by rw [RC_len], by rw [hlen]; exact hl, hm, fun k hk => ?_⟩, fun f hf => ?_⟩
    · rw [RC_len, hlen] at hk
      obtain ⟨b, off, spot⟩ := a
      have h0 := (hq 0 (by omega)).1
      have hspot : spot = none := by simpa [Addr.add] using World.cell?_spot h0
      subst hspot
      have hi : k / 2 < len := by omega
      have hqi := hq (k / 2) (by omega)
      have hget : ((List.range len).map q)[k / 2]'(by rw [hlen]; exact hi) = q (k / 2) := by simp
      rw [add_addr, add_addr] at hqi
      refine ⟨b, off, rfl, World.block_lt_of_cell? _ _ hqi.1, ?_⟩
      have hat := RC_at (l := (List.range len).map q) (k := k / 2) (by rw [hlen]; exact hi)
      rw [hget] at hat
      have hkl : k < (RC ((List.range len).map q)).length := by rw [RC_len, hlen]; exact hk
      have hgk : (RC ((List.range len).map q))[k]? = some (RC ((List.range len).map q))[k] := List.getElem?_eq_getElem hkl
      rw [← hgk]
      rcases Nat.mod_two_eq_zero_or_one k with e | e
      · have ek : k = k / 2 * 2 := by omega
        have h1 := hat.1
        rw [← ek] at h1
        rw [h1, ← hqi.1]
        congr 2
        omega
      · have ek : k = k / 2 * 2 + 1 := by omega
        have h1 := hat.2
        rw [← ek] at h1
        rw [h1, ← hqi.2.1]
        congr 2
        omega
    · obtain ⟨i, hi, rfl⟩ := List.mem_map.1 hf
      have := hq i (by have := List.mem_range.1 hi; omega)
      exact this.2.2
/-- A struct of three fields, a cell each. -/
theorem three_cells {H : Type} {enc : TypeId × Value → H} {P : Program} {w : World} {base : Nat} {spare : Nat → Bool} {held : Bool} {t : TypeId} {f0 f1 f2 : Field} {n : Nat} {cs : List Value} {x : DataW H × List MemPlace}
    (he : P.underlying t = some (.struct #[f0, f1, f2])) (o0 : f0.offset = 0) (o1 : f1.offset = 1) (o2 : f2.offset = 2) (c0 : P.cellsOf f0.type = 1) (c1 : P.cellsOf f1.type = 1) (c2 : P.cellsOf f2.type = 1)
    (h : DataW.trod enc P w base spare held n t cs = some x) (hl : cs.length = 3) :
    ∃ (v0 v1 v2 : Value) (y0 y1 y2 : DataW H × List MemPlace) (k : Nat), cs = [v0, v1, v2] ∧ DataW.trod enc P w base spare held k f0.type [v0] = some y0 ∧ DataW.trod enc P w base spare held k f1.type [v1] = some y1 ∧ DataW.trod enc P w base spare held k f2.type [v2] = some y2 := by
  obtain ⟨xs, k, hk, hxy, _, hxl, hf⟩ := DataW.trod_struct he h
  match xs, hxl, cs, hl with
  | [y0, y1, y2], _, [v0, v1, v2], _ =>
    have g0 := hf 0 f0 rfl
    have g1 := hf 1 f1 rfl
    have g2 := hf 2 f2 rfl
    simp [o0, o1, o2, c0, c1, c2] at g0 g1 g2
    exact ⟨v0, v1, v2, y0, y1, y2, k, rfl, g0, g1, g2⟩

/-- A list of ops that came in. -/
theorem ops_cells {H : Type} {enc : TypeId × Value → H} {W : World} {fuel : Nat} {v : Value} {x : DataW H × List MemPlace}
    (hf : DataW.trod enc Tryz.prog W 0 (fun _ => true) true fuel 109 [v] = some x) : ∃ l : List OpT, RowO W v l ∧ ∀ f ∈ l, f.2.2.length ≤ maxLen := by
  rcases Deep.open_slice Tryz.underlying109 hf with ⟨hcs, _⟩ | ⟨a, len, cap, m, n, D, Pl, hcs, hb, hl, hm, hmm, _, hx⟩
  · simp at hcs
    subst hcs
    exact ⟨[], ⟨none, 0, rfl, rfl, Nat.le_refl _, by unfold maxLen; omega, fun k hk => absurd hk (by simp [OC])⟩, fun f hf => by simp at hf⟩
  · simp at hcs
    subst hcs
    simp only [if_true] at hmm
    have each : ∀ i, i < m → ∃ q : OpT, W.cell? ((a.add (i * 3)).add 0) = some (.int .i64 q.1) ∧ W.cell? ((a.add (i * 3)).add 1) = some (.int .i64 q.2.1) ∧ W.cell? ((a.add (i * 3)).add 2) = some (.string ⟨q.2.2.toArray⟩) ∧ q.2.2.length ≤ maxLen := by
      intro i hi
      obtain ⟨cs', h1, h2⟩ := hx i hi
      rw [show Tryz.prog.cellsOf 136 = 3 by kernel_rfl] at h1
      obtain ⟨_, hlen, hcell⟩ := World.cells?_some h1
      obtain ⟨v0, v1, v2, y0, y1, y2, k, rfl, g0, g1, g2⟩ := three_cells Tryz.underlying136 rfl rfl rfl (by kernel_rfl) (by kernel_rfl) (by kernel_rfl) h2 hlen
      obtain ⟨n0, e0, _, _⟩ := DataW.trod_int Tryz.underlying3 g0
      obtain ⟨n1, e1, _, _⟩ := DataW.trod_int Tryz.underlying3 g1
      obtain ⟨s2, e2, _, z2⟩ := DataW.trod_string Tryz.underlying9 g2
      simp at e0 e1 e2
      subst e0 e1 e2
      have q0 := hcell 0 (by omega)
      have q1 := hcell 1 (by omega)
      have q2 := hcell 2 (by omega)
      exact ⟨(n0, n1, s2.data.toList), by simpa using q0, by simpa using q1, by simpa using q2, by show s2.data.toList.length ≤ _; rw [Array.length_toList]; exact z2⟩
    obtain ⟨q, hq⟩ := Deep.choose_lt each
    have hlen : ((List.range len).map q).length = len := by simp
    refine ⟨(List.range len).map q, ⟨some a, cap, by rw [hlen], by rw [OC_len], by rw [hlen]; exact hl, hm, fun k hk => ?_⟩, fun f hf => ?_⟩
    · rw [OC_len, hlen] at hk
      obtain ⟨b, off, spot⟩ := a
      have h0 := (hq 0 (by omega)).1
      have hspot : spot = none := by simpa [Addr.add] using World.cell?_spot h0
      subst hspot
      have hi : k / 3 < len := by omega
      have hqi := hq (k / 3) (by omega)
      have hget : ((List.range len).map q)[k / 3]'(by rw [hlen]; exact hi) = q (k / 3) := by simp
      rw [add_addr, add_addr, add_addr, add_addr] at hqi
      refine ⟨b, off, rfl, World.block_lt_of_cell? _ _ hqi.1, ?_⟩
      have hat := OC_at (l := (List.range len).map q) (k := k / 3) (by rw [hlen]; exact hi)
      rw [hget] at hat
      have hm3 : k % 3 = 0 ∨ k % 3 = 1 ∨ k % 3 = 2 := by omega
      have hkl : k < (OC ((List.range len).map q)).length := by rw [OC_len, hlen]; exact hk
      have hgk : (OC ((List.range len).map q))[k]? = some (OC ((List.range len).map q))[k] := List.getElem?_eq_getElem hkl
      rw [← hgk]
      rcases hm3 with e | e | e
      · have ek : k = k / 3 * 3 := by omega
        have h1 := hat.1
        rw [← ek] at h1
        rw [h1, ← hqi.1]
        congr 2
        omega
      · have ek : k = k / 3 * 3 + 1 := by omega
        have h1 := hat.2.1
        rw [← ek] at h1
        rw [h1, ← hqi.2.1]
        congr 2
        omega
      · have ek : k = k / 3 * 3 + 2 := by omega
        have h1 := hat.2.2
        rw [← ek] at h1
        rw [h1, ← hqi.2.2.1]
        congr 2
        omega
    · simp only [List.mem_map, List.mem_range] at hf
      obtain ⟨i, hi, rfl⟩ := hf
      exact (hq i (by omega)).2.2.2

/-- A slice of lists of ops that came in. -/
theorem opss_cells {H : Type} {enc : TypeId × Value → H} {W : World} {fuel : Nat} {v : Value} {x : DataW H × List MemPlace}
    (h : DataW.trod enc Tryz.prog W 0 (fun _ => true) true fuel 27 [v] = some x) : ∃ ls : List (List OpT), RowOO W v ls ∧ ∀ l ∈ ls, ∀ f ∈ l, f.2.2.length ≤ maxLen := by
  rcases Deep.open_slice Tryz.underlying27 h with ⟨hcs, _⟩ | ⟨a, len, cap, m, n, D, Pl, hcs, hb, hl, hm, hmm, _, hx⟩
  · simp at hcs
    subst hcs
    exact ⟨[], ⟨[], rfl, ⟨none, 0, rfl, Nat.le_refl _, by unfold maxLen; omega, fun k hk => absurd hk (by simp)⟩, fun k h1 h2 => absurd h2 (by simp)⟩, by simp⟩
  · simp at hcs
    subst hcs
    simp only [if_true] at hmm
    have each : ∀ i, i < m → ∃ q : Value × List OpT, W.cell? ((a.add (i * 1)).add 0) = some q.1 ∧ RowO W q.1 q.2 ∧ ∀ f ∈ q.2, f.2.2.length ≤ maxLen := by
      intro i hi
      obtain ⟨cs', h1, h2⟩ := hx i hi
      rw [show Tryz.prog.cellsOf 109 = 1 by kernel_rfl] at h1
      obtain ⟨_, hlen, hcell⟩ := World.cells?_some h1
      match cs', hlen with
      | [u], _ =>
        obtain ⟨l, hl, hx3⟩ := ops_cells h2
        have q0 := hcell 0 (by omega)
        exact ⟨(u, l), by simpa using q0, hl, hx3⟩
    obtain ⟨q, hq⟩ := Deep.choose_lt each
    have hlen : ((List.range len).map fun i => (q i).2).length = len := by simp
    have hlen1 : ((List.range len).map fun i => (q i).1).length = len := by simp
    refine ⟨(List.range len).map fun i => (q i).2, ⟨(List.range len).map fun i => (q i).1, by rw [hlen, hlen1], ⟨some a, cap, by rw [hlen1], by rw [hlen1]; exact hl, hm, fun k hk => ?_⟩, fun k h1 h2 => ?_⟩, fun l hl3 f hf3 => ?_⟩
    · rw [hlen1] at hk
      obtain ⟨b, off, spot⟩ := a
      have h0 := (hq 0 (by omega)).1
      have hspot : spot = none := by simpa [Addr.add] using World.cell?_spot h0
      subst hspot
      have hk1 := (hq k (by omega)).1
      rw [add_addr, add_addr, Nat.mul_one, Nat.add_zero] at hk1
      refine ⟨b, off, rfl, World.block_lt_of_cell? _ _ hk1, ?_⟩
      rw [hk1]
      simp
    · have := (hq k (by rw [hlen1] at h1; omega)).2.1
      simpa using this
    · obtain ⟨i, hi, rfl⟩ := List.mem_map.1 hl3
      exact (hq i (by have := List.mem_range.1 hi; omega)).2.2 f hf3
/-- A slice of bools that came in. -/
theorem bools_cells {H : Type} {enc : TypeId × Value → H} {W : World} {fuel : Nat} {v : Value} {x : DataW H × List MemPlace}
    (h : DataW.trod enc Tryz.prog W 0 (fun _ => true) true fuel 26 [v] = some x) : ∃ l : List Bool, RowV W v (BL l) := by
  rcases Deep.open_slice Tryz.underlying26 h with ⟨hcs, _⟩ | ⟨a, len, cap, m, n, D, Pl, hcs, hb, hl, hm, hmm, _, hx⟩
  · simp at hcs
    subst hcs
    exact ⟨[], none, 0, rfl, Nat.le_refl _, by unfold maxLen; omega, fun k hk => absurd hk (by simp [BL])⟩
  · simp at hcs
    subst hcs
    simp only [if_true] at hmm
    have each : ∀ i, i < m → ∃ q : Bool, W.cell? ((a.add (i * 1)).add 0) = some (.bool q) := by
      intro i hi
      obtain ⟨cs', h1, h2⟩ := hx i hi
      rw [show Tryz.prog.cellsOf 4 = 1 by kernel_rfl] at h1
      obtain ⟨_, hlen, hcell⟩ := World.cells?_some h1
      obtain ⟨b, e0, _⟩ := DataW.trod_bool Tryz.underlying4 h2
      subst e0
      have q0 := hcell 0 (by omega)
      exact ⟨b, by simpa using q0⟩
    obtain ⟨q, hq⟩ := Deep.choose_lt each
    have hlen : ((List.range len).map q).length = len := by simp
    refine ⟨(List.range len).map q, some a, cap, by rw [BL_len, hlen], by rw [BL_len, hlen]; exact hl, hm, fun k hk => ?_⟩
    rw [BL_len, hlen] at hk
    obtain ⟨b, off, spot⟩ := a
    have h0 := hq 0 (by omega)
    have hspot : spot = none := by simpa [Addr.add] using World.cell?_spot h0
    subst hspot
    have hk1 := hq k (by omega)
    rw [add_addr, add_addr, Nat.mul_one, Nat.add_zero] at hk1
    refine ⟨b, off, rfl, World.block_lt_of_cell? _ _ hk1, ?_⟩
    rw [hk1, BL_get (by rw [hlen]; exact hk)]
    simp
theorem texts_inU {H : Type} {enc : TypeId × Value → H} {W : World} {a : Option Addr} {len cap : Nat} {d : DataW H} {p : List MemPlace}
    (h : DataW.Trod enc Tryz.prog W 0 (fun _ => true) true 31 (.slice a len cap) d p) : ∃ l : List (List UInt8), RowV W (.slice a len cap) (S l) ∧ ∀ x ∈ l, x.length ≤ maxLen := by
  obtain ⟨fuel, hf⟩ := h
  exact texts_cells (by simpa [Value.cells] using hf)
theorem res_in {H : Type} {enc : TypeId × Value → H} {W : World} {a : Option Addr} {len cap : Nat} {d : DataW H} {p : List MemPlace}
    (h : DataW.Trod enc Tryz.prog W 0 (fun _ => true) true 54 (.slice a len cap) d p) : ∃ l : List ResT, RowR W (.slice a len cap) l ∧ ∀ f ∈ l, f.1.length ≤ maxLen := by
  obtain ⟨fuel, hf⟩ := h
  exact res_cells (by simpa [Value.cells] using hf)
/-- A struct of three fields, the first of two cells, the others of one. -/
theorem four_cells {H : Type} {enc : TypeId × Value → H} {P : Program} {w : World} {base : Nat} {spare : Nat → Bool} {held : Bool} {t : TypeId} {f0 f1 f2 : Field} {n : Nat} {c0 c1 c2 c3 : Value} {x : DataW H × List MemPlace}
    (he : P.underlying t = some (.struct #[f0, f1, f2])) (o0 : f0.offset = 0) (o1 : f1.offset = 2) (o2 : f2.offset = 3) (k0 : P.cellsOf f0.type = 2) (k1 : P.cellsOf f1.type = 1) (k2 : P.cellsOf f2.type = 1)
    (h : DataW.trod enc P w base spare held n t [c0, c1, c2, c3] = some x) :
    ∃ (y0 y1 y2 : DataW H × List MemPlace) (k : Nat), DataW.trod enc P w base spare held k f0.type [c0, c1] = some y0 ∧ DataW.trod enc P w base spare held k f1.type [c2] = some y1 ∧ DataW.trod enc P w base spare held k f2.type [c3] = some y2 := by
  obtain ⟨xs, k, hk, hxy, _, hxl, hf⟩ := DataW.trod_struct he h
  match xs, hxl with
  | [y0, y1, y2], _ =>
    have g0 := hf 0 f0 rfl
    have g1 := hf 1 f1 rfl
    have g2 := hf 2 f2 rfl
    simp [o0, o1, o2, k0, k1, k2] at g0 g1 g2
    exact ⟨y0, y1, y2, k, g0, g1, g2⟩
/-- A struct of two fields, a cell each. -/
theorem two_cells {H : Type} {enc : TypeId × Value → H} {P : Program} {w : World} {base : Nat} {spare : Nat → Bool} {held : Bool} {t : TypeId} {f0 f1 : Field} {n : Nat} {c0 c1 : Value} {x : DataW H × List MemPlace}
    (he : P.underlying t = some (.struct #[f0, f1])) (o0 : f0.offset = 0) (o1 : f1.offset = 1) (k0 : P.cellsOf f0.type = 1) (k1 : P.cellsOf f1.type = 1)
    (h : DataW.trod enc P w base spare held n t [c0, c1] = some x) :
    ∃ (y0 y1 : DataW H × List MemPlace) (k : Nat), DataW.trod enc P w base spare held k f0.type [c0] = some y0 ∧ DataW.trod enc P w base spare held k f1.type [c1] = some y1 := by
  obtain ⟨xs, k, hk, hxy, _, hxl, hf⟩ := DataW.trod_struct he h
  match xs, hxl with
  | [y0, y1], _ =>
    have g0 := hf 0 f0 rfl
    have g1 := hf 1 f1 rfl
    simp [o0, o1, k0, k1] at g0 g1
    exact ⟨y0, y1, k, g0, g1⟩
set_option maxRecDepth 100000 in
/-- A plan that came in. -/
theorem plan_in {H : Type} {enc : TypeId × Value → H} {W : World} {base : Nat} {v : Value} {d : DataW H} {p : List MemPlace} (hv : Value.okWide Tryz.prog W .any base 29 v)
    (h : DataW.Trod enc Tryz.prog W 0 (fun _ => true) true 29 v d p) : ∃ ls l bs rs, PlanV W v ls l bs rs ∧ ∀ l ∈ rs, ∀ f ∈ l, f.2.2.length ≤ maxLen := by
  obtain ⟨cs, rfl, hsz⟩ := okWide_struct Tryz.underlying29 hv
  obtain ⟨c0, c1, c2, c3, rfl⟩ := Joins.array4 (hsz.trans (by kernel_rfl))
  obtain ⟨fuel, hf⟩ := h
  obtain ⟨y0, y1, y2, k, h0, h1, h2⟩ := four_cells Tryz.underlying29 rfl rfl rfl (by kernel_rfl) (by kernel_rfl) (by kernel_rfl) (by simpa [Value.cells] using hf)
  obtain ⟨z0, z1, k', g0, g1⟩ := two_cells Tryz.underlying25 rfl rfl (by kernel_rfl) (by kernel_rfl) h0
  obtain ⟨ls, r0⟩ := lists_cells g0
  obtain ⟨l, r1⟩ := ints_cells g1
  obtain ⟨bs, r2⟩ := bools_cells h1
  obtain ⟨rs, r3, x3⟩ := opss_cells h2
  exact ⟨ls, l, bs, rs, ⟨c0, c1, c2, c3, rfl, r0, r1, r2, r3⟩, x3⟩
end Go.Proofs.YtgolhfmmlanmlaaGreatDoor

/- What the rows of chapters 7 and 8 with listed tables share: a world in which the listed tables lie, for the witness. -/
namespace Go.Proofs.YtgolhfmmlanmlaaGreatDoor
open Go.ChangeShapes Go.WideShapes Go.ChangeAt Go.RowKit Pth

/-- The cells of a table as the row lists it. -/
def litCell {H : Type} : DataW H → Value
  | .lit (.int k n) => .int k n
  | _ => .int .u8 0
def tabCells {H : Type} : DataW H → Array Value
  | .agg l => (l.map litCell).toArray
  | _ => #[]
def refill (cs : Array Value) : Obj → Obj
  | .cells _ t fr => .cells cs t fr
  | o => o
/-- The settled world with the three tables laid. -/
noncomputable def laidWorld (os : Os) : World :=
  { World.holding Tryz.prog os ⟨#[], #[], []⟩ with heap := (((World.holding Tryz.prog os ⟨#[], #[], []⟩).heap.modify 1 (refill (tabCells (H := Unit) Rows.laid_math_bits_deBruijn32tab))).modify 2 (refill (tabCells (H := Unit) Rows.laid_math_bits_deBruijn64tab))).modify 0 (refill (tabCells (H := Unit) Rows.laid_internal_strconv_uint64pow10)) }

end Go.Proofs.YtgolhfmmlanmlaaGreatDoor
