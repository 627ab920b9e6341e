/- Texts of one claim, joined in their order. -/
import Derived.ProofKit
import Derived.SliceStrings
import Derived.SizedLaws
import Derived.OpenShut
import Derived.Deep.SlicePairs
import Derived.Lib.SmallJoins
import Derived.Deep.DeepHandedRow
import Derived.Deep.DeepLaidRun
import Derived.Test.YtngldlconipnnaaGreatM3
import Derived.Test.YtngldlconipnnaaGreatM5
import Derived.Test.YtngldlconipnnaaGreatM4
import Derived.Test.YtngldlconipnnaaGreatM8
import Derived.Test.YtngldlconipnnaaGreatM1
import Derived.Test.YtngldlconipnnaaGreatM9

/- What the rows of chapter 5 share: how graphs that came in read. -/
namespace Go.Proofs.YtngldlconipnnaaGreat
open Go.ChangeShapes Go.WideShapes Go.ChangeAt Go.RowKit Pth

theorem own : ownKnob Tryz.prog.godebug = none := by kernel_rfl
theorem laidOut : laidOutB Tryz.prog = true := by kernel_rfl
theorem met_none (w : World) : laidMet Tryz.prog [] w := ⟨[], rfl, List.nodup_nil, fun _ _ h => by cases h⟩

/-- A slice of numbers that came in. -/
theorem ints_cells {H : Type} {enc : TypeId × Value → H} {W : World} {fuel : Nat} {v : Value} {x : DataW H × List MemPlace}
    (h : DataW.trod enc Tryz.prog W 0 (fun _ => true) true fuel 23 [v] = some x) : ∃ l : List Int, RowV W v (I l) := by
  rcases open_ints Tryz.underlying23 Tryz.underlying3 (by kernel_rfl) h with ⟨hcs, _⟩ | ⟨x, len, cap, zs, hcs, _, hl, hm, hz, hx, hcell, hwz⟩
  · simp at hcs
    subst hcs
    exact ⟨[], none, 0, rfl, Nat.le_refl _, by unfold maxLen; omega, fun k hk => absurd hk (by simp [I])⟩
  · simp at hcs
    subst hcs
    simp only [if_true] at hz
    have hlen : (zs.take len).length = len := by rw [List.length_take]; omega
    refine ⟨zs.take len, some x, cap, by rw [I_len, hlen], by rw [I_len, hlen]; omega, by omega, fun k hk => ?_⟩
    rw [I_len, hlen] at hk
    have hc := hcell k (by omega)
    have h0 := hcell 0 (by omega)
    obtain ⟨b, off, spot⟩ := x
    have hspot : spot = none := by simpa [Addr.add] using World.cell?_spot h0
    subst hspot
    rw [add_addr] at hc
    refine ⟨b, off, rfl, World.block_lt_of_cell? _ _ hc, ?_⟩
    rw [hc]
    simp only [I, List.getElem_map, List.getElem_take]
    rw [List.getD_eq_getElem?_getD, List.getElem?_eq_getElem (by omega)]
    rfl
/-- A slice of slices of numbers that came in. -/
theorem lists_cells {H : Type} {enc : TypeId × Value → H} {W : World} {fuel : Nat} {v : Value} {x : DataW H × List MemPlace}
    (h : DataW.trod enc Tryz.prog W 0 (fun _ => true) true fuel 22 [v] = some x) : ∃ ls : List (List Int), RowN W v ls := by
  rcases Deep.open_slice Tryz.underlying22 h with ⟨hcs, _⟩ | ⟨a, len, cap, m, n, D, Pl, hcs, hb, hl, hm, hmm, _, hx⟩
  · simp at hcs
    subst hcs
    exact ⟨[], [], rfl, ⟨none, 0, rfl, Nat.le_refl _, by unfold maxLen; omega, fun k hk => absurd hk (by simp)⟩, fun k h1 h2 => absurd h2 (by simp)⟩
  · simp at hcs
    subst hcs
    simp only [if_true] at hmm
    have each : ∀ i, i < m → ∃ q : Value × List Int, W.cell? ((a.add (i * 1)).add 0) = some q.1 ∧ RowV W q.1 (I q.2) := by
      intro i hi
      obtain ⟨cs', h1, h2⟩ := hx i hi
      rw [show Tryz.prog.cellsOf 23 = 1 by kernel_rfl] at h1
      obtain ⟨_, hlen, hcell⟩ := World.cells?_some h1
      match cs', hlen with
      | [u], _ =>
        obtain ⟨l, hl⟩ := ints_cells h2
        have q0 := hcell 0 (by omega)
        exact ⟨(u, l), by simpa using q0, hl⟩
    obtain ⟨q, hq⟩ := Deep.choose_lt each
    have hlen : ((List.range len).map fun i => (q i).2).length = len := by simp
    have hlen1 : ((List.range len).map fun i => (q i).1).length = len := by simp
    refine ⟨(List.range len).map fun i => (q i).2, (List.range len).map fun i => (q i).1, by rw [hlen, hlen1], ⟨some a, cap, by rw [hlen1], by rw [hlen1]; exact hl, hm, fun k hk => ?_⟩, fun k h1 h2 => ?_⟩
    · rw [hlen1] at hk
      obtain ⟨b, off, spot⟩ := a
      have h0 := (hq 0 (by omega)).1
      have hspot : spot = none := by simpa [Addr.add] using World.cell?_spot h0
      subst hspot
      have hk1 := (hq k (by omega)).1
      rw [add_addr, add_addr, Nat.mul_one, Nat.add_zero] at hk1
      refine ⟨b, off, rfl, World.block_lt_of_cell? _ _ hk1, ?_⟩
      rw [hk1]
      simp
    · have := (hq k (by rw [hlen1] at h1; omega)).2
      simpa using this
set_option maxRecDepth 100000 in
/-- A graph that came in. -/
theorem graph_in {H : Type} {enc : TypeId × Value → H} {W : World} {base : Nat} {v : Value} {d : DataW H} {p : List MemPlace} (hv : Value.okWide Tryz.prog W .any base 25 v)
    (h : DataW.Trod enc Tryz.prog W 0 (fun _ => true) true 25 v d p) : ∃ ls l, GraphV W v ls l := by
  obtain ⟨v0, v1, y0, y1, n, rfl, _, _, h0, h1⟩ := Joins.open_agg2 Tryz.underlying25 (by kernel_rfl) (by kernel_rfl) hv h
  obtain ⟨ls, r0⟩ := lists_cells h0
  obtain ⟨l, r1⟩ := ints_cells h1
  exact ⟨ls, l, v0, v1, rfl, r0, r1⟩
end Go.Proofs.YtngldlconipnnaaGreat

/- What the rows of chapter 7 share: how texts, ops, bools, results and plans that came in read. -/
namespace Go.Proofs.YtngldlconipnnaaGreat
open Go.ChangeShapes Go.WideShapes Go.ChangeAt Go.RowKit Pth

/-- A slice of texts that came in. -/
theorem texts_cells {H : Type} {enc : TypeId × Value → H} {W : World} {fuel : Nat} {v : Value} {x : DataW H × List MemPlace}
    (h : DataW.trod enc Tryz.prog W 0 (fun _ => true) true fuel 31 [v] = some x) : ∃ l : List (List UInt8), RowV W v (S l) ∧ ∀ x ∈ l, x.length ≤ maxLen := by
  rcases open_strings Tryz.underlying31 Tryz.underlying9 (by kernel_rfl) h with ⟨hcs, _⟩ | ⟨x, len, cap, ss, hcs, _, hl, hm, hz, hx, hcell, hws⟩
  · simp at hcs
    subst hcs
    exact ⟨[], ⟨none, 0, rfl, Nat.le_refl _, by unfold maxLen; omega, fun k hk => absurd hk (by simp [S])⟩, fun x hx => by simp at hx⟩
  · simp at hcs
    subst hcs
    simp only [if_true] at hz
    have hlen : ((ss.take len).map (·.data.toList)).length = len := by rw [List.length_map, List.length_take]; omega
    refine ⟨(ss.take len).map (·.data.toList), ⟨some x, cap, by rw [S_len, hlen], by rw [S_len, hlen]; omega, by omega, fun k hk => ?_⟩, fun y hy => ?_⟩
    · rw [S_len, hlen] at hk
      have hc := hcell k (by omega)
      have h0 := hcell 0 (by omega)
      obtain ⟨b, off, spot⟩ := x
      have hspot : spot = none := by simpa [Addr.add] using World.cell?_spot h0
      subst hspot
      rw [add_addr] at hc
      refine ⟨b, off, rfl, World.block_lt_of_cell? _ _ hc, ?_⟩
      rw [hc]
      simp only [S, List.getElem_map, List.getElem_take]
      rw [List.getD_eq_getElem?_getD, List.getElem?_eq_getElem (by omega)]
      rfl
    · simp only [List.mem_map] at hy
      obtain ⟨z, hz1, rfl⟩ := hy
      have := hws z (List.mem_of_mem_take hz1)
      show z.data.toList.length ≤ maxLen
      rw [Array.length_toList]
      exact this

/-- A struct of three fields, a cell each. -/
theorem three_cells {H : Type} {enc : TypeId × Value → H} {P : Program} {w : World} {base : Nat} {spare : Nat → Bool} {held : Bool} {t : TypeId} {f0 f1 f2 : Field} {n : Nat} {cs : List Value} {x : DataW H × List MemPlace}
    (he : P.underlying t = some (.struct #[f0, f1, f2])) (o0 : f0.offset = 0) (o1 : f1.offset = 1) (o2 : f2.offset = 2) (c0 : P.cellsOf f0.type = 1) (c1 : P.cellsOf f1.type = 1) (c2 : P.cellsOf f2.type = 1)
    (h : DataW.trod enc P w base spare held n t cs = some x) (hl : cs.length = 3) :
    ∃ (v0 v1 v2 : Value) (y0 y1 y2 : DataW H × List MemPlace) (k : Nat), cs = [v0, v1, v2] ∧ DataW.trod enc P w base spare held k f0.type [v0] = some y0 ∧ DataW.trod enc P w base spare held k f1.type [v1] = some y1 ∧ DataW.trod enc P w base spare held k f2.type [v2] = some y2 := by
  obtain ⟨xs, k, hk, hxy, _, hxl, hf⟩ := DataW.trod_struct he h
  match xs, hxl, cs, hl with
  | [y0, y1, y2], _, [v0, v1, v2], _ =>
    have g0 := hf 0 f0 rfl
    have g1 := hf 1 f1 rfl
    have g2 := hf 2 f2 rfl
    simp [o0, o1, o2, c0, c1, c2] at g0 g1 g2
    exact ⟨v0, v1, v2, y0, y1, y2, k, rfl, g0, g1, g2⟩

/-- A list of ops that came in. -/
theorem ops_cells {H : Type} {enc : TypeId × Value → H} {W : World} {fuel : Nat} {v : Value} {x : DataW H × List MemPlace}
    (hf : DataW.trod enc Tryz.prog W 0 (fun _ => true) true fuel 85 [v] = some x) : ∃ l : List OpT, RowO W v l ∧ ∀ f ∈ l, f.2.2.length ≤ maxLen := by
  rcases Deep.open_slice Tryz.underlying85 hf with ⟨hcs, _⟩ | ⟨a, len, cap, m, n, D, Pl, hcs, hb, hl, hm, hmm, _, hx⟩
  · simp at hcs
    subst hcs
    exact ⟨[], ⟨none, 0, rfl, rfl, Nat.le_refl _, by unfold maxLen; omega, fun k hk => absurd hk (by simp [OC])⟩, fun f hf => by simp at hf⟩
  · simp at hcs
    subst hcs
    simp only [if_true] at hmm
    have each : ∀ i, i < m → ∃ q : OpT, W.cell? ((a.add (i * 3)).add 0) = some (.int .i64 q.1) ∧ W.cell? ((a.add (i * 3)).add 1) = some (.int .i64 q.2.1) ∧ W.cell? ((a.add (i * 3)).add 2) = some (.string ⟨q.2.2.toArray⟩) ∧ q.2.2.length ≤ maxLen := by
      intro i hi
      obtain ⟨cs', h1, h2⟩ := hx i hi
      rw [show Tryz.prog.cellsOf 104 = 3 by kernel_rfl] at h1
      obtain ⟨_, hlen, hcell⟩ := World.cells?_some h1
      obtain ⟨v0, v1, v2, y0, y1, y2, k, rfl, g0, g1, g2⟩ := three_cells Tryz.underlying104 rfl rfl rfl (by kernel_rfl) (by kernel_rfl) (by kernel_rfl) h2 hlen
      obtain ⟨n0, e0, _, _⟩ := DataW.trod_int Tryz.underlying3 g0
      obtain ⟨n1, e1, _, _⟩ := DataW.trod_int Tryz.underlying3 g1
      obtain ⟨s2, e2, _, z2⟩ := DataW.trod_string Tryz.underlying9 g2
      simp at e0 e1 e2
      subst e0 e1 e2
      have q0 := hcell 0 (by omega)
      have q1 := hcell 1 (by omega)
      have q2 := hcell 2 (by omega)
      exact ⟨(n0, n1, s2.data.toList), by simpa using q0, by simpa using q1, by simpa using q2, by show s2.data.toList.length ≤ _; rw [Array.length_toList]; exact z2⟩
    obtain ⟨q, hq⟩ := Deep.choose_lt each
    have hlen : ((List.range len).map q).length = len := by simp
    refine ⟨(List.range len).map q, ⟨some a, cap, by rw [hlen], by rw [OC_len], by rw [hlen]; exact hl, hm, fun k hk => ?_⟩, fun f hf => ?_⟩
    · rw [OC_len, hlen] at hk
      obtain ⟨b, off, spot⟩ := a
      have h0 := (hq 0 (by omega)).1
      have hspot : spot = none := by simpa [Addr.add] using World.cell?_spot h0
      subst hspot
      have hi : k / 3 < len := by omega
      have hqi := hq (k / 3) (by omega)
      have hget : ((List.range len).map q)[k / 3]'(by rw [hlen]; exact hi) = q (k / 3) := by simp
      rw [add_addr, add_addr, add_addr, add_addr] at hqi
      refine ⟨b, off, rfl, World.block_lt_of_cell? _ _ hqi.1, ?_⟩
      have hat := OC_at (l := (List.range len).map q) (k := k / 3) (by rw [hlen]; exact hi)
      rw [hget] at hat
      have hm3 : k % 3 = 0 ∨ k % 3 = 1 ∨ k % 3 = 2 := by omega
      have hkl : k < (OC ((List.range len).map q)).length := by rw [OC_len, hlen]; exact hk
      have hgk : (OC ((List.range len).map q))[k]? = some (OC ((List.range len).map q))[k] := List.getElem?_eq_getElem hkl
      rw [← hgk]
      rcases hm3 with e | e | e
      · have ek : k = k / 3 * 3 := by omega
        have h1 := hat.1
        rw [← ek] at h1
        rw [h1, ← hqi.1]
        congr 2
        omega
      · have ek : k = k / 3 * 3 + 1 := by omega
        have h1 := hat.2.1
        rw [← ek] at h1
        rw [h1, ← hqi.2.1]
        congr 2
        omega
      · have ek : k = k / 3 * 3 + 2 := by omega
        have h1 := hat.2.2
        rw [← ek] at h1
        rw [h1, ← hqi.2.2.1]
        congr 2
        omega
    · simp only [List.mem_map, List.mem_range] at hf
      obtain ⟨i, hi, rfl⟩ := hf
      exact (hq i (by omega)).2.2.2

/-- A slice of lists of ops that came in. -/
theorem opss_cells {H : Type} {enc : TypeId × Value → H} {W : World} {fuel : Nat} {v : Value} {x : DataW H × List MemPlace}
    (h : DataW.trod enc Tryz.prog W 0 (fun _ => true) true fuel 27 [v] = some x) : ∃ ls : List (List OpT), RowOO W v ls ∧ ∀ l ∈ ls, ∀ f ∈ l, f.2.2.length ≤ maxLen := by
  rcases Deep.open_slice Tryz.underlying27 h with ⟨hcs, _⟩ | ⟨a, len, cap, m, n, D, Pl, hcs, hb, hl, hm, hmm, _, hx⟩
  · simp at hcs
    subst hcs
    exact ⟨[], ⟨[], rfl, ⟨none, 0, rfl, Nat.le_refl _, by unfold maxLen; omega, fun k hk => absurd hk (by simp)⟩, fun k h1 h2 => absurd h2 (by simp)⟩, by simp⟩
  · simp at hcs
    subst hcs
    simp only [if_true] at hmm
    have each : ∀ i, i < m → ∃ q : Value × List OpT, W.cell? ((a.add (i * 1)).add 0) = some q.1 ∧ RowO W q.1 q.2 ∧ ∀ f ∈ q.2, f.2.2.length ≤ maxLen := by
      intro i hi
      obtain ⟨cs', h1, h2⟩ := hx i hi
      rw [show Tryz.prog.cellsOf 85 = 1 by kernel_rfl] at h1
      obtain ⟨_, hlen, hcell⟩ := World.cells?_some h1
      match cs', hlen with
      | [u], _ =>
        obtain ⟨l, hl, hx3⟩ := ops_cells h2
        have q0 := hcell 0 (by omega)
        exact ⟨(u, l), by simpa using q0, hl, hx3⟩
    obtain ⟨q, hq⟩ := Deep.choose_lt each
    have hlen : ((List.range len).map fun i => (q i).2).length = len := by simp
    have hlen1 : ((List.range len).map fun i => (q i).1).length = len := by simp
    refine ⟨(List.range len).map fun i => (q i).2, ⟨(List.range len).map fun i => (q i).1, by rw [hlen, hlen1], ⟨some a, cap, by rw [hlen1], by rw [hlen1]; exact hl, hm, fun k hk => ?_⟩, fun k h1 h2 => ?_⟩, fun l hl3 f hf3 => ?_⟩
    · rw [hlen1] at hk
      obtain ⟨b, off, spot⟩ := a
      have h0 := (hq 0 (by omega)).1
      have hspot : spot = none := by simpa [Addr.add] using World.cell?_spot h0
      subst hspot
      have hk1 := (hq k (by omega)).1
      rw [add_addr, add_addr, Nat.mul_one, Nat.add_zero] at hk1
      refine ⟨b, off, rfl, World.block_lt_of_cell? _ _ hk1, ?_⟩
      rw [hk1]
      simp
    · have := (hq k (by rw [hlen1] at h1; omega)).2.1
      simpa using this
    · obtain ⟨i, hi, rfl⟩ := List.mem_map.1 hl3
      exact (hq i (by have := List.mem_range.1 hi; omega)).2.2 f hf3
/-- A slice of bools that came in. -/
theorem bools_cells {H : Type} {enc : TypeId × Value → H} {W : World} {fuel : Nat} {v : Value} {x : DataW H × List MemPlace}
    (h : DataW.trod enc Tryz.prog W 0 (fun _ => true) true fuel 26 [v] = some x) : ∃ l : List Bool, RowV W v (BL l) := by
  rcases Deep.open_slice Tryz.underlying26 h with ⟨hcs, _⟩ | ⟨a, len, cap, m, n, D, Pl, hcs, hb, hl, hm, hmm, _, hx⟩
  · simp at hcs
    subst hcs
    exact ⟨[], none, 0, rfl, Nat.le_refl _, by unfold maxLen; omega, fun k hk => absurd hk (by simp [BL])⟩
  · simp at hcs
    subst hcs
    simp only [if_true] at hmm
    have each : ∀ i, i < m → ∃ q : Bool, W.cell? ((a.add (i * 1)).add 0) = some (.bool q) := by
      intro i hi
      obtain ⟨cs', h1, h2⟩ := hx i hi
      rw [show Tryz.prog.cellsOf 4 = 1 by kernel_rfl] at h1
      obtain ⟨_, hlen, hcell⟩ := World.cells?_some h1
      obtain ⟨b, e0, _⟩ := DataW.trod_bool Tryz.underlying4 h2
      subst e0
      have q0 := hcell 0 (by omega)
      exact ⟨b, by simpa using q0⟩
    obtain ⟨q, hq⟩ := Deep.choose_lt each
    have hlen : ((List.range len).map q).length = len := by simp
    refine ⟨(List.range len).map q, some a, cap, by rw [BL_len, hlen], by rw [BL_len, hlen]; exact hl, hm, fun k hk => ?_⟩
    rw [BL_len, hlen] at hk
    obtain ⟨b, off, spot⟩ := a
    have h0 := hq 0 (by omega)
    have hspot : spot = none := by simpa [Addr.add] using World.cell?_spot h0
    subst hspot
    have hk1 := hq k (by omega)
    rw [add_addr, add_addr, Nat.mul_one, Nat.add_zero] at hk1
    refine ⟨b, off, rfl, World.block_lt_of_cell? _ _ hk1, ?_⟩
    rw [hk1, BL_get (by rw [hlen]; exact hk)]
    simp
theorem texts_inU {H : Type} {enc : TypeId × Value → H} {W : World} {a : Option Addr} {len cap : Nat} {d : DataW H} {p : List MemPlace}
    (h : DataW.Trod enc Tryz.prog W 0 (fun _ => true) true 31 (.slice a len cap) d p) : ∃ l : List (List UInt8), RowV W (.slice a len cap) (S l) ∧ ∀ x ∈ l, x.length ≤ maxLen := by
  obtain ⟨fuel, hf⟩ := h
  exact texts_cells (by simpa [Value.cells] using hf)
/-- A struct of three fields, the first of two cells, the others of one. -/
theorem four_cells {H : Type} {enc : TypeId × Value → H} {P : Program} {w : World} {base : Nat} {spare : Nat → Bool} {held : Bool} {t : TypeId} {f0 f1 f2 : Field} {n : Nat} {c0 c1 c2 c3 : Value} {x : DataW H × List MemPlace}
    (he : P.underlying t = some (.struct #[f0, f1, f2])) (o0 : f0.offset = 0) (o1 : f1.offset = 2) (o2 : f2.offset = 3) (k0 : P.cellsOf f0.type = 2) (k1 : P.cellsOf f1.type = 1) (k2 : P.cellsOf f2.type = 1)
    (h : DataW.trod enc P w base spare held n t [c0, c1, c2, c3] = some x) :
    ∃ (y0 y1 y2 : DataW H × List MemPlace) (k : Nat), DataW.trod enc P w base spare held k f0.type [c0, c1] = some y0 ∧ DataW.trod enc P w base spare held k f1.type [c2] = some y1 ∧ DataW.trod enc P w base spare held k f2.type [c3] = some y2 := by
  obtain ⟨xs, k, hk, hxy, _, hxl, hf⟩ := DataW.trod_struct he h
  match xs, hxl with
  | [y0, y1, y2], _ =>
    have g0 := hf 0 f0 rfl
    have g1 := hf 1 f1 rfl
    have g2 := hf 2 f2 rfl
    simp [o0, o1, o2, k0, k1, k2] at g0 g1 g2
    exact ⟨y0, y1, y2, k, g0, g1, g2⟩
/-- A struct of two fields, a cell each. -/
theorem two_cells {H : Type} {enc : TypeId × Value → H} {P : Program} {w : World} {base : Nat} {spare : Nat → Bool} {held : Bool} {t : TypeId} {f0 f1 : Field} {n : Nat} {c0 c1 : Value} {x : DataW H × List MemPlace}
    (he : P.underlying t = some (.struct #[f0, f1])) (o0 : f0.offset = 0) (o1 : f1.offset = 1) (k0 : P.cellsOf f0.type = 1) (k1 : P.cellsOf f1.type = 1)
    (h : DataW.trod enc P w base spare held n t [c0, c1] = some x) :
    ∃ (y0 y1 : DataW H × List MemPlace) (k : Nat), DataW.trod enc P w base spare held k f0.type [c0] = some y0 ∧ DataW.trod enc P w base spare held k f1.type [c1] = some y1 := by
  obtain ⟨xs, k, hk, hxy, _, hxl, hf⟩ := DataW.trod_struct he h
  match xs, hxl with
  | [y0, y1], _ =>
    have g0 := hf 0 f0 rfl
    have g1 := hf 1 f1 rfl
    simp [o0, o1, k0, k1] at g0 g1
    exact ⟨y0, y1, k, g0, g1⟩
set_option maxRecDepth 100000 in
/-- A plan that came in. -/
theorem plan_in {H : Type} {enc : TypeId × Value → H} {W : World} {base : Nat} {v : Value} {d : DataW H} {p : List MemPlace} (hv : Value.okWide Tryz.prog W .any base 29 v)
    (h : DataW.Trod enc Tryz.prog W 0 (fun _ => true) true 29 v d p) : ∃ ls l bs rs, PlanV W v ls l bs rs ∧ ∀ l ∈ rs, ∀ f ∈ l, f.2.2.length ≤ maxLen := by
  obtain ⟨cs, rfl, hsz⟩ := okWide_struct Tryz.underlying29 hv
  obtain ⟨c0, c1, c2, c3, rfl⟩ := Joins.array4 (hsz.trans (by kernel_rfl))
  obtain ⟨fuel, hf⟩ := h
  obtain ⟨y0, y1, y2, k, h0, h1, h2⟩ := four_cells Tryz.underlying29 rfl rfl rfl (by kernel_rfl) (by kernel_rfl) (by kernel_rfl) (by simpa [Value.cells] using hf)
  obtain ⟨z0, z1, k', g0, g1⟩ := two_cells Tryz.underlying25 rfl rfl (by kernel_rfl) (by kernel_rfl) h0
  obtain ⟨ls, r0⟩ := lists_cells g0
  obtain ⟨l, r1⟩ := ints_cells g1
  obtain ⟨bs, r2⟩ := bools_cells h1
  obtain ⟨rs, r3, x3⟩ := opss_cells h2
  exact ⟨ls, l, bs, rs, ⟨c0, c1, c2, c3, rfl, r0, r1, r2, r3⟩, x3⟩
end Go.Proofs.YtngldlconipnnaaGreat

/- What the rows of chapter 9 share: how traces that came in read. -/
namespace Go.Proofs.YtngldlconipnnaaGreat
open Go.ChangeShapes Go.WideShapes Go.ChangeAt Go.RowKit Pth

/-- A struct of three fields, the last of two cells, the others of one. -/
theorem four_cells9 {H : Type} {enc : TypeId × Value → H} {P : Program} {w : World} {base : Nat} {spare : Nat → Bool} {held : Bool} {t : TypeId} {f0 f1 f2 : Field} {n : Nat} {cs : List Value} {x : DataW H × List MemPlace}
    (he : P.underlying t = some (.struct #[f0, f1, f2])) (o0 : f0.offset = 0) (o1 : f1.offset = 1) (o2 : f2.offset = 2) (k0 : P.cellsOf f0.type = 1) (k1 : P.cellsOf f1.type = 1) (k2 : P.cellsOf f2.type = 2)
    (h : DataW.trod enc P w base spare held n t cs = some x) (hl : cs.length = 4) :
    ∃ (c0 c1 c2 c3 : Value) (y0 y1 y2 : DataW H × List MemPlace) (k : Nat), cs = [c0, c1, c2, c3] ∧ DataW.trod enc P w base spare held k f0.type [c0] = some y0 ∧ DataW.trod enc P w base spare held k f1.type [c1] = some y1 ∧ DataW.trod enc P w base spare held k f2.type [c2, c3] = some y2 := by
  obtain ⟨xs, k, hk, hxy, _, hxl, hf⟩ := DataW.trod_struct he h
  match xs, hxl, cs, hl with
  | [y0, y1, y2], _, [c0, c1, c2, c3], _ =>
    have g0 := hf 0 f0 rfl
    have g1 := hf 1 f1 rfl
    have g2 := hf 2 f2 rfl
    simp [o0, o1, o2, k0, k1, k2] at g0 g1 g2
    exact ⟨c0, c1, c2, c3, y0, y1, y2, k, rfl, g0, g1, g2⟩
/-- The cells of a trace that came in. -/
theorem one_trace {H : Type} {enc : TypeId × Value → H} {W : World} {n : Nat} {cs : List Value} {x : DataW H × List MemPlace}
    (h : DataW.trod enc Tryz.prog W 0 (fun _ => true) true n 35 cs = some x) (hl : cs.length = 4) :
    ∃ (u : Value) (t : TrT), cs = trC u t ∧ RowV W u (S t.2.1) ∧ HeldT maxLen t := by
  obtain ⟨c0, c1, c2, c3, y0, y1, y2, k, rfl, h0, h1, h2⟩ := four_cells9 Tryz.underlying35 rfl rfl rfl (by kernel_rfl) (by kernel_rfl) (by kernel_rfl) h hl
  obtain ⟨n0, e0, _, _⟩ := DataW.trod_int Tryz.underlying3 h0
  obtain ⟨ins, hr, hx⟩ := texts_cells h1
  obtain ⟨z0, z1, k', g0, g1⟩ := two_cells Tryz.underlying33 rfl rfl (by kernel_rfl) (by kernel_rfl) h2
  obtain ⟨s2, e2, _, z2⟩ := DataW.trod_string Tryz.underlying9 g0
  obtain ⟨n3, e3, _, _⟩ := DataW.trod_int Tryz.underlying3 g1
  simp at e0 e2 e3
  subst e0 e2 e3
  exact ⟨c1, (n0, ins, (s2.data.toList, n3)), by simp [trC], hr, hx, by show s2.data.toList.length ≤ _; rw [Array.length_toList]; exact z2⟩

/-- A slice of traces that came in. -/
theorem traces_cells {H : Type} {enc : TypeId × Value → H} {W : World} {fuel : Nat} {v : Value} {x : DataW H × List MemPlace}
    (h : DataW.trod enc Tryz.prog W 0 (fun _ => true) true fuel 30 [v] = some x) : ∃ l : List TrT, RowT W v l ∧ ∀ t ∈ l, HeldT maxLen t := by
  rcases Deep.open_slice Tryz.underlying30 h with ⟨hcs, _⟩ | ⟨a, len, cap, m, n, D, Pl, hcs, hb, hl, hm, hmm, _, hx⟩
  · simp at hcs
    subst hcs
    exact ⟨[], ⟨[], rfl, ⟨none, 0, rfl, rfl, Nat.le_refl _, by unfold maxLen; omega, fun k hk => absurd hk (by simp [TC])⟩, fun k h1 h2 => absurd h2 (by simp)⟩, fun f hf => by simp at hf⟩
  · simp at hcs
    subst hcs
    simp only [if_true] at hmm
    have each : ∀ i, i < m → ∃ q : Value × TrT, (W.cell? ((a.add (i * 4)).add 0) = some (.int .i64 q.2.1) ∧ W.cell? ((a.add (i * 4)).add 1) = some q.1 ∧ W.cell? ((a.add (i * 4)).add 2) = some (.string ⟨q.2.2.2.1.toArray⟩) ∧ W.cell? ((a.add (i * 4)).add 3) = some (.int .i64 q.2.2.2.2)) ∧ RowV W q.1 (S q.2.2.1) ∧ HeldT maxLen q.2 := by
      intro i hi
      obtain ⟨cs', h1, h2⟩ := hx i hi
      rw [show Tryz.prog.cellsOf 35 = 4 by kernel_rfl] at h1
      obtain ⟨_, hlen, hcell⟩ := World.cells?_some h1
      obtain ⟨u, t, rfl, hr, hht⟩ := one_trace h2 hlen
      have q0 := hcell 0 (by simp [trC])
      have q1 := hcell 1 (by simp [trC])
      have q2 := hcell 2 (by simp [trC])
      have q3 := hcell 3 (by simp [trC])
      exact ⟨(u, t), ⟨by simpa [trC] using q0, by simpa [trC] using q1, by simpa [trC] using q2, by simpa [trC] using q3⟩, hr, hht⟩
    obtain ⟨q, hq⟩ := Deep.choose_lt each
    have hlen : ((List.range len).map fun i => (q i).2).length = len := by simp
    have hlen1 : ((List.range len).map fun i => (q i).1).length = len := by simp
    have hs : ((List.range len).map fun i => (q i).1).length = ((List.range len).map fun i => (q i).2).length := by rw [hlen, hlen1]
    refine ⟨(List.range len).map fun i => (q i).2, ⟨(List.range len).map fun i => (q i).1, hs, ⟨some a, cap, by rw [hlen], by rw [TC_len hs], by rw [hlen]; exact hl, hm, fun k hk => ?_⟩, fun k h1 h2 => ?_⟩, fun t ht => ?_⟩
    · rw [TC_len hs, hlen] at hk
      obtain ⟨b, off, spot⟩ := a
      have h0 := (hq 0 (by omega)).1.1
      have hspot : spot = none := by simpa [Addr.add] using World.cell?_spot h0
      subst hspot
      have hi : k / 4 < len := by omega
      have hqi := (hq (k / 4) (by omega)).1
      rw [add_addr, add_addr, add_addr, add_addr, add_addr] at hqi
      refine ⟨b, off, rfl, World.block_lt_of_cell? _ _ hqi.1, ?_⟩
      have hat := TC_at hs (k := k / 4) (by rw [hlen]; exact hi)
      simp only [List.getElem_map, List.getElem_range] at hat
      have hkl : k < (TC ((List.range len).map fun i => (q i).1) ((List.range len).map fun i => (q i).2)).length := by rw [TC_len hs, hlen]; exact hk
      have hgk : (TC ((List.range len).map fun i => (q i).1) ((List.range len).map fun i => (q i).2))[k]? = some (TC ((List.range len).map fun i => (q i).1) ((List.range len).map fun i => (q i).2))[k] := List.getElem?_eq_getElem hkl
      rw [← hgk]
      have hm4 : k % 4 = 0 ∨ k % 4 = 1 ∨ k % 4 = 2 ∨ k % 4 = 3 := by omega
      rcases hm4 with e | e | e | e
      · have ek : k = k / 4 * 4 := by omega
        have h1 := hat.1
        rw [← ek] at h1
        rw [h1, ← hqi.1]
        congr 2
        omega
      · have ek : k = k / 4 * 4 + 1 := by omega
        have h1 := hat.2.1
        rw [← ek] at h1
        rw [h1, ← hqi.2.1]
        congr 2
        omega
      · have ek : k = k / 4 * 4 + 2 := by omega
        have h1 := hat.2.2.1
        rw [← ek] at h1
        rw [h1, ← hqi.2.2.1]
        congr 2
        omega
      · have ek : k = k / 4 * 4 + 3 := by omega
        have h1 := hat.2.2.2
        rw [← ek] at h1
        rw [h1, ← hqi.2.2.2]
        congr 2
        omega
    · have := (hq k (by rw [hlen1] at h1; omega)).2.1
      simpa using this
    · obtain ⟨i, hi, rfl⟩ := List.mem_map.1 ht
      exact (hq i (by have := List.mem_range.1 hi; omega)).2.2
theorem traces_in {H : Type} {enc : TypeId × Value → H} {W : World} {a : Option Addr} {len cap : Nat} {d : DataW H} {p : List MemPlace}
    (h : DataW.Trod enc Tryz.prog W 0 (fun _ => true) true 30 (.slice a len cap) d p) : ∃ l : List TrT, RowT W (.slice a len cap) l ∧ ∀ t ∈ l, HeldT maxLen t := by
  obtain ⟨fuel, hf⟩ := h
  exact traces_cells (by simpa [Value.cells] using hf)
set_option maxRecDepth 100000 in
/-- A trace that came in. -/
theorem trace_in {H : Type} {enc : TypeId × Value → H} {W : World} {base : Nat} {v : Value} {d : DataW H} {p : List MemPlace} (hv : Value.okWide Tryz.prog W .any base 35 v)
    (h : DataW.Trod enc Tryz.prog W 0 (fun _ => true) true 35 v d p) : ∃ t : TrT, TrV W v t ∧ HeldT maxLen t := by
  obtain ⟨cs, rfl, hsz⟩ := okWide_struct Tryz.underlying35 hv
  obtain ⟨c0, c1, c2, c3, rfl⟩ := Joins.array4 (hsz.trans (by kernel_rfl))
  obtain ⟨fuel, hf⟩ := h
  obtain ⟨u, t, he, hr, hx⟩ := one_trace (cs := [c0, c1, c2, c3]) (by simpa [Value.cells] using hf) rfl
  obtain ⟨a, c, rfl, _⟩ := hr.texts
  simp only [trC, List.cons.injEq, and_true] at he
  obtain ⟨rfl, rfl, rfl, rfl⟩ := he
  exact ⟨t, ⟨a, c, rfl, hr⟩, hx⟩
end Go.Proofs.YtngldlconipnnaaGreat

/- What is put behind an empty literal: new memory, if it is something. -/
namespace Go.Proofs.YtngldlconipnnaaGreat
open Go.RowKit Pth

/-- What an append to the empty literal at block g leaves. -/
def LitTold (e size : Nat) (w : World) (g m : Nat) (ys : List Value) (v' : Value) (w' : World) : Prop :=
  (m = 0 ∧ v' = .slice (some ⟨g, 0, none⟩) 0 0 ∧ w' = w) ∨ (0 < m ∧ w'.ownsRow w.heap.size e size v' m ys)

theorem run_app_lit {t e : TypeId} {z : Value} {size bytes : Nat} (E : ElemG t e z size bytes) (w : World) (g : Nat) (ty : TypeId) (m : Nat) (ys : List Value) (A : Option Addr) (c : Nat) (hrow : RowG size w (.slice A m c) m ys) (hlen : m ≤ 1000000) :
    ∃ v' w', (Builtin.append_ #[t, t] ty #[.slice (some ⟨g, 0, none⟩) 0 0, .slice A m c]).run Tryz.prog w = .ok v' w' ∧ Below w.heap.size w w' ∧ LitTold e size w g m ys v' w' := by
  obtain ⟨i0, hi, hz0, hz1, hz2⟩ := info_parts E.info
  obtain ⟨A', c', hv, h0, h1, h2, hat⟩ := hrow
  injection hv with hA _ _
  subst hA
  rcases m with _ | m
  · refine ⟨_, w, ?_, Below.refl _ _, .inl ⟨rfl, rfl, rfl⟩⟩
    rcases A with _ | ad
    · simp [Builtin.append_, run_underlying E.under, sizeOf, typeInfo, hi, Builtin.lenOf, Builtin.firstCells, storeCells]
    · simp [Builtin.append_, run_underlying E.under, sizeOf, typeInfo, hi, Builtin.lenOf, Builtin.firstCells, storeCells, loadCells, loadCellsFrom]
  · have hpos : 0 < ys.length := by
      have := E.pos
      rw [h0, Nat.add_mul]
      omega
    obtain ⟨g2, o2, rfl, _, _⟩ := hat 0 hpos
    have hnews : ∀ j u, ys[j]? = some u → w.cell? ((⟨g2, o2, none⟩ : Addr).add j) = some u := by
      intro j u hu
      obtain ⟨hj, hu⟩ := List.getElem?_eq_some_iff.1 hu
      obtain ⟨g', o', he, _, hc⟩ := hat j hj
      obtain ⟨rfl, rfl⟩ := addr_inj he
      rw [add_addr, hc, hu]
    subst hz1
    subst hz2
    have hr := run_append_grow (P := Tryz.prog) w t ty e i0 z E.under hi hz0 ⟨g, 0, none⟩ 0 0 [] (by simp) (by simp) ⟨g2, o2, none⟩ (m + 1) c ys h0 hnews (by omega) (by omega) (growslice_fits (by omega) (by have := Nat.mul_le_mul hlen E.small; rw [Nat.zero_add]; omega))
    rw [Nat.zero_add] at hr
    have hge := grownCap_ge w (m + 1) 0 e
    refine ⟨_, _, hr, ?_, .inr ⟨by omega, ⟨h0, .inr ⟨w.heap.size, _, _, rfl, Nat.le_refl _, heap_alloc_new w.drew _, ?_, ?_, ?_, ?_⟩⟩⟩⟩
    · exact (Below.drew (Below.refl _ w)).alloc (by simp) _
    · exact hge
    · exact grownCap_le_maxLen w _ _ e (by unfold maxLen; omega)
    · rw [Array.size_append, Array.size_append, size_zeroCells, E.cells, List.size_toArray, List.size_toArray, h0, List.length_nil, Nat.zero_add, ← Nat.add_mul, Nat.add_sub_cancel' hge]
    · rw [← h0]
      simp

theorem step_lit {t e : TypeId} {z : Value} {size bytes : Nat} (E : ElemG t e z size bytes) {ops : Array Oper} {o : Oper} {a : Act} {K : Act → World → Prop} {Q : Exit → Act → World → Prop} {F : Prop} {w : World} (hgd : o.guard = none) (s x : Operand)
    (ho : o.op = .call { callee := .builtin .append, args := #[s, x], argTypes := #[t, t] }) (g m : Nat) (ys : List Value) (u : Value) (hs : a.eval s = .slice (some ⟨g, 0, none⟩) 0 0) (hx : a.eval x = u) (hrow : RowG size w u m ys) (hlen : m ≤ 1000000)
    (h : ∀ v' w', Below w.heap.size w w' → LitTold e size w g m ys v' w' → K (a.put o.dst v') w') :
    if Region.wanted o (yielded ops a.tmps) = true then Oper.wp Tryz.prog o a w K Q else F := by
  have hw : Region.wanted o (yielded ops a.tmps) = true := by simp [Region.wanted, hgd]
  rw [if_pos hw]
  obtain ⟨A, c, hu, _⟩ := id hrow
  subst hu
  obtain ⟨v', w', hrun, h2, h3⟩ := run_app_lit E w g o.type m ys A c hrow hlen
  unfold Oper.wp execOp
  simp only [ho, resolve, invoke, builtin, Sem.run_bind, Sem.run_pure, Result.andThen_ok, List.map_toArray, List.map_cons, List.map_nil, hs, hx, hrun]
  exact h v' w' h2 h3

end Go.Proofs.YtngldlconipnnaaGreat

/- Walks: copies of traces, of the reference. -/
namespace Go.Proofs.YtngldlconipnnaaGreat
open Go.RowKit Pth

theorem elemS9 : ElemG 31 9 (.string ByteArray.empty) 1 16 := ⟨Tryz.underlying31, by kernel_rfl, rfl, by decide, by decide⟩
theorem rowG_texts {w : World} {v : Value} {l : List (List UInt8)} (h : RowV w v (S l)) : RowG 1 w v l.length (S l) := by
  obtain ⟨a, c, hv, h1, h2, hat⟩ := h
  refine ⟨a, c, by rw [hv, S_len], by rw [S_len]; omega, by rw [S_len] at h1; exact h1, h2, hat⟩
/-- Texts put behind an empty literal: a row of the call's own. -/
theorem lit_rowS (l : List (List UInt8)) (a : Option Addr) (c : Nat) (w W : World) (hW : W = w.alloc (.cells #[] 9)) (hrow : RowV w (.slice a l.length c) (S l)) (hx : l.length ≤ 1000) (ty : TypeId) :
    ∃ v1 w1, (Builtin.append_ #[31, 31] ty #[.slice (some ⟨w.heap.size, 0, none⟩) 0 0, .slice a l.length c]).run Tryz.prog W = .ok v1 w1 ∧ w1.ownsRow w.heap.size 9 1 v1 l.length (S l) ∧ Below w.heap.size w w1 := by
  subst hW
  have hb : Below w.heap.size w (w.alloc (.cells #[] 9)) := (Below.refl _ w).alloc (Nat.le_refl _) _
  obtain ⟨v1, w1, r1, b1, hl⟩ := run_app_lit elemS9 (w.alloc (.cells #[] 9)) w.heap.size ty l.length (S l) a c (rowG_texts (hrow.below hb)) (by omega)
  rcases hl with ⟨h0, rfl, rfl⟩ | ⟨_, ho⟩
  · have hl0 : l = [] := List.eq_nil_of_length_eq_zero h0
    subst hl0
    exact ⟨_, _, r1, ⟨rfl, .inr ⟨_, 0, #[], rfl, Nat.le_refl _, heap_alloc_new w _, Nat.le_refl _, by unfold maxLen; omega, rfl, rfl⟩⟩, hb⟩
  · exact ⟨_, w1, r1, own_baseG ho (by simp), bth hb b1 (Nat.le_refl _)⟩

set_option maxRecDepth 20000 in
set_option maxHeartbeats 8000000 in
theorem l9Own_any (T : List TrT) (v : Value) (w : World) (hrow : RowT w v T) (hs : ShortT T) (hl : T.length ≤ 1000) :
    Calls Tryz.prog 26 #[v] w (TracesPost T w) := by
  obtain ⟨a, cap, rfl, hc1, hc2, hat⟩ := hrow.traces
  clear hrow
  unfold maxLen at hc2
  have HAT := Lib.hid hat
  have HSH := Lib.hid hs
  clear hat hs
  go_enter Tryz.func26, Tryz.ntmps26
  go_wp2_with fail
  go_loopw [8, 3] (fun i v wr => ∃ (k : Nat) (sl : List Value), k ≤ T.length ∧ i = .int .i64 k ∧ Hid (OwnT w.heap.size wr v sl (T.take k)) ∧ Hid (Below w.heap.size w wr)) (fun i _ _ => T.length - (intOf i).toNat)
  case atStart => exact ⟨0, [], Nat.zero_le _, rfl, OwnT.empty _ _, Below.refl _ _⟩
  case round =>
    obtain ⟨k, sl, hk, rfl, HN, HB⟩ := hrel
    by_cases hlt : k < T.length
    · obtain ⟨g, o, a2, c2, rfl, hg, ⟨k0, k1, k2, k3⟩, hrk⟩ := HAT.out k hlt
      have s0 := (HB.out.cell (p := ⟨g, o + k * 4, none⟩) hg).trans k0
      have s1 := (HB.out.cell (p := ⟨g, o + k * 4 + 1, none⟩) hg).trans k1
      have s2 := (HB.out.cell (p := ⟨g, o + k * 4 + 2, none⟩) hg).trans k2
      have s3 := (HB.out.cell (p := ⟨g, o + k * 4 + 3, none⟩) hg).trans k3
      have hltz : (k : Int) < (T.length : Int) := by omega
      obtain ⟨_, e2, _⟩ := HSH.out _ (List.getElem_mem hlt)
      have HT : Hid (T.take k ++ [T[k]] = T.take (k + 1)) := (List.take_succ_eq_append_getElem hlt).symm
      have hln : (T.take k).length ≤ 1000000 := by rw [List.length_take]; omega
      obtain ⟨wx, hwx⟩ : ∃ wx, wx = wr.alloc (.cells #[.int .i64 T[k].1, .slice a2 T[k].2.1.length c2, .string ⟨T[k].2.2.1.toArray⟩, .int .i64 T[k].2.2.2] 50) := ⟨_, rfl⟩
      have HWX : Hid (wr.alloc (.cells #[.int .i64 T[k].1, .slice a2 T[k].2.1.length c2, .string ⟨T[k].2.2.1.toArray⟩, .int .i64 T[k].2.2.2] 50) = wx) := by rw [hwx]; rfl
      have hxsz : wr.heap.size < wx.heap.size := by rw [hwx]; simp
      have hxb : Below wr.heap.size wr wx := by rw [hwx]; exact (Below.refl _ wr).alloc (Nat.le_refl _) _
      have P0 : Hid (Blk4 wx wr.heap.size 50 (.int .i64 T[k].1) (.slice a2 T[k].2.1.length c2) (.string ⟨T[k].2.2.1.toArray⟩) (.int .i64 T[k].2.2.2)) := by rw [hwx]; exact Blk4.new
      have HXB := Lib.hid (bth HB.out hxb (Nat.le_refl _))
      have HXN := Lib.hid (HN.out.below hxb)
      obtain ⟨v1, w1, run1, ho1, hb1⟩ := lit_rowS T[k].2.1 a2 c2 wx _ rfl (hrk.below HXB.out) (by omega) 31
      have HRUN1 := Lib.hid run1
      have HP1 := Lib.hid (P0.out.below hb1 hxsz)
      have hsz1 : wr.heap.size < w1.heap.size := Nat.lt_of_lt_of_le hxsz hb1.size
      obtain ⟨wz, hwz⟩ : ∃ wz, wz = w1.setCell ⟨wr.heap.size, 1, none⟩ v1 := ⟨_, rfl⟩
      have HWZ : Hid (w1.setCell ⟨wr.heap.size, 1, none⟩ v1 = wz) := by rw [hwz]; rfl
      have PZ : Hid (Blk4 wz wr.heap.size 50 (.int .i64 T[k].1) v1 (.string ⟨T[k].2.2.1.toArray⟩) (.int .i64 T[k].2.2.2)) := by rw [hwz]; exact HP1.out.set1 _
      have hzb : Below wr.heap.size wr wz := by rw [hwz]; exact (bth hxb hb1 (Nat.le_refl _)).setCell (p := ⟨wr.heap.size, 1, none⟩) (Nat.le_refl _) _
      have hzo : wz.ownsRow wx.heap.size 9 1 v1 T[k].2.1.length (S T[k].2.1) := by rw [hwz]; exact own_setI ho1 (p := ⟨wr.heap.size, 1, none⟩) hxsz _
      have HZB := Lib.hid (bth HB.out hzb (Nat.le_refl _))
      have HZN := Lib.hid (HN.out.below hzb)
      have hL := HN.out.2.2.snoc hzb hzo (Nat.le_of_lt hxsz) (Nat.le_trans HB.out.size (Nat.le_of_lt hxsz))
      obtain ⟨b1, d1, rfl⟩ := own_slice hzo
      obtain ⟨v2, w2, hrun, hN2, hg2, _⟩ := OwnT.push (t := T[k]) HZN.out.1 HZN.out.2.1 hL hln HZB.out.size 39
      have HRUN := Lib.hid hrun
      have HN2 := Lib.hid hN2
      have HB2 := Lib.hid (HZB.out.trans (below_ownA HZN.out.2.1 hg2 HZB.out.size))
      obtain ⟨p0, p1, p2, p3⟩ := HP1.out.cells
      have g1 := HP1.out.soft 1
      obtain ⟨z0, z1, z2, z3⟩ := PZ.out.cells
      clear hwx hxsz hxb run1 ho1 hb1 hwz hzb hzo hL hrun hN2 hg2 k0 k1 k2 k3 hrk HN HB
      generalize T.take k = acc at *
      generalize T[k] = z at *
      obtain ⟨x0, xi, x2, x3⟩ := z
      obtain ⟨c0, c1, c2', c3⟩ := P0.out.cells
      obtain ⟨_, y1, _, _⟩ := (P0.out.old (.cells #[] 9)).cells
      simp only at s0 s1 s2 s3 HWX HRUN1 HRUN HN2 p0 p1 p2 p3 z0 z1 z2 z3 c0 c1 c2' c3 y1
      go_upto_region 5 with fail
      rw [HWX.out]
      go_upto_region 6 with (at_builtin; refine wpList_runApp9 rfl _ _ rfl rfl rfl HRUN1.out ?_)
      rw [HWZ.out]
      go_wp2_with (at_builtin; refine wpList_runApp9 rfl _ _ rfl rfl rfl HRUN.out ?_)
      rw [HT.out] at HN2
      go_roundw
      case rel => exact ⟨k + 1, _, by omega, by go_num, HN2, HB2⟩
      case measure => simp [intOf]; omega
    · rw [List.take_of_length_le (by omega)] at HN
      clear HAT HSH
      go_wp2_with fail
      go_ret
      exact ⟨_, sl, rfl, HN.out, HB.out⟩

end Go.Proofs.YtngldlconipnnaaGreat

/- Walks: a trace that is noted in traces of the call's own, of the reference. -/
namespace Go.Proofs.YtngldlconipnnaaGreat
open Go.RowKit Pth

set_option maxRecDepth 20000 in
set_option maxHeartbeats 8000000 in
theorem l9Note_any (B : Nat) (T : List TrT) (sl : List Value) (t : TrT) (lv : Value) (a : Option Addr) (c : Nat) (w : World) (hs : sl.length = T.length) (hA : OwnA B 50 4 w lv T.length (TC sl T)) (hL : ListsS B w (sl.zip (T.map (·.2.1)) ++ [(.slice a t.2.1.length c, t.2.1)])) (h40 : T.length ≤ 40) (hB : B ≤ w.heap.size) :
    Calls Tryz.prog 27 #[lv, trV (.slice a t.2.1.length c) t] w (NotedPost B lv (noteL T t) w) := by
  obtain ⟨t1, ins, x1, x2⟩ := t
  unfold trV
  simp only at hL ⊢
  have hview : RowT w lv T := OwnT.view ⟨hs, hA, hL.left⟩
  have hri : RowV w (.slice a ins.length c) (S ins) := RowV.of_own (hL.right.1 (.slice a ins.length c, ins) (by simp))
  obtain ⟨la, lc, rfl, hlc1, hlc2⟩ := hA.slice
  unfold maxLen at hlc2
  obtain ⟨wa, hwa⟩ : ∃ wa, wa = w.alloc (.cells #[.int .i64 t1, .slice a ins.length c, .string ⟨x1.toArray⟩, .int .i64 x2] 50) := ⟨_, rfl⟩
  have hsz : w.heap.size < wa.heap.size := by rw [hwa]; simp
  have P0 : Hid (Blk4 wa w.heap.size 50 (.int .i64 t1) (.slice a ins.length c) (.string ⟨x1.toArray⟩) (.int .i64 x2)) := by rw [hwa]; exact Blk4.new
  have hAw : Below w.heap.size w wa := by rw [hwa]; exact (Below.refl w.heap.size w).alloc (Nat.le_refl _) _
  have HA := Lib.hid hAw
  have HWA : Hid (w.alloc (.cells #[.int .i64 t1, .slice a ins.length c, .string ⟨x1.toArray⟩, .int .i64 x2] 50) = wa) := by rw [hwa]; rfl
  have HC := Lib.hid (specFind_any T t1 ins _ _ wa (hview.below hAw) (hri.below hAw))
  have HRA := Lib.hid (hA.below hAw)
  have HLA := Lib.hid (hL.below hAw)
  have HSL := Lib.hid hs
  obtain ⟨c0, c1, c2, c3⟩ := P0.out.cells
  obtain ⟨f, hf⟩ : ∃ f, findT T t1 ins = f := ⟨_, rfl⟩
  have hBa : B ≤ wa.heap.size := by omega
  clear hwa hview hri hA hL hs
  rcases f with _ | k
  · have HK : Hid (findK T t1 ins = -1) := by show _ = _; unfold findK; rw [hf]
    have HN : Hid (noteL T (t1, ins, x1, x2) = (T ++ [(t1, ins, x1, x2)]).drop (T.length + 1 - 40)) := note_new hf
    rw [HK.out] at HC
    clear hf
    go_enter Tryz.func27, Tryz.ntmps27
    go_wp2_with fail
    rw [HWA.out]
    refine HC.out.mono ?_
    rintro e w1 ⟨rfl, hb1⟩
    have HB1 := Lib.hid (bth HA.out hb1 (Nat.le_refl _))
    have hB1 : B ≤ w1.heap.size := Nat.le_trans hBa hb1.size
    have HR1 := HRA.out.below hb1
    have HL1 := HLA.out.below hb1
    obtain ⟨v2, w2, hrun, hN2, hg2, _⟩ := OwnT.push (t := (t1, ins, x1, x2)) HSL.out HR1 HL1 (by omega) hB1 39
    have HRUN := Lib.hid hrun
    obtain ⟨vg, vo, vc, rfl, hvc1, hvc2, _⟩ := hN2.2.1.addr (by simp)
    have hln : (T ++ [((t1, ins, x1, x2) : TrT)]).length = T.length + 1 := by simp
    rw [hln] at hN2 hvc1
    unfold maxLen at hvc2
    have HCUT := Lib.hid (fun k hk => hN2.cut hln.symm k hk)
    have HN2 := Lib.hid hN2
    have HGS := Lib.hid hg2.size
    have hb1s : w1.heap.size ≤ w1.heap.size := Nat.le_refl _
    have HG2 := Lib.hid (grown_below HB1.out hg2)
    obtain ⟨c0, c1, c2, c3⟩ := (P0.out.below hb1 hsz).cells
    clear hb1 HR1 HL1 hrun hN2 hg2 HC hln
    go_upto_region 6 with (at_builtin; refine wpList_runApp9 rfl _ _ rfl rfl rfl HRUN.out ?_)
    clear c0 c1 c2 c3 HRUN
    by_cases hbig : 40 < T.length + 1
    · have hz : (40 : Int) < (T.length : Int) + 1 := by omega
      have hN := HCUT.out 1 (by omega)
      rw [if_neg (by omega)] at hN
      have h1 : T.length + 1 - 40 = 1 := by omega
      have hl1 : ((T ++ [((t1, ins, x1, x2) : TrT)]).drop 1).length = T.length := by simp
      have hr2 : RowG 4 w2 (.slice (some ⟨vg, vo + 4, none⟩) T.length (vc - 1)) T.length (TC ((sl ++ [Value.slice a ins.length c]).drop 1) ((T ++ [((t1, ins, x1, x2) : TrT)]).drop 1)) := by
        have := hN.2.1.row
        rw [hl1] at this
        exact this
      obtain ⟨v3, w3, run3, hb3, hlit⟩ := run_app_lit elemT (w2.alloc (.cells #[] 50)) w2.heap.size 39 T.length _ _ _ (hr2.below ((Below.refl _ w2).alloc (Nat.le_refl _) (.cells #[] 50))) (by omega)
      have HRUN3 := Lib.hid run3
      have hb2 : Below w2.heap.size w2 w3 := bth ((Below.refl _ w2).alloc (Nat.le_refl _) (.cells #[] 50)) hb3 (Nat.le_refl _)
      have hB2 : B ≤ w2.heap.size := Nat.le_trans hB1 (Nat.le_trans hb1s HGS.out)
      have HN3 : Hid (OwnT B w3 v3 ((sl ++ [Value.slice a ins.length c]).drop 1) ((T ++ [((t1, ins, x1, x2) : TrT)]).drop 1)) := by
        refine ⟨hN.1, ?_, hN.2.2.below hb2⟩
        rw [hl1]
        rcases hlit with ⟨h0, _⟩ | ⟨_, ho⟩
        · omega
        · exact (OwnA.of_own ho).base (by simp; omega)
      have HG3 := Lib.hid (grown_trans HG2.out (below_grown hb2))
      clear run3 hb3 hlit hb2 hB2 hN hr2
      go_wp2_with (at_builtin; refine wpList_runApp9 rfl _ _ rfl rfl rfl HRUN3.out ?_)
      go_ret
      exact ⟨_, _, rfl, by rw [HN.out, h1]; exact HN3.out, HG3.out⟩
    · have hz : ¬ (40 : Int) < (T.length : Int) + 1 := by omega
      have h0 : T.length + 1 - 40 = 0 := by omega
      go_wp2_with fail
      go_ret
      exact ⟨_, _, rfl, by rw [HN.out, h0, List.drop_zero]; exact HN2.out, HG2.out⟩
  · have hk := findT_lt hf
    have HK : Hid (findK T t1 ins = (k : Int)) := by show _ = _; unfold findK; rw [hf]
    have HN : Hid (noteL T (t1, ins, x1, x2) = T.set k (t1, ins, x1, x2)) := note_put hf
    rw [HK.out] at HC
    rw [HN.out]
    obtain ⟨g, o, lc', hv, _, _, _, _⟩ := HRA.out.addr (by omega)
    injection hv with hv1 _ hv3
    subst hv1 hv3
    have hkz : (k : Int) < (T.length : Int) := by omega
    clear hf
    go_enter Tryz.func27, Tryz.ntmps27
    go_wp2_with fail
    rw [HWA.out]
    refine HC.out.mono ?_
    rintro e w1 ⟨rfl, hb1⟩
    have HB1 := Lib.hid (bth HA.out hb1 (Nat.le_refl _))
    have HR1 := HRA.out.below hb1
    have HL1 := HLA.out.below hb1
    have hput := OwnT.put (t := (t1, ins, x1, x2)) HSL.out rfl HR1 HL1 hk
    have HN2 := Lib.hid hput.1
    have HG2 := Lib.hid (grown_below HB1.out hput.2)
    obtain ⟨q0, q1, q2, q3⟩ := HR1.atT HSL.out hk
    have g0 := HR1.soft (o + k * 4)
    have g1 := HR1.soft (o + k * 4 + 1)
    have g2 := HR1.soft (o + k * 4 + 2)
    have g3 := HR1.soft (o + k * 4 + 3)
    obtain ⟨c0, c1, c2, c3⟩ := (P0.out.below hb1 hsz).cells
    simp only at HN2 HG2
    clear hb1 HR1 HL1 hput HC
    generalize T[k].1 = y0 at q0
    generalize sl[k]'(by have := HSL.out; omega) = y1 at q1
    generalize T[k].2.2.1 = y2 at q2
    generalize T[k].2.2.2 = y3 at q3
    go_wp2_with fail
    go_ret
    exact ⟨_, _, rfl, HN2.out, HG2.out⟩

end Go.Proofs.YtngldlconipnnaaGreat

/- Walks: NoteTrace of both. -/
namespace Go.Proofs.YtngldlconipnnaaGreat
open Go.RowKit Pth

/-- A row that lay below, ahead of lists that are newer. -/
theorem ListsS.ahead {B : Nat} {w w' : World} {L : List (Value × List (List UInt8))} {v : Value} {l : List (List UInt8)} (hown : w.ownsRow B 9 1 v l.length (S l)) (hb : Below w.heap.size w w') (h : ListsS w.heap.size w' L) (hB : B ≤ w.heap.size) :
    ListsS B w' (L ++ [(v, l)]) := by
  refine ⟨fun p hp => ?_, ?_⟩
  · rw [List.mem_append, List.mem_singleton] at hp
    rcases hp with hp | rfl
    · exact own_base (h.1 p hp) hB
    · exact own_below hown hb
  · rw [List.pairwise_append]
    refine ⟨h.2, by simp, fun p hp q hq b hpb hqb => ?_⟩
    rw [List.mem_singleton] at hq
    subst hq
    have h1 := ((h.1 p hp).lt b hpb).1
    have h2' := (hown.lt b hqb).2
    omega
/-- Traces of the call's own, and a yes-or-no. -/
def NoteP (T : List TrT) (G : Bool) (w : World) (e : Ending) (w' : World) : Prop := ∃ v sl, e = .returned (.tuple #[v, .bool G]) ∧ OwnT w.heap.size w' v sl T ∧ Below w.heap.size w w'
theorem note_short {ls : List (List Int)} {bs : List Bool} {T : List TrT} {t : TrT} (h : ∀ x ∈ T, traceA ls bs x = true) (ht : traceA ls bs t = true) : ShortT (noteL T t) :=
  short_of fun x hx => by
    rcases note_mem hx with h1 | rfl
    · exact h x h1
    · exact ht

set_option maxRecDepth 20000 in
set_option maxHeartbeats 8000000 in
theorem specNote9_any (ls : List (List Int)) (l : List Int) (bs : List Bool) (rs : List (List OpT)) (T : List TrT) (t : TrT) (v x : Value) (a : Option Addr) (c : Nat) (w : World) (hp : PlanV w v ls l bs rs) (hT : RowT w x T) (ho : w.ownsRow 0 9 1 (.slice a t.2.1.length c) t.2.1.length (S t.2.1)) (hx : ∀ l ∈ rs, ∀ f ∈ l, f.2.2.length ≤ maxLen) (hxT : ∀ t ∈ T, HeldT maxLen t) (hxt : HeldT maxLen t) :
    Calls Tryz.prog 7 #[v, x, trV (.slice a t.2.1.length c) t] w (NoteP (noteA ls l bs rs T t) (goodT ls l bs rs T && traceA ls bs t) w) := by
  have HV := Lib.hid hp
  obtain ⟨nv, ov, sv, rv, rfl, h1, h2, h3, h4⟩ := hp
  obtain ⟨as0, cs, rfl, hs1, hs2, hats⟩ := h3.boolsW
  obtain ⟨an, cn, rfl, hn1, hn2, hatn⟩ := h1.lists
  obtain ⟨ao, co, rfl, ho1, ho2, hato⟩ := h2.ints
  obtain ⟨ar, cr, rfl, hr1, hr2, hatr⟩ := h4.lists
  clear h1 h2 h3 h4
  unfold maxLen at hs2 hn2 ho2 hr2
  obtain ⟨wa, hwa⟩ : ∃ wa, wa = w.alloc (.cells #[.slice an ls.length cn, .slice ao l.length co, .slice as0 bs.length cs, .slice ar rs.length cr] 45) := ⟨_, rfl⟩
  have hsz : w.heap.size < wa.heap.size := by rw [hwa]; simp
  have P0 : Hid (Blk4 wa w.heap.size 45 (.slice an ls.length cn) (.slice ao l.length co) (.slice as0 bs.length cs) (.slice ar rs.length cr)) := by rw [hwa]; exact Blk4.new
  have HA : Hid (Below w.heap.size w wa) := by rw [hwa]; exact (Below.refl w.heap.size w).alloc (Nat.le_refl _) _
  have HWA : Hid (w.alloc (.cells #[.slice an ls.length cn, .slice ao l.length co, .slice as0 bs.length cs, .slice ar rs.length cr] 45) = wa) := by rw [hwa]; rfl
  have HVW : Hid (∀ W, Below wa.heap.size wa W → PlanV W (.agg #[.slice an ls.length cn, .slice ao l.length co, .slice as0 bs.length cs, .slice ar rs.length cr]) ls l bs rs) := fun W h => HV.out.below (bth HA.out h (Nat.le_refl _))
  clear hwa
  have HTR := Lib.hid hT
  obtain ⟨at0, cap, rfl, hc1, hc2, _⟩ := hT.traces
  unfold maxLen at hc2
  obtain ⟨b, hb⟩ : ∃ b, goodT ls l bs rs T = b := ⟨_, rfl⟩
  obtain ⟨d, hd⟩ : ∃ d, traceA ls bs t = d := ⟨_, rfl⟩
  have HNA : Hid (noteA ls l bs rs T t = if b && d then noteL T t else []) := by show _ = _; unfold noteA; rw [hb, hd]
  rw [hb, hd]
  obtain ⟨NL, hNL⟩ : ∃ NL, noteA ls l bs rs T t = NL := ⟨_, rfl⟩
  rw [hNL] at HNA ⊢
  have HGB := Lib.hid hb
  have HDB := Lib.hid hd
  have HOX := Lib.hid ho
  have HCI := Lib.hid (fun hpl W (h : Below w.heap.size w W) => specTrace9_b ls l bs rs t hd _ _ W (HV.out.below h) ⟨a, c, rfl, (RowV.of_own ho).below h⟩ hpl hxt)
  have HLN : Hid (∀ hh : traceA ls bs t = true, t.2.1.length ≤ 10) := fun hh => (texts_parts (insOk_parts (traceA_parts hh).1).2.2.2.2).2
  have HSM : Hid (∀ hh : traceA ls bs t = true, ∀ hg : goodT ls l bs rs T = true, SameLen T t.1 t.2.1.length) := fun hh hg => same_of (goodT_all hg) (traceA_parts hh).1
  obtain ⟨t1, ins, x1, x2⟩ := t
  unfold trV at *
  simp only at HOX HCI HLN HSM ⊢
  obtain ⟨wb, hwb⟩ : ∃ wb, wb = wa.alloc (.cells #[.int .i64 t1, .slice a ins.length c, .string ⟨x1.toArray⟩, .int .i64 x2] 50) := ⟨_, rfl⟩
  have hAB : Below wa.heap.size wa wb := by rw [hwb]; exact (Below.refl wa.heap.size wa).alloc (Nat.le_refl _) _
  have ea : wa.heap.size = w.heap.size + 1 := by rw [← HWA.out]; simp
  have hsb : wb.heap.size = w.heap.size + 2 := by rw [hwb]; simp [ea]
  have R0 : Hid (Blk4 wb (w.heap.size + 1) 50 (.int .i64 t1) (.slice a ins.length c) (.string ⟨x1.toArray⟩) (.int .i64 x2)) := by rw [hwb, ← ea]; exact Blk4.new
  have PB := Lib.hid (P0.out.below hAB hsz)
  have HWB : Hid ((w.alloc (.cells #[.slice an ls.length cn, .slice ao l.length co, .slice as0 bs.length cs, .slice ar rs.length cr] 45)).alloc (.cells #[.int .i64 t1, .slice a ins.length c, .string ⟨x1.toArray⟩, .int .i64 x2] 50) = wb) := by rw [HWA.out, hwb]; rfl
  have HW := Lib.hid (bth HA.out hAB (Nat.le_refl _))
  have hlp : w.heap.size < wb.heap.size := by omega
  have hlr : w.heap.size + 1 < wb.heap.size := by omega
  have HC := Lib.hid (specGood9_b hb _ _ wb (HV.out.below HW.out) (HTR.out.below HW.out) hx hxT)
  obtain ⟨c0, c1, c2, c3⟩ := PB.out.cells
  clear hwb hAB hT hx hxT hxt hats hatn hato hatr hb hd ea ho hNL
  rcases b with _ | _
  · have HE : Hid (NL = []) := HNA.out
    clear HCI
    go_enter Tryz.func7, Tryz.ntmps7
    go_wp2_with fail
    rw [HWB.out]
    refine HC.out.mono ?_
    rintro e w1 ⟨rfl, hb1⟩
    have HB1 := Lib.hid (bth HW.out hb1 (Nat.le_refl _))
    clear hb1 c0 c1 c2 c3
    go_wp2_with fail
    go_ret2
    exact ⟨_, [], rfl, by rw [HE.out]; exact OwnT.empty _ _, HB1.out⟩
  have HPL := Lib.hid (goodT_parts HGB.out).1
  have HC2 := Lib.hid (fun W h => HCI.out HPL.out W h)
  clear HCI
  rcases d with _ | _
  · have HE : Hid (NL = []) := HNA.out
    go_enter Tryz.func7, Tryz.ntmps7
    go_wp2_with fail
    rw [HWB.out]
    refine HC.out.mono ?_
    rintro e w1 ⟨rfl, hb1⟩
    have HB1 := Lib.hid (bth HW.out hb1 (Nat.le_refl _))
    have K1 := Lib.hid hb1
    have hR1 := R0.out.below hb1 hlr
    obtain ⟨r0, r1, r2, r3⟩ := hR1.cells
    clear hb1 c0 c1 c2 c3 hR1
    obtain ⟨c0, c1, c2, c3⟩ := (PB.out.below K1.out hlp).cells
    go_wp2_with fail
    refine (HC2.out w1 HB1.out).mono ?_
    rintro e w2 ⟨rfl, hb2⟩
    have HB2 := Lib.hid (bth HB1.out hb2 (Nat.le_refl _))
    clear hb2 c0 c1 c2 c3 r0 r1 r2 r3
    go_wp2_with fail
    go_ret2
    exact ⟨_, [], rfl, by rw [HE.out]; exact OwnT.empty _ _, HB2.out⟩
  have HE : Hid (NL = noteL T (t1, ins, x1, x2)) := HNA.out
  have h10 := HLN.out HDB.out
  have HSL := Lib.hid (HSM.out HDB.out HGB.out)
  have HTA := Lib.hid (goodT_all HGB.out)
  have h40 := (goodT_parts HGB.out).2.1
  have HSHT := Lib.hid (short_of HTA.out)
  have HSHN := Lib.hid (note_short HTA.out HDB.out)
  clear HLN HSM HNA
  go_enter Tryz.func7, Tryz.ntmps7
  go_wp2_with fail
  rw [HWB.out]
  refine HC.out.mono ?_
  rintro e w1 ⟨rfl, hb1⟩
  have HB1 := Lib.hid (bth HW.out hb1 (Nat.le_refl _))
  have K1 := Lib.hid hb1
  have hR1 := R0.out.below hb1 hlr
  obtain ⟨r0, r1, r2, r3⟩ := hR1.cells
  clear hb1 c0 c1 c2 c3 hR1
  obtain ⟨c0, c1, c2, c3⟩ := (PB.out.below K1.out hlp).cells
  go_wp2_with fail
  refine (HC2.out w1 HB1.out).mono ?_
  rintro e w2 ⟨rfl, hb2⟩
  have HB2 := Lib.hid (bth HB1.out hb2 (Nat.le_refl _))
  have K2 := Lib.hid (bth K1.out hb2 (Nat.le_refl _))
  clear hb2 c0 c1 c2 c3 r0 r1 r2 r3
  have HBD : Hid (Below w.heap.size w w2.drew) := HB2.out.drew
  have KD : Hid (Below wb.heap.size wb w2.drew) := K2.out.drew
  have hwd : w2.drew.heap.size = w2.heap.size := rfl
  have HKR : Hid (∀ W, Below w2.drew.heap.size w2.drew W → (W.cell? ⟨w.heap.size + 1, 0, none⟩ = some (.int .i64 t1) ∧ W.cell? ⟨w.heap.size + 1, 1, none⟩ = some (.slice a ins.length c) ∧ W.cell? ⟨w.heap.size + 1, 2, none⟩ = some (.string ⟨x1.toArray⟩) ∧ W.cell? ⟨w.heap.size + 1, 3, none⟩ = some (.int .i64 x2))) := fun W h => (R0.out.below (bth KD.out h (Nat.le_refl _)) hlr).cells
  have BC := Lib.hid (Below.refl w2.drew.heap.size w2.drew)
  have ks := HKR.out w2.drew BC.out
  have HOD : Hid (w2.drew.ownsRow 0 9 1 (.slice a ins.length c) ins.length (S ins)) := own_below HOX.out HBD.out
  have HTW : Hid (∀ W, Below w2.drew.heap.size w2.drew W → RowT W (.slice at0 T.length cap) T) := fun W h => HTR.out.below (bth HBD.out h (Nat.le_refl _))
  go_wp2_with fail
  have HOT := Lib.hid (fun W (h : Below w2.drew.heap.size w2.drew W) => l9Own_any T _ W (HTW.out W h) HSHT.out (by omega))
  have HWN := Lib.hid (fun (B : Nat) (sl : List Value) (lv : Value) (a : Option Addr) (c : Nat) W hs hA hL hB => l9Note_any B T sl (t1, ins, x1, x2) lv a c W hs hA hL h40 hB)
  unfold trV at HWN
  simp only at HWN
  have HON := Lib.hid (fun (v : Value) (W : World) (h : RowT W v (noteL T (t1, ins, x1, x2))) => l9Own_any _ v W h HSHN.out (by have := note_len (t := (t1, ins, x1, x2)) h40; omega))
  go_region_held3 (fun w' => w'.cell? ⟨w.heap.size + 1, 0, none⟩ = some (.int .i64 t1) ∧ w'.cell? ⟨w.heap.size + 1, 1, none⟩ = some (.slice a ins.length c) ∧ w'.cell? ⟨w.heap.size + 1, 2, none⟩ = some (.string ⟨x1.toArray⟩) ∧ w'.cell? ⟨w.heap.size + 1, 3, none⟩ = some (.int .i64 x2)) (exact ks)
    (first
      | (go_at_call_of 26 (Value.slice at0 T.length cap); refine (HOT.out _ BC.out).mono ?_; rintro e w7 ⟨v7, sl7, rfl, hN7, hb7⟩
         have HLS := Lib.hid (ListsS.ahead (own_below HOD.out BC.out) hb7 hN7.2.2 (Nat.zero_le _))
         have HB7 := Lib.hid (Nat.le_trans BC.out.size hb7.size)
         have HN := Lib.hid (hN7.base BC.out.size)
         have BC := Lib.hid (BC.out.trans (hb7.mono BC.out.size))
         have ks := HKR.out w7 BC.out
         clear hN7 hb7)
      | (go_at_call 27; refine (HWN.out 0 _ _ _ _ _ HN.out.1 (HN.out.2.1.base (Nat.zero_le _)) HLS.out (Nat.zero_le _)).mono ?_; rintro e w9 ⟨v9, sl9, rfl, hN9, hg9⟩
         have BC := Lib.hid (BC.out.trans (below_ownA HN.out.2.1 hg9 BC.out.size))
         have ks := HKR.out w9 BC.out
         have HN9 := Lib.hid hN9.view
         clear hN9 hg9)
      | (go_at_call 26; refine (HON.out _ _ HN9.out).mono ?_; rintro e w10 ⟨v10, sl10, rfl, hN10, hb10⟩
         have HN10 := Lib.hid (hN10.base BC.out.size)
         have BC := Lib.hid (BC.out.trans (hb10.mono BC.out.size))
         have ks := HKR.out w10 BC.out
         clear hN10 hb10))
  all_goals
    clear ks
    go_wp2_with fail
    go_ret2
    exact ⟨_, _, rfl, by rw [HE.out]; exact HN10.out.base HBD.out.size, bth HBD.out BC.out (Nat.le_refl _)⟩

set_option maxRecDepth 20000 in
set_option maxHeartbeats 8000000 in
theorem implNote9_any (ls : List (List Int)) (l : List Int) (bs : List Bool) (rs : List (List OpT)) (T : List TrT) (t : TrT) (v x : Value) (a : Option Addr) (c : Nat) (w : World) (hp : PlanV w v ls l bs rs) (hT : RowT w x T) (ho : w.ownsRow 0 9 1 (.slice a t.2.1.length c) t.2.1.length (S t.2.1)) (hx : ∀ l ∈ rs, ∀ f ∈ l, f.2.2.length ≤ maxLen) (hxT : ∀ t ∈ T, HeldT maxLen t) (hxt : HeldT maxLen t) :
    Calls Tryz.prog 11 #[v, x, trV (.slice a t.2.1.length c) t] w (NoteP (noteA ls l bs rs T t) (goodT ls l bs rs T && traceA ls bs t) w) := by
  have HV := Lib.hid hp
  obtain ⟨nv, ov, sv, rv, rfl, h1, h2, h3, h4⟩ := hp
  obtain ⟨as0, cs, rfl, hs1, hs2, hats⟩ := h3.boolsW
  obtain ⟨an, cn, rfl, hn1, hn2, hatn⟩ := h1.lists
  obtain ⟨ao, co, rfl, ho1, ho2, hato⟩ := h2.ints
  obtain ⟨ar, cr, rfl, hr1, hr2, hatr⟩ := h4.lists
  clear h1 h2 h3 h4
  unfold maxLen at hs2 hn2 ho2 hr2
  obtain ⟨wa, hwa⟩ : ∃ wa, wa = w.alloc (.cells #[.slice an ls.length cn, .slice ao l.length co, .slice as0 bs.length cs, .slice ar rs.length cr] 45) := ⟨_, rfl⟩
  have hsz : w.heap.size < wa.heap.size := by rw [hwa]; simp
  have P0 : Hid (Blk4 wa w.heap.size 45 (.slice an ls.length cn) (.slice ao l.length co) (.slice as0 bs.length cs) (.slice ar rs.length cr)) := by rw [hwa]; exact Blk4.new
  have HA : Hid (Below w.heap.size w wa) := by rw [hwa]; exact (Below.refl w.heap.size w).alloc (Nat.le_refl _) _
  have HWA : Hid (w.alloc (.cells #[.slice an ls.length cn, .slice ao l.length co, .slice as0 bs.length cs, .slice ar rs.length cr] 45) = wa) := by rw [hwa]; rfl
  have HVW : Hid (∀ W, Below wa.heap.size wa W → PlanV W (.agg #[.slice an ls.length cn, .slice ao l.length co, .slice as0 bs.length cs, .slice ar rs.length cr]) ls l bs rs) := fun W h => HV.out.below (bth HA.out h (Nat.le_refl _))
  clear hwa
  have HTR := Lib.hid hT
  obtain ⟨at0, cap, rfl, hc1, hc2, _⟩ := hT.traces
  unfold maxLen at hc2
  obtain ⟨b, hb⟩ : ∃ b, goodT ls l bs rs T = b := ⟨_, rfl⟩
  obtain ⟨d, hd⟩ : ∃ d, traceA ls bs t = d := ⟨_, rfl⟩
  have HNA : Hid (noteA ls l bs rs T t = if b && d then noteL T t else []) := by show _ = _; unfold noteA; rw [hb, hd]
  rw [hb, hd]
  obtain ⟨NL, hNL⟩ : ∃ NL, noteA ls l bs rs T t = NL := ⟨_, rfl⟩
  rw [hNL] at HNA ⊢
  have HGB := Lib.hid hb
  have HDB := Lib.hid hd
  have HOX := Lib.hid ho
  have HCI := Lib.hid (fun hpl W (h : Below w.heap.size w W) => implTrace_b ls l bs rs t hd _ _ W (HV.out.below h) ⟨a, c, rfl, (RowV.of_own ho).below h⟩ hpl hxt)
  have HLN : Hid (∀ hh : traceA ls bs t = true, t.2.1.length ≤ 10) := fun hh => (texts_parts (insOk_parts (traceA_parts hh).1).2.2.2.2).2
  have HSM : Hid (∀ hh : traceA ls bs t = true, ∀ hg : goodT ls l bs rs T = true, SameLen T t.1 t.2.1.length) := fun hh hg => same_of (goodT_all hg) (traceA_parts hh).1
  obtain ⟨t1, ins, x1, x2⟩ := t
  unfold trV at *
  simp only at HOX HCI HLN HSM ⊢
  obtain ⟨wb, hwb⟩ : ∃ wb, wb = wa.alloc (.cells #[.int .i64 t1, .slice a ins.length c, .string ⟨x1.toArray⟩, .int .i64 x2] 50) := ⟨_, rfl⟩
  have hAB : Below wa.heap.size wa wb := by rw [hwb]; exact (Below.refl wa.heap.size wa).alloc (Nat.le_refl _) _
  have ea : wa.heap.size = w.heap.size + 1 := by rw [← HWA.out]; simp
  have hsb : wb.heap.size = w.heap.size + 2 := by rw [hwb]; simp [ea]
  have R0 : Hid (Blk4 wb (w.heap.size + 1) 50 (.int .i64 t1) (.slice a ins.length c) (.string ⟨x1.toArray⟩) (.int .i64 x2)) := by rw [hwb, ← ea]; exact Blk4.new
  have PB := Lib.hid (P0.out.below hAB hsz)
  have HWB : Hid ((w.alloc (.cells #[.slice an ls.length cn, .slice ao l.length co, .slice as0 bs.length cs, .slice ar rs.length cr] 45)).alloc (.cells #[.int .i64 t1, .slice a ins.length c, .string ⟨x1.toArray⟩, .int .i64 x2] 50) = wb) := by rw [HWA.out, hwb]; rfl
  have HW := Lib.hid (bth HA.out hAB (Nat.le_refl _))
  have hlp : w.heap.size < wb.heap.size := by omega
  have hlr : w.heap.size + 1 < wb.heap.size := by omega
  have HC := Lib.hid (implGood9_b hb _ _ wb (HV.out.below HW.out) (HTR.out.below HW.out) hx hxT)
  obtain ⟨c0, c1, c2, c3⟩ := PB.out.cells
  clear hwb hAB hT hx hxT hxt hats hatn hato hatr hb hd ea ho hNL
  rcases b with _ | _
  · have HE : Hid (NL = []) := HNA.out
    clear HCI
    go_enter Tryz.func11, Tryz.ntmps11
    go_wp2_with fail
    rw [HWB.out]
    refine HC.out.mono ?_
    rintro e w1 ⟨rfl, hb1⟩
    have HB1 := Lib.hid (bth HW.out hb1 (Nat.le_refl _))
    clear hb1 c0 c1 c2 c3
    go_wp2_with fail
    go_ret2
    exact ⟨_, [], rfl, by rw [HE.out]; exact OwnT.empty _ _, HB1.out⟩
  have HPL := Lib.hid (goodT_parts HGB.out).1
  have HC2 := Lib.hid (fun W h => HCI.out HPL.out W h)
  clear HCI
  rcases d with _ | _
  · have HE : Hid (NL = []) := HNA.out
    go_enter Tryz.func11, Tryz.ntmps11
    go_wp2_with fail
    rw [HWB.out]
    refine HC.out.mono ?_
    rintro e w1 ⟨rfl, hb1⟩
    have HB1 := Lib.hid (bth HW.out hb1 (Nat.le_refl _))
    have K1 := Lib.hid hb1
    have hR1 := R0.out.below hb1 hlr
    obtain ⟨r0, r1, r2, r3⟩ := hR1.cells
    clear hb1 c0 c1 c2 c3 hR1
    obtain ⟨c0, c1, c2, c3⟩ := (PB.out.below K1.out hlp).cells
    go_wp2_with fail
    refine (HC2.out w1 HB1.out).mono ?_
    rintro e w2 ⟨rfl, hb2⟩
    have HB2 := Lib.hid (bth HB1.out hb2 (Nat.le_refl _))
    clear hb2 c0 c1 c2 c3 r0 r1 r2 r3
    go_wp2_with fail
    go_ret2
    exact ⟨_, [], rfl, by rw [HE.out]; exact OwnT.empty _ _, HB2.out⟩
  have HE : Hid (NL = noteL T (t1, ins, x1, x2)) := HNA.out
  have h10 := HLN.out HDB.out
  have HSL := Lib.hid (HSM.out HDB.out HGB.out)
  have HTA := Lib.hid (goodT_all HGB.out)
  have h40 := (goodT_parts HGB.out).2.1
  have HSHT := Lib.hid (short_of HTA.out)
  have HSHN := Lib.hid (note_short HTA.out HDB.out)
  clear HLN HSM HNA
  go_enter Tryz.func11, Tryz.ntmps11
  go_wp2_with fail
  rw [HWB.out]
  refine HC.out.mono ?_
  rintro e w1 ⟨rfl, hb1⟩
  have HB1 := Lib.hid (bth HW.out hb1 (Nat.le_refl _))
  have K1 := Lib.hid hb1
  have hR1 := R0.out.below hb1 hlr
  obtain ⟨r0, r1, r2, r3⟩ := hR1.cells
  clear hb1 c0 c1 c2 c3 hR1
  obtain ⟨c0, c1, c2, c3⟩ := (PB.out.below K1.out hlp).cells
  go_wp2_with fail
  refine (HC2.out w1 HB1.out).mono ?_
  rintro e w2 ⟨rfl, hb2⟩
  have HB2 := Lib.hid (bth HB1.out hb2 (Nat.le_refl _))
  have K2 := Lib.hid (bth K1.out hb2 (Nat.le_refl _))
  clear hb2 c0 c1 c2 c3 r0 r1 r2 r3
  have HBD : Hid (Below w.heap.size w w2.drew) := HB2.out.drew
  have KD : Hid (Below wb.heap.size wb w2.drew) := K2.out.drew
  have hwd : w2.drew.heap.size = w2.heap.size := rfl
  have HKR : Hid (∀ W, Below w2.drew.heap.size w2.drew W → (W.cell? ⟨w.heap.size + 1, 0, none⟩ = some (.int .i64 t1) ∧ W.cell? ⟨w.heap.size + 1, 1, none⟩ = some (.slice a ins.length c) ∧ W.cell? ⟨w.heap.size + 1, 2, none⟩ = some (.string ⟨x1.toArray⟩) ∧ W.cell? ⟨w.heap.size + 1, 3, none⟩ = some (.int .i64 x2))) := fun W h => (R0.out.below (bth KD.out h (Nat.le_refl _)) hlr).cells
  have BC := Lib.hid (Below.refl w2.drew.heap.size w2.drew)
  have ks := HKR.out w2.drew BC.out
  have HOD : Hid (w2.drew.ownsRow 0 9 1 (.slice a ins.length c) ins.length (S ins)) := own_below HOX.out HBD.out
  have HTW : Hid (∀ W, Below w2.drew.heap.size w2.drew W → RowT W (.slice at0 T.length cap) T) := fun W h => HTR.out.below (bth HBD.out h (Nat.le_refl _))
  go_wp2_with fail
  have HOT := Lib.hid (fun W (h : Below w2.drew.heap.size w2.drew W) => ownTraces9_any T _ W (HTW.out W h) HSHT.out (by omega))
  have HO1 := Lib.hid (fun W (h : Below w2.drew.heap.size w2.drew W) => ownTrace9_any (t1, ins, x1, x2) (trV (.slice a ins.length c) (t1, ins, x1, x2)) W ⟨a, c, rfl, RowV.of_own (own_below HOD.out h)⟩ (fun y hy => by have := (texts_parts (insOk_parts (traceA_parts HDB.out).1).2.2.2.2).1 y hy; omega) (by show ins.length ≤ 1000; omega) (by have := resOk_len (traceA_parts HDB.out).2.1; show x1.length ≤ 1000; simp only at this; omega))
  unfold TrPost trV at HO1
  simp only at HO1
  have HWN := Lib.hid (fun (B : Nat) (sl : List Value) (lv : Value) (a : Option Addr) (c : Nat) W hs hA hL hB => withNoted_any B T sl (t1, ins, x1, x2) lv a c W hs hA hL h10 HSL.out h40 hB)
  unfold trV at HWN
  simp only at HWN
  go_region_held3 (fun w' => w'.cell? ⟨w.heap.size + 1, 0, none⟩ = some (.int .i64 t1) ∧ w'.cell? ⟨w.heap.size + 1, 1, none⟩ = some (.slice a ins.length c) ∧ w'.cell? ⟨w.heap.size + 1, 2, none⟩ = some (.string ⟨x1.toArray⟩) ∧ w'.cell? ⟨w.heap.size + 1, 3, none⟩ = some (.int .i64 x2)) (exact ks)
    (first
      | (go_at_call 36; refine (HOT.out _ BC.out).mono ?_; rintro e w7 ⟨v7, sl7, rfl, hN7, hb7⟩
         try have HLS := Lib.hid (ListsS.ahead HO.out hb7 hN7.2.2 HBC.out)
         have BC := Lib.hid (BC.out.trans (hb7.mono BC.out.size))
         have HBC : Hid (w2.drew.heap.size ≤ w7.heap.size) := BC.out.size
         have HN := Lib.hid (hN7.base (by have := BC.out.size; have := hb7.size; omega : w2.drew.heap.size ≤ _))
         have ks := HKR.out w7 BC.out
         clear hN7 hb7)
      | (go_at_call 37; refine (HO1.out _ BC.out).mono ?_; rintro e w8 ⟨v8, d8, rfl, ho8, hb8⟩
         try have HLS := Lib.hid (HN.out.2.2.snoc hb8 ho8 (Nat.le_refl _) HBC.out)
         try have HN := Lib.hid (HN.out.below hb8)
         have HO := Lib.hid (own_base ho8 (by have := BC.out.size; omega : w2.drew.heap.size ≤ _))
         have BC := Lib.hid (BC.out.trans (hb8.mono BC.out.size))
         have HBC : Hid (w2.drew.heap.size ≤ w8.heap.size) := BC.out.size
         have ks := HKR.out w8 BC.out
         clear ho8 hb8)
      | (go_at_call 35; refine (HWN.out w2.drew.heap.size _ _ _ _ _ HN.out.1 HN.out.2.1 HLS.out BC.out.size).mono ?_; rintro e w9 ⟨v9, sl9, rfl, hN9, hg9⟩
         have BC := Lib.hid (BC.out.trans (below_ownA HN.out.2.1 hg9 BC.out.size))
         have ks := HKR.out w9 BC.out
         have HN9 := Lib.hid hN9
         clear hN9 hg9))
  all_goals
    clear ks
    go_wp2_with fail
    go_ret2
    exact ⟨_, _, rfl, by rw [HE.out]; exact HN9.out.base HBD.out.size, bth HBD.out BC.out (Nat.le_refl _)⟩

end Go.Proofs.YtngldlconipnnaaGreat

/- Walks: the laws' marks in traces, and whether they are held. -/
namespace Go.Proofs.YtngldlconipnnaaGreat
open Go.RowKit Pth

/-- The marks in a trace with n inputs, from k on. -/
def mark1 (k n : Nat) : TrT := ((k : Int), marksT (k + 1) n, (markT (k + 1 + n), ((k + n + 2 : Nat) : Int)))
def marksTr : Nat → List TrT → List TrT
  | _, [] => []
  | k, t :: r => mark1 k t.2.1.length :: marksTr (k + t.2.1.length + 3) r
/-- How many marks traces take. -/
def markN (l : List TrT) : Nat := 3 * l.length + totT l
theorem marksTr_len (k : Nat) (l : List TrT) : (marksTr k l).length = l.length := by
  induction l generalizing k with
  | nil => rfl
  | cons t r ih => rw [marksTr, List.length_cons, List.length_cons, ih]
theorem markN_cons (t : TrT) (l : List TrT) : markN (t :: l) = t.2.1.length + 3 + markN l := by
  simp only [markN, totT, List.length_cons, List.map_cons, List.sum_cons]; omega
theorem markN_next {l : List TrT} {j : Nat} (hj : j < l.length) : markN (l.take (j + 1)) = markN (l.take j) + l[j].2.1.length + 3 := by
  unfold markN
  rw [totT_next hj, List.length_take, List.length_take]; omega
theorem markN_le {l : List TrT} {j : Nat} : markN (l.take j) ≤ markN l := by
  have := totT_le (l := l) (k := j)
  unfold markN
  rw [List.length_take]; omega
theorem marksTr_snoc (k : Nat) (l : List TrT) (t : TrT) : marksTr k (l ++ [t]) = marksTr k l ++ [mark1 (k + markN l) t.2.1.length] := by
  induction l generalizing k with
  | nil => simp [marksTr, markN, totT]
  | cons x r ih =>
    rw [List.cons_append, marksTr, marksTr, ih, List.cons_append, markN_cons]
    rw [show k + x.2.1.length + 3 + markN r = k + (x.2.1.length + 3 + markN r) by omega]
theorem marksTr_next {k : Nat} {l : List TrT} {j : Nat} (hj : j < l.length) : marksTr k (l.take (j + 1)) = marksTr k (l.take j) ++ [mark1 (k + markN (l.take j)) l[j].2.1.length] := by
  rw [List.take_succ_eq_append_getElem hj, marksTr_snoc]
theorem marksTr_at {k : Nat} {l : List TrT} {j : Nat} (hj : j < l.length) : (marksTr k l)[j]'(by rw [marksTr_len]; exact hj) = mark1 (k + markN (l.take j)) l[j].2.1.length := by
  induction l generalizing k j with
  | nil => simp at hj
  | cons x r ih =>
    cases j with
    | zero => simp [marksTr, markN, totT]
    | succ j =>
      simp only [marksTr, List.getElem_cons_succ, List.take_succ_cons]
      rw [ih (by simpa using hj), markN_cons, show k + x.2.1.length + 3 + markN (r.take j) = k + (x.2.1.length + 3 + markN (r.take j)) by omega]

theorem zipT_split {β : Type} {sl : List Value} {M ls : List β} {j : Nat} (hs : sl.length = ls.length) (hM : M.length = j) (hj : j < ls.length) :
    sl.zip (M ++ ls.drop j) = (sl.take j).zip M ++ (sl[j]'(by omega), ls[j]) :: (sl.drop (j + 1)).zip (ls.drop (j + 1)) := by
  have e : sl = sl.take j ++ sl[j]'(by omega) :: sl.drop (j + 1) := by rw [← List.drop_eq_getElem_cons (by omega), List.take_append_drop]
  conv => lhs; rw [e, List.drop_eq_getElem_cons hj]
  rw [List.zip_append (by rw [List.length_take]; omega), List.zip_cons_cons]
theorem zipT_join {β : Type} {sl : List Value} {M ls : List β} {j : Nat} {x : β} (hs : sl.length = ls.length) (hM : M.length = j) (hj : j < ls.length) :
    (sl.take j).zip M ++ (sl[j]'(by omega), x) :: (sl.drop (j + 1)).zip (ls.drop (j + 1)) = sl.zip ((M ++ [x]) ++ ls.drop (j + 1)) := by
  have e : sl = sl.take j ++ sl[j]'(by omega) :: sl.drop (j + 1) := by rw [← List.drop_eq_getElem_cons (by omega), List.take_append_drop]
  conv => rhs; rw [e]
  rw [List.append_assoc, List.zip_append (by rw [List.length_take]; omega), List.singleton_append, List.zip_cons_cons]

theorem markStringS_at {l : List (List UInt8)} {k B : Nat} {i r : Int} {v : Value} {w : World} (hi : (k : Int) = i) (hr : r = (k : Int) + (l.length : Int)) (hown : w.ownsRow B 9 1 v l.length (S l)) (hl : l.length ≤ 2000000) (hk : k ≤ 4000000) (hk1 : 1 ≤ k) :
    Calls Tryz.prog 46 #[v, .int .i64 i] w fun e w' => e = .returned (.int .i64 r) ∧ w'.ownsRow B 9 1 v l.length (S (marksT k l.length)) ∧ w.grownBy w' v.ownBlock := by
  subst hi hr
  exact markStringS_any l k B v w hown hl hk hk1
theorem heldStringS_at {k n : Nat} {i r : Int} {v : Value} {w : World} (hi : (k : Int) = i) (hr : r = (k : Int) + (n : Int)) (hrow : RowV w v (S (marksT k n))) (hn : n ≤ 2000000) (hk : k ≤ 4000000) (hk1 : 1 ≤ k) :
    Calls Tryz.prog 48 #[v, .int .i64 i] w fun e w' => e = .returned (.int .i64 r) ∧ Below w.heap.size w w' := by
  subst hi hr
  exact heldStringS_any k n v w hrow hn hk hk1
theorem set_at {α : Type} (M : List α) (l : List α) (j : Nat) (hM : M.length = j) (hj : j < l.length) (x : α) : (M ++ l.drop j).set j x = (M ++ [x]) ++ l.drop (j + 1) := by
  rw [List.set_append_right _ _ (by omega), hM, Nat.sub_self, List.drop_eq_getElem_cons hj, List.set_cons_zero, List.append_assoc]
  rfl

/-- The traces hold the marks, and only blocks between two have turned. -/
def MarkedTr (B C : Nat) (v : Value) (sl : List Value) (l : List TrT) (k : Nat) (w : World) (e : Ending) (w' : World) : Prop :=
  e = .returned (.int .i64 ((k + markN l : Nat) : Int)) ∧ OwnT B w' v sl (marksTr k l) ∧ OnlyB B C w w'

set_option maxRecDepth 20000 in
set_option maxHeartbeats 4000000 in
theorem markTraceS_C (l : List TrT) (k B C : Nat) (v : Value) (sl : List Value) (w : World) (h0 : OwnT B w v sl l) (hlt : ∀ b, v.ownBlock = some b → B ≤ b ∧ b < C) (hli : ∀ p ∈ sl.zip (l.map (·.2.1)), ∀ b, p.1.ownBlock = some b → B ≤ b ∧ b < C) (hB : B ≤ w.heap.size) (hz : l.length + totT l ≤ 1100000) (hk : k + markN l ≤ 4000000) (_hk1 : 1 ≤ k) :
    Calls Tryz.prog 16 #[v, .int .i64 (k : Int)] w (MarkedTr B C v sl l k w) := by
  obtain ⟨hs, hA, hL⟩ := h0
  have HLT := Lib.hid hlt
  have HLI := Lib.hid hli
  have HA0 := Lib.hid hA
  have HL0 := Lib.hid hL
  have HS := Lib.hid hs
  obtain ⟨a, cap, rfl, hc1, hc2⟩ := hA.slice
  unfold maxLen at hc2
  clear hA hL hs hlt hli
  go_enter Tryz.func16, Tryz.ntmps16
  go_wp2_with fail
  go_loopw [1, 5] (fun q i wr => ∃ j : Nat, j ≤ l.length ∧ q = .int .i64 ((k + markN (l.take j) : Nat) : Int) ∧ i = .int .i64 j ∧ Hid (OwnA B 50 4 wr (.slice a l.length cap) l.length (TC sl (marksTr k (l.take j) ++ l.drop j))) ∧ Hid (ListsS B wr (sl.zip ((marksTr k (l.take j)).map (·.2.1) ++ (l.map (·.2.1)).drop j))) ∧ Hid (OnlyB B C w wr)) (fun _ i _ => l.length - (intOf i).toNat)
  case atStart => exact ⟨0, Nat.zero_le _, by simp [markN, totT], rfl, by simpa [marksTr] using HA0, by simpa [marksTr, Hid] using HL0.out, ⟨Below.refl _ _, fun _ _ _ => rfl⟩⟩
  case round =>
    clear HA0 HL0
    obtain ⟨j, hj, rfl, rfl, HN, HL, HG⟩ := hrel
    by_cases hlt : j < l.length
    · obtain ⟨g, o, cap', hv, _, _, hgs, hgB⟩ := HN.out.addr (by omega)
      injection hv with hv1 hv2 hv3
      subst hv1 hv3
      have hM : (marksTr k (l.take j)).length = j := by rw [marksTr_len, List.length_take]; omega
      have hMm : ((marksTr k (l.take j)).map (·.2.1)).length = j := by rw [List.length_map]; exact hM
      have hlen : sl.length = (marksTr k (l.take j) ++ l.drop j).length := by rw [List.length_append, hM, List.length_drop]; have := HS.out; omega
      have hjl : j < (marksTr k (l.take j) ++ l.drop j).length := by rw [List.length_append, hM, List.length_drop]; omega
      have hjs : j < sl.length := by have := HS.out; omega
      have hel : (marksTr k (l.take j) ++ l.drop j)[j] = l[j] := by
        rw [List.getElem_append_right (by omega)]
        simp [hM]
      obtain ⟨q0, q1, q2, q3⟩ := HN.out.atT hlen hjl
      rw [hel] at q0 q2 q3
      have f0 := HN.out.soft (o + j * 4)
      have f2 := HN.out.soft (o + j * 4 + 2)
      have f3 := HN.out.soft (o + j * 4 + 3)
      have hgC : B ≤ g ∧ g < C := HLT.out g rfl
      have hmapl : (l.map (·.2.1)).length = l.length := List.length_map _
      have hL := HL.out
      rw [zipT_split (by rw [hmapl]; exact HS.out) hMm (by rw [hmapl]; exact hlt)] at hL
      have hone0 : wr.ownsRow B 9 1 sl[j] l[j].2.1.length (S l[j].2.1) := by
        have := hL.1 (sl[j], (l.map (·.2.1))[j]'(by rw [hmapl]; exact hlt)) (by simp)
        rw [List.getElem_map] at this
        exact this
      obtain ⟨a2, c2, hsv⟩ := own_slice hone0
      have hmem : (sl[j], l[j].2.1) ∈ sl.zip (l.map (·.2.1)) := zip_getS hjs hlt
      have HIN := Lib.hid (fun b h => HLI.out _ hmem b h)
      have ht1 := totT_at hlt
      have ht2 := markN_le (l := l) (j := j + 1)
      have ht3 := markN_next hlt
      generalize hkq : k + markN (l.take j) = kq at *
      have hk4 : kq + l[j].2.1.length + 3 ≤ 4000000 := by omega
      -- the first store
      have hst0 := HN.out.stored (j * 4) (.int .i64 (kq : Int))
      obtain ⟨w1, hw1⟩ : ∃ w1, w1 = wr.setCell ⟨g, o + j * 4, none⟩ (.int .i64 (kq : Int)) := ⟨_, rfl⟩
      have HST0 : Hid (OwnA B 50 4 w1 (.slice (some ⟨g, o, none⟩) l.length cap) l.length ((TC sl (marksTr k (l.take j) ++ l.drop j)).set (j * 4) (.int .i64 (kq : Int))) ∧ wr.grownBy w1 (some g)) := by rw [hw1]; exact hst0
      have HL1 : Hid (ListsS B w1 ((sl.take j).zip ((marksTr k (l.take j)).map (·.2.1)) ++ (sl[j], l[j].2.1) :: (sl.drop (j + 1)).zip ((l.map (·.2.1)).drop (j + 1)))) := by
        have := hL.grownA HN.out (by decide) HST0.out.2
        rw [List.getElem_map] at this
        exact this
      have hone1 := HL1.out.1 (sl[j], l[j].2.1) (by simp)
      simp only at hone1
      have ei : ((kq + 1 : Nat) : Int) = (kq : Int) + 1 := by omega
      have HC1 := Lib.hid (markStringS_at (l := l[j].2.1) (k := kq + 1) (i := (kq : Int) + 1) (r := (kq : Int) + 1 + (l[j].2.1.length : Int)) (by omega) (by omega) hone1 (by omega) (by omega) (by omega))
      have HC2 := Lib.hid (fun W => mark_r (kq + 1 + l[j].2.1.length) ((kq : Int) + 1 + (l[j].2.1.length : Int)) (by omega) (by omega) (by omega) W)
      have HFIN : Hid (∀ w2 w3, w2.ownsRow B 9 1 sl[j] l[j].2.1.length (S (marksT (kq + 1) l[j].2.1.length)) → w1.grownBy w2 (sl[j]).ownBlock → Below w2.heap.size w2 w3 →
          OwnA B 50 4 w3 (.slice (some ⟨g, o, none⟩) l.length cap) l.length ((TC sl (marksTr k (l.take j) ++ l.drop j)).set (j * 4) (.int .i64 (kq : Int))) ∧
          ListsS B w3 (sl.zip ((marksTr k (l.take (j + 1))).map (·.2.1) ++ (l.map (·.2.1)).drop (j + 1))) ∧ OnlyB B C w w3) := by
        intro w2 w3 h1 h2 h3
        have hN2 := HST0.out.1.other hone1 (by decide) h2
        have hL2 := HL1.out.turn (v' := sl[j]) (l' := marksT (kq + 1) l[j].2.1.length) h2 (by rw [marksT_len]; exact h1) (fun b hb => .inl hb)
        rw [zipT_join (by rw [hmapl]; exact HS.out) hMm (by rw [hmapl]; exact hlt)] at hL2
        have em : (marksTr k (l.take (j + 1))).map (·.2.1) = (marksTr k (l.take j)).map (·.2.1) ++ [marksT (kq + 1) l[j].2.1.length] := by
          rw [marksTr_next hlt, List.map_append, hkq]; rfl
        rw [← em] at hL2
        have hw1s : wr.heap.size ≤ w1.heap.size := HST0.out.2.size
        refine ⟨hN2.below h3, hL2.below h3, (HG.out.trans (OnlyB.of_grown HST0.out.2 (fun i hi => by injection hi with hi; subst hi; exact hgC) (Nat.le_trans hB HG.out.below.size))).trans ((OnlyB.of_grown h2 (fun i hi => HIN.out i hi) ?_).trans (OnlyB.of_below h3 ?_))⟩
        · exact Nat.le_trans hB (Nat.le_trans HG.out.below.size hw1s)
        · exact Nat.le_trans hB (Nat.le_trans HG.out.below.size (Nat.le_trans hw1s h2.size))
      have HSET : Hid (((((TC sl (marksTr k (l.take j) ++ l.drop j)).set (j * 4) (.int .i64 (kq : Int)))).set (j * 4 + 2) (.string ⟨(markT (kq + 1 + l[j].2.1.length)).toArray⟩)).set (j * 4 + 3) (.int .i64 ((kq : Int) + 1 + (l[j].2.1.length : Int) + 1)) = TC sl (marksTr k (l.take (j + 1)) ++ l.drop (j + 1))) := by
        have h1 := TC_set hlen hjl (sl[j]'hjs) (mark1 kq l[j].2.1.length)
        have h2 : ((TC sl (marksTr k (l.take j) ++ l.drop j)).set (j * 4) (.int .i64 (kq : Int)))[j * 4 + 1]? = some (sl[j]'hjs) := by
          rw [List.getElem?_set_ne (by omega)]
          exact (TC_at hlen hjl).2.1
        have h3 : ((TC sl (marksTr k (l.take j) ++ l.drop j)).set (j * 4) (.int .i64 (kq : Int))).set (j * 4 + 1) (sl[j]'hjs) = (TC sl (marksTr k (l.take j) ++ l.drop j)).set (j * 4) (.int .i64 (kq : Int)) := by
          obtain ⟨hb, he⟩ := List.getElem?_eq_some_iff.1 h2
          rw [← he, List.set_getElem_self]
        have h4 : sl.set j (sl[j]'hjs) = sl := List.set_getElem_self _
        simp only [mark1] at h1
        rw [h3, h4] at h1
        rw [show (kq : Int) + 1 + (l[j].2.1.length : Int) + 1 = ((kq + l[j].2.1.length + 2 : Nat) : Int) by omega]
        show _ = _
        rw [h1, marksTr_next hlt, set_at _ l j hM hlt, hkq]; rfl
      have HKN : Hid ((((k + markN (l.take (j + 1)) : Nat)) : Int) = (kq : Int) + 1 + (l[j].2.1.length : Int) + 1 + 1) := by show _ = _; omega
      rw [hsv] at q1 HC1 HFIN
      have HW1 := Lib.hid hw1
      clear hw1 hst0 hone0 hone1 hL hM hMm hlen hjl hel hmem ht1 ht2 ht3 hmapl hkq HN HL HG HL1 HIN hv2 ei
      generalize l[j].1 = z1 at *
      generalize l[j].2.2.1 = z2 at *
      generalize l[j].2.2.2 = z3 at *
      generalize markT (kq + 1 + l[j].2.1.length) = tx at *
      generalize l[j].2.1.length = n at *
      go_wp2_with fail
      rw [← HW1.out]
      refine HC1.out.mono ?_
      rintro e w2 ⟨rfl, h1, h2⟩
      have H1 := Lib.hid h1
      have H2 := Lib.hid h2
      clear h1 h2 HC1 q0 q1 q2 q3 f0 f2 f3
      go_wp2_with fail
      refine (HC2.out _).mono ?_
      rintro e w3 ⟨rfl, hb3⟩
      obtain ⟨hN3, hL3, hG3⟩ := HFIN.out w2 w3 H1.out H2.out hb3
      have HN3 := Lib.hid hN3
      have HL3 := Lib.hid hL3
      have HG3 := Lib.hid hG3
      have hlen3 : j * 4 + 3 < ((TC sl (marksTr k (l.take j) ++ l.drop j)).set (j * 4) (.int .i64 (kq : Int))).length := by have := hN3.1; omega
      obtain ⟨y2, ey2⟩ : ∃ y2, ((TC sl (marksTr k (l.take j) ++ l.drop j)).set (j * 4) (.int .i64 (kq : Int)))[j * 4 + 2]? = some y2 := ⟨_, List.getElem?_eq_getElem (by omega)⟩
      obtain ⟨y3, ey3⟩ : ∃ y3, ((TC sl (marksTr k (l.take j) ++ l.drop j)).set (j * 4) (.int .i64 (kq : Int)))[j * 4 + 3]? = some y3 := ⟨_, List.getElem?_eq_getElem hlen3⟩
      have q2 := HN3.out.cell ey2
      have q3 := HN3.out.cell ey3
      have f2 := HN3.out.soft (o + (j * 4 + 2))
      have f3 := HN3.out.soft (o + (j * 4 + 3))
      rw [← Nat.add_assoc] at q2 q3 f2 f3
      have hst2 := HN3.out.stored (j * 4 + 2) (.string ⟨tx.toArray⟩)
      have hst3 := hst2.1.stored (j * 4 + 3) (.int .i64 ((kq : Int) + 1 + (n : Int) + 1))
      rw [HSET.out] at hst3
      have HN4 := Lib.hid hst3.1
      have hgg := grown_trans hst2.2 hst3.2
      have HL4 := Lib.hid (HL3.out.grownA HN3.out (by decide) hgg)
      have HG4 := Lib.hid (HG3.out.trans (OnlyB.of_grown hgg (fun i hi => by injection hi with hi; subst hi; exact hgC) (Nat.le_trans hB HG3.out.below.size)))
      clear hN3 hL3 hG3 hb3 HC2 HFIN hst2 hst3 hgg HSET H1 H2 HW1 HL3 HG3 HST0 hlen3 ey2 ey3 HN3
      go_wp2_with fail
      go_roundw
      case rel => exact ⟨j + 1, by omega, by rw [HKN.out], by go_num, HN4, HL4, HG4⟩
      case measure => simp [intOf]; omega
    · have hjl : j = l.length := by omega
      rw [hjl, List.take_length, List.drop_length, List.append_nil] at HN
      rw [hjl, List.take_length, List.drop_of_length_le (by rw [List.length_map]; omega), List.append_nil] at HL
      have HF : Hid (OwnT B wr (.slice a l.length cap) sl (marksTr k l)) := ⟨by rw [marksTr_len]; exact HS.out, by rw [marksTr_len]; exact HN.out, HL.out⟩
      rw [hjl, List.take_length]
      clear HN HL
      go_wp2_with fail
      go_ret
      exact ⟨rfl, HF.out, HG.out⟩

set_option maxRecDepth 20000 in
set_option maxHeartbeats 4000000 in
theorem heldTraceS_any (l : List TrT) (k : Nat) (v : Value) (w : World) (hrow : RowT w v (marksTr k l)) (hz : l.length + totT l ≤ 1100000) (hk : k + markN l ≤ 4000000) (hk1 : 1 ≤ k) :
    Calls Tryz.prog 18 #[v, .int .i64 (k : Int)] w fun e w' => e = .returned (.int .i64 ((k + markN l : Nat) : Int)) ∧ Below w.heap.size w w' := by
  obtain ⟨a, cap, rfl, hc1, hc2, hat⟩ := hrow.traces
  rw [marksTr_len] at hc1 ⊢
  clear hrow
  unfold maxLen at hc2
  have HAT := Lib.hid hat
  clear hat
  go_enter Tryz.func18, Tryz.ntmps18
  go_wp2_with fail
  go_loopw [1, 5] (fun q i wr => ∃ j : Nat, j ≤ l.length ∧ q = .int .i64 ((k + markN (l.take j) : Nat) : Int) ∧ i = .int .i64 j ∧ Hid (Below w.heap.size w wr)) (fun _ i _ => l.length - (intOf i).toNat)
  case atStart => exact ⟨0, Nat.zero_le _, by simp [markN, totT], rfl, Below.refl _ _⟩
  case round =>
    obtain ⟨j, hj, rfl, rfl, HB⟩ := hrel
    by_cases hlt : j < l.length
    · obtain ⟨g, o, a2, c2, rfl, hg, ⟨k0, k1, k2, k3⟩, hrk⟩ := HAT.out j (by rw [marksTr_len]; exact hlt)
      rw [marksTr_at hlt] at k0 k1 k2 k3 hrk
      have s0 := (HB.out.cell (p := ⟨g, o + j * 4, none⟩) hg).trans k0
      have s1 := (HB.out.cell (p := ⟨g, o + j * 4 + 1, none⟩) hg).trans k1
      have s2 := (HB.out.cell (p := ⟨g, o + j * 4 + 2, none⟩) hg).trans k2
      have s3 := (HB.out.cell (p := ⟨g, o + j * 4 + 3, none⟩) hg).trans k3
      have ht1 := totT_at hlt
      have ht2 := markN_le (l := l) (j := j + 1)
      have ht3 := markN_next hlt
      have HKN : Hid ((((k + markN (l.take (j + 1)) : Nat)) : Int) = ((k + markN (l.take j) : Nat) : Int) + 1 + (l[j].2.1.length : Int) + 1 + 1) := by show _ = _; omega
      have hk4 : k + markN (l.take j) + l[j].2.1.length + 3 ≤ 4000000 := by omega
      have hkq1 : 1 ≤ k + markN (l.take j) := by omega
      generalize k + markN (l.take j) = kq at *
      generalize hn : l[j].2.1.length = n at *
      unfold mark1 at s0 s1 s2 s3 hrk
      simp only [marksT_len] at s0 s1 s2 s3 hrk
      rw [show ((kq + n + 2 : Nat) : Int) = (kq : Int) + 1 + (n : Int) + 1 by omega] at s3
      have HC1 := Lib.hid (heldStringS_at (k := kq + 1) (n := n) (i := (kq : Int) + 1) (r := (kq : Int) + 1 + (n : Int)) (by omega) (by omega) (hrk.below HB.out) (by omega) (by omega) (by omega))
      have HC2 := Lib.hid (fun W => mark_r (kq + 1 + n) ((kq : Int) + 1 + (n : Int)) (by omega) (by omega) (by omega) W)
      have hgw : g < wr.heap.size := by have := HB.out.size; omega
      have hj1 : (j : Int) < (l.length : Int) := by omega
      have hnn : decide ((kq : Int) + 1 + (n : Int) < 0) = false := by simp; omega
      clear k0 k1 k2 k3 hrk ht1 ht2 ht3 hn
      generalize markT (kq + 1 + n) = tx at *
      go_wp2_with fail
      refine HC1.out.mono ?_
      rintro e w1 ⟨rfl, hb1⟩
      have HB1 := Lib.hid (bth HB.out hb1 (Nat.le_refl _))
      have hgw1 : g < w1.heap.size := by have := hb1.size; omega
      have r2 := (hb1.cell (p := ⟨g, o + j * 4 + 2, none⟩) hgw).trans s2
      have r3 := (hb1.cell (p := ⟨g, o + j * 4 + 3, none⟩) hgw).trans s3
      clear hb1 HC1 s0 s1 s2 s3
      have ks := And.intro r2 r3
      go_wp2_with fail
      go_region_held3 (fun w' => w'.cell? ⟨g, o + j * 4 + 2, none⟩ = some (.string ⟨tx.toArray⟩) ∧ w'.cell? ⟨g, o + j * 4 + 3, none⟩ = some (.int .i64 ((kq : Int) + 1 + (n : Int) + 1))) (first | exact ks | exact k0)
        (first | (go_at_call 47; refine (HC2.out _).mono ?_; rintro e w5 ⟨rfl, hb5⟩; have k0 := And.intro ((hb5.cell (p := ⟨g, o + j * 4 + 2, none⟩) hgw1).trans ks.1) ((hb5.cell (p := ⟨g, o + j * 4 + 3, none⟩) hgw1).trans ks.2)))
      have s3 := k0.2
      have HB5 := Lib.hid ((Below.drew HB1.out).trans (hb5.mono HB1.out.size))
      clear hb5 k0 ks r2 r3
      go_wp2_with fail
      go_roundw
      case rel => exact ⟨j + 1, by omega, by rw [HKN.out], by go_num, HB5⟩
      case measure => simp [intOf]; omega
    · have hjl : j = l.length := by omega
      rw [hjl, List.take_length]
      clear HAT
      go_wp2_with fail
      go_ret
      exact ⟨rfl, HB.out⟩

set_option maxRecDepth 20000 in
set_option maxHeartbeats 1000000 in
theorem markTrace_C (t : TrT) (k B C : Nat) (a : Option Addr) (c : Nat) (w : World) (hown : w.ownsRow B 9 1 (.slice a t.2.1.length c) t.2.1.length (S t.2.1)) (hlt : ∀ b, (Value.slice a t.2.1.length c).ownBlock = some b → B ≤ b ∧ b < C) (hB : B ≤ w.heap.size) (hl : t.2.1.length ≤ 1100000) (hk : k ≤ 4000000) (hk1 : 1 ≤ k) :
    Calls Tryz.prog 17 #[trV (.slice a t.2.1.length c) t, .int .i64 (k : Int)] w fun e w' => e = .returned (.int .i64 ((k : Int) + (t.2.1.length : Int))) ∧ OnlyB B C w w' := by
  obtain ⟨t1, ins, o1, o2⟩ := t
  unfold trV
  simp only at hown hl hlt ⊢
  obtain ⟨wa, hwa⟩ : ∃ wa, wa = w.alloc (.cells #[.int .i64 t1, .slice a ins.length c, .string ⟨o1.toArray⟩, .int .i64 o2] 50) := ⟨_, rfl⟩
  have hAw : Below w.heap.size w wa := by rw [hwa]; exact (Below.refl w.heap.size w).alloc (Nat.le_refl _) _
  have HA := Lib.hid hAw
  have HLT := Lib.hid hlt
  have HC := Lib.hid (markStringS_any ins k B _ wa (own_below hown hAw) (by omega) hk hk1)
  have HWA := Lib.hid hwa
  clear hwa hAw hown hlt
  go_enter Tryz.func17, Tryz.ntmps17
  go_wp2_with fail
  rw [← HWA.out]
  refine HC.out.mono ?_
  rintro e w1 ⟨rfl, _, hg⟩
  have HG := Lib.hid ((OnlyB.of_below (B := B) (C := C) HA.out hB).trans (OnlyB.of_grown hg (fun i hi => HLT.out i hi) (Nat.le_trans hB HA.out.size)))
  clear hg
  go_wp2_with fail
  go_ret
  exact ⟨rfl, HG.out⟩
/-- What lies above is kept. -/
theorem OnlyB.ownA {B C D e n z : Nat} {w w' : World} {v : Value} {xs : List Value} (hg : OnlyB B C w w') (h : OwnA D e z w v n xs) (hD : C ≤ D) : OwnA D e z w' v n xs :=
  h.keep fun g _ hg' hh => hg.above g (Nat.le_trans hD (h.lt g hg').1) (lt_of_block hh)
theorem OnlyB.ownT {B C D : Nat} {w w' : World} {v : Value} {sl : List Value} {l : List TrT} (hg : OnlyB B C w w') (h : OwnT D w v sl l) (hD : C ≤ D) : OwnT D w' v sl l :=
  ⟨h.1, hg.ownA h.2.1 hD, fun p hp => hg.own (h.2.2.1 p hp) hD, h.2.2.2⟩
end Go.Proofs.YtngldlconipnnaaGreat
