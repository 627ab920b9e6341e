/- Texts of one claim, joined in their order. -/
import Derived.ProofKit
import Derived.SliceStrings
import Derived.SizedLaws
import Derived.OpenShut
import Derived.Deep.SlicePairs
import Derived.Lib.SmallJoins
import Derived.Deep.DeepHandedRow
import Derived.Deep.DeepLaidRun
import Derived.Test.YtngldlconipnnaaM3
import Derived.Test.YtngldlconipnnaaM6
import Derived.Test.YtngldlconipnnaaM4
import Derived.Test.YtngldlconipnnaaM8
import Derived.Test.YtngldlconipnnaaM9

/- What the rows of chapter 5 share: how graphs that came in read. -/
namespace Go.Proofs.Ytngldlconipnnaa
open Go.ChangeShapes Go.WideShapes Go.ChangeAt Go.RowKit Pth

theorem own : ownKnob Try.prog.godebug = none := by kernel_rfl
theorem laidOut : laidOutB Try.prog = true := by kernel_rfl
theorem met_none (w : World) : laidMet Try.prog [] w := ⟨[], rfl, List.nodup_nil, fun _ _ h => by cases h⟩

/-- A slice of numbers that came in. -/
theorem ints_cells {H : Type} {enc : TypeId × Value → H} {W : World} {fuel : Nat} {v : Value} {x : DataW H × List MemPlace}
    (h : DataW.trod enc Try.prog W 0 (fun _ => true) true fuel 24 [v] = some x) : ∃ l : List Int, RowV W v (I l) := by
  rcases open_ints Try.underlying24 Try.underlying3 (by kernel_rfl) h with ⟨hcs, _⟩ | ⟨x, len, cap, zs, hcs, _, hl, hm, hz, hx, hcell, hwz⟩
  · simp at hcs
    subst hcs
    exact ⟨[], none, 0, rfl, Nat.le_refl _, by unfold maxLen; omega, fun k hk => absurd hk (by simp [I])⟩
  · simp at hcs
    subst hcs
    simp only [if_true] at hz
    have hlen : (zs.take len).length = len := by rw [List.length_take]; omega
    refine ⟨zs.take len, some x, cap, by rw [I_len, hlen], by rw [I_len, hlen]; omega, by omega, fun k hk => ?_⟩
    rw [I_len, hlen] at hk
    have hc := hcell k (by omega)
    have h0 := hcell 0 (by omega)
    obtain ⟨b, off, spot⟩ := x
    have hspot : spot = none := by simpa [Addr.add] using World.cell?_spot h0
    subst hspot
    rw [add_addr] at hc
    refine ⟨b, off, rfl, World.block_lt_of_cell? _ _ hc, ?_⟩
    rw [hc]
    simp only [I, List.getElem_map, List.getElem_take]
    rw [List.getD_eq_getElem?_getD, List.getElem?_eq_getElem (by omega)]
    rfl
/-- A slice of slices of numbers that came in. -/
theorem lists_cells {H : Type} {enc : TypeId × Value → H} {W : World} {fuel : Nat} {v : Value} {x : DataW H × List MemPlace}
    (h : DataW.trod enc Try.prog W 0 (fun _ => true) true fuel 23 [v] = some x) : ∃ ls : List (List Int), RowN W v ls := by
  rcases Deep.open_slice Try.underlying23 h with ⟨hcs, _⟩ | ⟨a, len, cap, m, n, D, Pl, hcs, hb, hl, hm, hmm, _, hx⟩
  · simp at hcs
    subst hcs
    exact ⟨[], [], rfl, ⟨none, 0, rfl, Nat.le_refl _, by unfold maxLen; omega, fun k hk => absurd hk (by simp)⟩, fun k h1 h2 => absurd h2 (by simp)⟩
  · simp at hcs
    subst hcs
    simp only [if_true] at hmm
    have each : ∀ i, i < m → ∃ q : Value × List Int, W.cell? ((a.add (i * 1)).add 0) = some q.1 ∧ RowV W q.1 (I q.2) := by
      intro i hi
      obtain ⟨cs', h1, h2⟩ := hx i hi
      rw [show Try.prog.cellsOf 24 = 1 by kernel_rfl] at h1
      obtain ⟨_, hlen, hcell⟩ := World.cells?_some h1
      match cs', hlen with
      | [u], _ =>
        obtain ⟨l, hl⟩ := ints_cells h2
        have q0 := hcell 0 (by omega)
        exact ⟨(u, l), by simpa using q0, hl⟩
    obtain ⟨q, hq⟩ := Deep.choose_lt each
    have hlen : ((List.range len).map fun i => (q i).2).length = len := by simp
    have hlen1 : ((List.range len).map fun i => (q i).1).length = len := by simp
    refine ⟨(List.range len).map fun i => (q i).2, (List.range len).map fun i => (q i).1, by rw [hlen, hlen1], ⟨some a, cap, by rw [hlen1], by rw [hlen1]; exact hl, hm, fun k hk => ?_⟩, fun k h1 h2 => ?_⟩
    · rw [hlen1] at hk
      obtain ⟨b, off, spot⟩ := a
      have h0 := (hq 0 (by omega)).1
      have hspot : spot = none := by simpa [Addr.add] using World.cell?_spot h0
      subst hspot
      have hk1 := (hq k (by omega)).1
      rw [add_addr, add_addr, Nat.mul_one, Nat.add_zero] at hk1
      refine ⟨b, off, rfl, World.block_lt_of_cell? _ _ hk1, ?_⟩
      rw [hk1]
      simp
    · have := (hq k (by rw [hlen1] at h1; omega)).2
      simpa using this
set_option maxRecDepth 100000 in
/-- A graph that came in. -/
theorem graph_in {H : Type} {enc : TypeId × Value → H} {W : World} {base : Nat} {v : Value} {d : DataW H} {p : List MemPlace} (hv : Value.okWide Try.prog W .any base 52 v)
    (h : DataW.Trod enc Try.prog W 0 (fun _ => true) true 52 v d p) : ∃ ls l, GraphV W v ls l := by
  obtain ⟨v0, v1, y0, y1, n, rfl, _, _, h0, h1⟩ := Joins.open_agg2 Try.underlying52 (by kernel_rfl) (by kernel_rfl) hv h
  obtain ⟨ls, r0⟩ := lists_cells h0
  obtain ⟨l, r1⟩ := ints_cells h1
  exact ⟨ls, l, v0, v1, rfl, r0, r1⟩
end Go.Proofs.Ytngldlconipnnaa

/- What the rows of chapter 7 share: how texts, ops, bools, results and plans that came in read. -/
namespace Go.Proofs.Ytngldlconipnnaa
open Go.ChangeShapes Go.WideShapes Go.ChangeAt Go.RowKit Pth

/-- A slice of texts that came in. -/
theorem texts_cells {H : Type} {enc : TypeId × Value → H} {W : World} {fuel : Nat} {v : Value} {x : DataW H × List MemPlace}
    (h : DataW.trod enc Try.prog W 0 (fun _ => true) true fuel 32 [v] = some x) : ∃ l : List (List UInt8), RowV W v (S l) ∧ ∀ x ∈ l, x.length ≤ maxLen := by
  rcases open_strings Try.underlying32 Try.underlying9 (by kernel_rfl) h with ⟨hcs, _⟩ | ⟨x, len, cap, ss, hcs, _, hl, hm, hz, hx, hcell, hws⟩
  · simp at hcs
    subst hcs
    exact ⟨[], ⟨none, 0, rfl, Nat.le_refl _, by unfold maxLen; omega, fun k hk => absurd hk (by simp [S])⟩, fun x hx => by simp at hx⟩
  · simp at hcs
    subst hcs
    simp only [if_true] at hz
    have hlen : ((ss.take len).map (·.data.toList)).length = len := by rw [List.length_map, List.length_take]; omega
    refine ⟨(ss.take len).map (·.data.toList), ⟨some x, cap, by rw [S_len, hlen], by rw [S_len, hlen]; omega, by omega, fun k hk => ?_⟩, fun y hy => ?_⟩
    · rw [S_len, hlen] at hk
      have hc := hcell k (by omega)
      have h0 := hcell 0 (by omega)
      obtain ⟨b, off, spot⟩ := x
      have hspot : spot = none := by simpa [Addr.add] using World.cell?_spot h0
      subst hspot
      rw [add_addr] at hc
      refine ⟨b, off, rfl, World.block_lt_of_cell? _ _ hc, ?_⟩
      rw [hc]
      simp only [S, List.getElem_map, List.getElem_take]
      rw [List.getD_eq_getElem?_getD, List.getElem?_eq_getElem (by omega)]
      rfl
    · simp only [List.mem_map] at hy
      obtain ⟨z, hz1, rfl⟩ := hy
      have := hws z (List.mem_of_mem_take hz1)
      show z.data.toList.length ≤ maxLen
      rw [Array.length_toList]
      exact this

/-- A struct of three fields, a cell each. -/
theorem three_cells {H : Type} {enc : TypeId × Value → H} {P : Program} {w : World} {base : Nat} {spare : Nat → Bool} {held : Bool} {t : TypeId} {f0 f1 f2 : Field} {n : Nat} {cs : List Value} {x : DataW H × List MemPlace}
    (he : P.underlying t = some (.struct #[f0, f1, f2])) (o0 : f0.offset = 0) (o1 : f1.offset = 1) (o2 : f2.offset = 2) (c0 : P.cellsOf f0.type = 1) (c1 : P.cellsOf f1.type = 1) (c2 : P.cellsOf f2.type = 1)
    (h : DataW.trod enc P w base spare held n t cs = some x) (hl : cs.length = 3) :
    ∃ (v0 v1 v2 : Value) (y0 y1 y2 : DataW H × List MemPlace) (k : Nat), cs = [v0, v1, v2] ∧ DataW.trod enc P w base spare held k f0.type [v0] = some y0 ∧ DataW.trod enc P w base spare held k f1.type [v1] = some y1 ∧ DataW.trod enc P w base spare held k f2.type [v2] = some y2 := by
  obtain ⟨xs, k, hk, hxy, _, hxl, hf⟩ := DataW.trod_struct he h
  match xs, hxl, cs, hl with
  | [y0, y1, y2], _, [v0, v1, v2], _ =>
    have g0 := hf 0 f0 rfl
    have g1 := hf 1 f1 rfl
    have g2 := hf 2 f2 rfl
    simp [o0, o1, o2, c0, c1, c2] at g0 g1 g2
    exact ⟨v0, v1, v2, y0, y1, y2, k, rfl, g0, g1, g2⟩

/-- A list of ops that came in. -/
theorem ops_cells {H : Type} {enc : TypeId × Value → H} {W : World} {fuel : Nat} {v : Value} {x : DataW H × List MemPlace}
    (hf : DataW.trod enc Try.prog W 0 (fun _ => true) true fuel 155 [v] = some x) : ∃ l : List OpT, RowO W v l ∧ ∀ f ∈ l, f.2.2.length ≤ maxLen := by
  rcases Deep.open_slice Try.underlying155 hf with ⟨hcs, _⟩ | ⟨a, len, cap, m, n, D, Pl, hcs, hb, hl, hm, hmm, _, hx⟩
  · simp at hcs
    subst hcs
    exact ⟨[], ⟨none, 0, rfl, rfl, Nat.le_refl _, by unfold maxLen; omega, fun k hk => absurd hk (by simp [OC])⟩, fun f hf => by simp at hf⟩
  · simp at hcs
    subst hcs
    simp only [if_true] at hmm
    have each : ∀ i, i < m → ∃ q : OpT, W.cell? ((a.add (i * 3)).add 0) = some (.int .i64 q.1) ∧ W.cell? ((a.add (i * 3)).add 1) = some (.int .i64 q.2.1) ∧ W.cell? ((a.add (i * 3)).add 2) = some (.string ⟨q.2.2.toArray⟩) ∧ q.2.2.length ≤ maxLen := by
      intro i hi
      obtain ⟨cs', h1, h2⟩ := hx i hi
      rw [show Try.prog.cellsOf 181 = 3 by kernel_rfl] at h1
      obtain ⟨_, hlen, hcell⟩ := World.cells?_some h1
      obtain ⟨v0, v1, v2, y0, y1, y2, k, rfl, g0, g1, g2⟩ := three_cells Try.underlying181 rfl rfl rfl (by kernel_rfl) (by kernel_rfl) (by kernel_rfl) h2 hlen
      obtain ⟨n0, e0, _, _⟩ := DataW.trod_int Try.underlying3 g0
      obtain ⟨n1, e1, _, _⟩ := DataW.trod_int Try.underlying3 g1
      obtain ⟨s2, e2, _, z2⟩ := DataW.trod_string Try.underlying9 g2
      simp at e0 e1 e2
      subst e0 e1 e2
      have q0 := hcell 0 (by omega)
      have q1 := hcell 1 (by omega)
      have q2 := hcell 2 (by omega)
      exact ⟨(n0, n1, s2.data.toList), by simpa using q0, by simpa using q1, by simpa using q2, by show s2.data.toList.length ≤ _; rw [Array.length_toList]; exact z2⟩
    obtain ⟨q, hq⟩ := Deep.choose_lt each
    have hlen : ((List.range len).map q).length = len := by simp
    refine ⟨(List.range len).map q, ⟨some a, cap, by rw [hlen], by rw [OC_len], by rw [hlen]; exact hl, hm, fun k hk => ?_⟩, fun f hf => ?_⟩
    · rw [OC_len, hlen] at hk
      obtain ⟨b, off, spot⟩ := a
      have h0 := (hq 0 (by omega)).1
      have hspot : spot = none := by simpa [Addr.add] using World.cell?_spot h0
      subst hspot
      have hi : k / 3 < len := by omega
      have hqi := hq (k / 3) (by omega)
      have hget : ((List.range len).map q)[k / 3]'(by rw [hlen]; exact hi) = q (k / 3) := by simp
      rw [add_addr, add_addr, add_addr, add_addr] at hqi
      refine ⟨b, off, rfl, World.block_lt_of_cell? _ _ hqi.1, ?_⟩
      have hat := OC_at (l := (List.range len).map q) (k := k / 3) (by rw [hlen]; exact hi)
      rw [hget] at hat
      have hm3 : k % 3 = 0 ∨ k % 3 = 1 ∨ k % 3 = 2 := by omega
      have hkl : k < (OC ((List.range len).map q)).length := by rw [OC_len, hlen]; exact hk
      have hgk : (OC ((List.range len).map q))[k]? = some (OC ((List.range len).map q))[k] := List.getElem?_eq_getElem hkl
      rw [← hgk]
      rcases hm3 with e | e | e
      · have ek : k = k / 3 * 3 := by omega
        have h1 := hat.1
        rw [← ek] at h1
        rw [h1, ← hqi.1]
        congr 2
        omega
      · have ek : k = k / 3 * 3 + 1 := by omega
        have h1 := hat.2.1
        rw [← ek] at h1
        rw [h1, ← hqi.2.1]
        congr 2
        omega
      · have ek : k = k / 3 * 3 + 2 := by omega
        have h1 := hat.2.2
        rw [← ek] at h1
        rw [h1, ← hqi.2.2.1]
        congr 2
        omega
    · simp only [List.mem_map, List.mem_range] at hf
      obtain ⟨i, hi, rfl⟩ := hf
      exact (hq i (by omega)).2.2.2

/-- A slice of lists of ops that came in. -/
theorem opss_cells {H : Type} {enc : TypeId × Value → H} {W : World} {fuel : Nat} {v : Value} {x : DataW H × List MemPlace}
    (h : DataW.trod enc Try.prog W 0 (fun _ => true) true fuel 53 [v] = some x) : ∃ ls : List (List OpT), RowOO W v ls ∧ ∀ l ∈ ls, ∀ f ∈ l, f.2.2.length ≤ maxLen := by
  rcases Deep.open_slice Try.underlying53 h with ⟨hcs, _⟩ | ⟨a, len, cap, m, n, D, Pl, hcs, hb, hl, hm, hmm, _, hx⟩
  · simp at hcs
    subst hcs
    exact ⟨[], ⟨[], rfl, ⟨none, 0, rfl, Nat.le_refl _, by unfold maxLen; omega, fun k hk => absurd hk (by simp)⟩, fun k h1 h2 => absurd h2 (by simp)⟩, by simp⟩
  · simp at hcs
    subst hcs
    simp only [if_true] at hmm
    have each : ∀ i, i < m → ∃ q : Value × List OpT, W.cell? ((a.add (i * 1)).add 0) = some q.1 ∧ RowO W q.1 q.2 ∧ ∀ f ∈ q.2, f.2.2.length ≤ maxLen := by
      intro i hi
      obtain ⟨cs', h1, h2⟩ := hx i hi
      rw [show Try.prog.cellsOf 155 = 1 by kernel_rfl] at h1
      obtain ⟨_, hlen, hcell⟩ := World.cells?_some h1
      match cs', hlen with
      | [u], _ =>
        obtain ⟨l, hl, hx3⟩ := ops_cells h2
        have q0 := hcell 0 (by omega)
        exact ⟨(u, l), by simpa using q0, hl, hx3⟩
    obtain ⟨q, hq⟩ := Deep.choose_lt each
    have hlen : ((List.range len).map fun i => (q i).2).length = len := by simp
    have hlen1 : ((List.range len).map fun i => (q i).1).length = len := by simp
    refine ⟨(List.range len).map fun i => (q i).2, ⟨(List.range len).map fun i => (q i).1, by rw [hlen, hlen1], ⟨some a, cap, by rw [hlen1], by rw [hlen1]; exact hl, hm, fun k hk => ?_⟩, fun k h1 h2 => ?_⟩, fun l hl3 f hf3 => ?_⟩
    · rw [hlen1] at hk
      obtain ⟨b, off, spot⟩ := a
      have h0 := (hq 0 (by omega)).1
      have hspot : spot = none := by simpa [Addr.add] using World.cell?_spot h0
      subst hspot
      have hk1 := (hq k (by omega)).1
      rw [add_addr, add_addr, Nat.mul_one, Nat.add_zero] at hk1
      refine ⟨b, off, rfl, World.block_lt_of_cell? _ _ hk1, ?_⟩
      rw [hk1]
      simp
    · have := (hq k (by rw [hlen1] at h1; omega)).2.1
      simpa using this
    · obtain ⟨i, hi, rfl⟩ := List.mem_map.1 hl3
      exact (hq i (by have := List.mem_range.1 hi; omega)).2.2 f hf3
/-- A slice of bools that came in. -/
theorem bools_cells {H : Type} {enc : TypeId × Value → H} {W : World} {fuel : Nat} {v : Value} {x : DataW H × List MemPlace}
    (h : DataW.trod enc Try.prog W 0 (fun _ => true) true fuel 27 [v] = some x) : ∃ l : List Bool, RowV W v (BL l) := by
  rcases Deep.open_slice Try.underlying27 h with ⟨hcs, _⟩ | ⟨a, len, cap, m, n, D, Pl, hcs, hb, hl, hm, hmm, _, hx⟩
  · simp at hcs
    subst hcs
    exact ⟨[], none, 0, rfl, Nat.le_refl _, by unfold maxLen; omega, fun k hk => absurd hk (by simp [BL])⟩
  · simp at hcs
    subst hcs
    simp only [if_true] at hmm
    have each : ∀ i, i < m → ∃ q : Bool, W.cell? ((a.add (i * 1)).add 0) = some (.bool q) := by
      intro i hi
      obtain ⟨cs', h1, h2⟩ := hx i hi
      rw [show Try.prog.cellsOf 4 = 1 by kernel_rfl] at h1
      obtain ⟨_, hlen, hcell⟩ := World.cells?_some h1
      obtain ⟨b, e0, _⟩ := DataW.trod_bool Try.underlying4 h2
      subst e0
      have q0 := hcell 0 (by omega)
      exact ⟨b, by simpa using q0⟩
    obtain ⟨q, hq⟩ := Deep.choose_lt each
    have hlen : ((List.range len).map q).length = len := by simp
    refine ⟨(List.range len).map q, some a, cap, by rw [BL_len, hlen], by rw [BL_len, hlen]; exact hl, hm, fun k hk => ?_⟩
    rw [BL_len, hlen] at hk
    obtain ⟨b, off, spot⟩ := a
    have h0 := hq 0 (by omega)
    have hspot : spot = none := by simpa [Addr.add] using World.cell?_spot h0
    subst hspot
    have hk1 := hq k (by omega)
    rw [add_addr, add_addr, Nat.mul_one, Nat.add_zero] at hk1
    refine ⟨b, off, rfl, World.block_lt_of_cell? _ _ hk1, ?_⟩
    rw [hk1, BL_get (by rw [hlen]; exact hk)]
    simp
theorem texts_inU {H : Type} {enc : TypeId × Value → H} {W : World} {a : Option Addr} {len cap : Nat} {d : DataW H} {p : List MemPlace}
    (h : DataW.Trod enc Try.prog W 0 (fun _ => true) true 32 (.slice a len cap) d p) : ∃ l : List (List UInt8), RowV W (.slice a len cap) (S l) ∧ ∀ x ∈ l, x.length ≤ maxLen := by
  obtain ⟨fuel, hf⟩ := h
  exact texts_cells (by simpa [Value.cells] using hf)
/-- A struct of three fields, the first of two cells, the others of one. -/
theorem four_cells {H : Type} {enc : TypeId × Value → H} {P : Program} {w : World} {base : Nat} {spare : Nat → Bool} {held : Bool} {t : TypeId} {f0 f1 f2 : Field} {n : Nat} {c0 c1 c2 c3 : Value} {x : DataW H × List MemPlace}
    (he : P.underlying t = some (.struct #[f0, f1, f2])) (o0 : f0.offset = 0) (o1 : f1.offset = 2) (o2 : f2.offset = 3) (k0 : P.cellsOf f0.type = 2) (k1 : P.cellsOf f1.type = 1) (k2 : P.cellsOf f2.type = 1)
    (h : DataW.trod enc P w base spare held n t [c0, c1, c2, c3] = some x) :
    ∃ (y0 y1 y2 : DataW H × List MemPlace) (k : Nat), DataW.trod enc P w base spare held k f0.type [c0, c1] = some y0 ∧ DataW.trod enc P w base spare held k f1.type [c2] = some y1 ∧ DataW.trod enc P w base spare held k f2.type [c3] = some y2 := by
  obtain ⟨xs, k, hk, hxy, _, hxl, hf⟩ := DataW.trod_struct he h
  match xs, hxl with
  | [y0, y1, y2], _ =>
    have g0 := hf 0 f0 rfl
    have g1 := hf 1 f1 rfl
    have g2 := hf 2 f2 rfl
    simp [o0, o1, o2, k0, k1, k2] at g0 g1 g2
    exact ⟨y0, y1, y2, k, g0, g1, g2⟩
/-- A struct of two fields, a cell each. -/
theorem two_cells {H : Type} {enc : TypeId × Value → H} {P : Program} {w : World} {base : Nat} {spare : Nat → Bool} {held : Bool} {t : TypeId} {f0 f1 : Field} {n : Nat} {c0 c1 : Value} {x : DataW H × List MemPlace}
    (he : P.underlying t = some (.struct #[f0, f1])) (o0 : f0.offset = 0) (o1 : f1.offset = 1) (k0 : P.cellsOf f0.type = 1) (k1 : P.cellsOf f1.type = 1)
    (h : DataW.trod enc P w base spare held n t [c0, c1] = some x) :
    ∃ (y0 y1 : DataW H × List MemPlace) (k : Nat), DataW.trod enc P w base spare held k f0.type [c0] = some y0 ∧ DataW.trod enc P w base spare held k f1.type [c1] = some y1 := by
  obtain ⟨xs, k, hk, hxy, _, hxl, hf⟩ := DataW.trod_struct he h
  match xs, hxl with
  | [y0, y1], _ =>
    have g0 := hf 0 f0 rfl
    have g1 := hf 1 f1 rfl
    simp [o0, o1, k0, k1] at g0 g1
    exact ⟨y0, y1, k, g0, g1⟩
set_option maxRecDepth 100000 in
/-- A plan that came in. -/
theorem plan_in {H : Type} {enc : TypeId × Value → H} {W : World} {base : Nat} {v : Value} {d : DataW H} {p : List MemPlace} (hv : Value.okWide Try.prog W .any base 55 v)
    (h : DataW.Trod enc Try.prog W 0 (fun _ => true) true 55 v d p) : ∃ ls l bs rs, PlanV W v ls l bs rs ∧ ∀ l ∈ rs, ∀ f ∈ l, f.2.2.length ≤ maxLen := by
  obtain ⟨cs, rfl, hsz⟩ := okWide_struct Try.underlying55 hv
  obtain ⟨c0, c1, c2, c3, rfl⟩ := Joins.array4 (hsz.trans (by kernel_rfl))
  obtain ⟨fuel, hf⟩ := h
  obtain ⟨y0, y1, y2, k, h0, h1, h2⟩ := four_cells Try.underlying55 rfl rfl rfl (by kernel_rfl) (by kernel_rfl) (by kernel_rfl) (by simpa [Value.cells] using hf)
  obtain ⟨z0, z1, k', g0, g1⟩ := two_cells Try.underlying52 rfl rfl (by kernel_rfl) (by kernel_rfl) h0
  obtain ⟨ls, r0⟩ := lists_cells g0
  obtain ⟨l, r1⟩ := ints_cells g1
  obtain ⟨bs, r2⟩ := bools_cells h1
  obtain ⟨rs, r3, x3⟩ := opss_cells h2
  exact ⟨ls, l, bs, rs, ⟨c0, c1, c2, c3, rfl, r0, r1, r2, r3⟩, x3⟩
end Go.Proofs.Ytngldlconipnnaa

/- What the rows of chapter 9 share: how traces that came in read. -/
namespace Go.Proofs.Ytngldlconipnnaa
open Go.ChangeShapes Go.WideShapes Go.ChangeAt Go.RowKit Pth

/-- A struct of three fields, the last of two cells, the others of one. -/
theorem four_cells9 {H : Type} {enc : TypeId × Value → H} {P : Program} {w : World} {base : Nat} {spare : Nat → Bool} {held : Bool} {t : TypeId} {f0 f1 f2 : Field} {n : Nat} {cs : List Value} {x : DataW H × List MemPlace}
    (he : P.underlying t = some (.struct #[f0, f1, f2])) (o0 : f0.offset = 0) (o1 : f1.offset = 1) (o2 : f2.offset = 2) (k0 : P.cellsOf f0.type = 1) (k1 : P.cellsOf f1.type = 1) (k2 : P.cellsOf f2.type = 2)
    (h : DataW.trod enc P w base spare held n t cs = some x) (hl : cs.length = 4) :
    ∃ (c0 c1 c2 c3 : Value) (y0 y1 y2 : DataW H × List MemPlace) (k : Nat), cs = [c0, c1, c2, c3] ∧ DataW.trod enc P w base spare held k f0.type [c0] = some y0 ∧ DataW.trod enc P w base spare held k f1.type [c1] = some y1 ∧ DataW.trod enc P w base spare held k f2.type [c2, c3] = some y2 := by
  obtain ⟨xs, k, hk, hxy, _, hxl, hf⟩ := DataW.trod_struct he h
  match xs, hxl, cs, hl with
  | [y0, y1, y2], _, [c0, c1, c2, c3], _ =>
    have g0 := hf 0 f0 rfl
    have g1 := hf 1 f1 rfl
    have g2 := hf 2 f2 rfl
    simp [o0, o1, o2, k0, k1, k2] at g0 g1 g2
    exact ⟨c0, c1, c2, c3, y0, y1, y2, k, rfl, g0, g1, g2⟩
/-- The cells of a trace that came in. -/
theorem one_trace {H : Type} {enc : TypeId × Value → H} {W : World} {n : Nat} {cs : List Value} {x : DataW H × List MemPlace}
    (h : DataW.trod enc Try.prog W 0 (fun _ => true) true n 112 cs = some x) (hl : cs.length = 4) :
    ∃ (u : Value) (t : TrT), cs = trC u t ∧ RowV W u (S t.2.1) ∧ HeldT maxLen t := by
  obtain ⟨c0, c1, c2, c3, y0, y1, y2, k, rfl, h0, h1, h2⟩ := four_cells9 Try.underlying112 rfl rfl rfl (by kernel_rfl) (by kernel_rfl) (by kernel_rfl) h hl
  obtain ⟨n0, e0, _, _⟩ := DataW.trod_int Try.underlying3 h0
  obtain ⟨ins, hr, hx⟩ := texts_cells h1
  obtain ⟨z0, z1, k', g0, g1⟩ := two_cells Try.underlying110 rfl rfl (by kernel_rfl) (by kernel_rfl) h2
  obtain ⟨s2, e2, _, z2⟩ := DataW.trod_string Try.underlying9 g0
  obtain ⟨n3, e3, _, _⟩ := DataW.trod_int Try.underlying3 g1
  simp at e0 e2 e3
  subst e0 e2 e3
  exact ⟨c1, (n0, ins, (s2.data.toList, n3)), by simp [trC], hr, hx, by show s2.data.toList.length ≤ _; rw [Array.length_toList]; exact z2⟩

/-- A slice of traces that came in. -/
theorem traces_cells {H : Type} {enc : TypeId × Value → H} {W : World} {fuel : Nat} {v : Value} {x : DataW H × List MemPlace}
    (h : DataW.trod enc Try.prog W 0 (fun _ => true) true fuel 56 [v] = some x) : ∃ l : List TrT, RowT W v l ∧ ∀ t ∈ l, HeldT maxLen t := by
  rcases Deep.open_slice Try.underlying56 h with ⟨hcs, _⟩ | ⟨a, len, cap, m, n, D, Pl, hcs, hb, hl, hm, hmm, _, hx⟩
  · simp at hcs
    subst hcs
    exact ⟨[], ⟨[], rfl, ⟨none, 0, rfl, rfl, Nat.le_refl _, by unfold maxLen; omega, fun k hk => absurd hk (by simp [TC])⟩, fun k h1 h2 => absurd h2 (by simp)⟩, fun f hf => by simp at hf⟩
  · simp at hcs
    subst hcs
    simp only [if_true] at hmm
    have each : ∀ i, i < m → ∃ q : Value × TrT, (W.cell? ((a.add (i * 4)).add 0) = some (.int .i64 q.2.1) ∧ W.cell? ((a.add (i * 4)).add 1) = some q.1 ∧ W.cell? ((a.add (i * 4)).add 2) = some (.string ⟨q.2.2.2.1.toArray⟩) ∧ W.cell? ((a.add (i * 4)).add 3) = some (.int .i64 q.2.2.2.2)) ∧ RowV W q.1 (S q.2.2.1) ∧ HeldT maxLen q.2 := by
      intro i hi
      obtain ⟨cs', h1, h2⟩ := hx i hi
      rw [show Try.prog.cellsOf 112 = 4 by kernel_rfl] at h1
      obtain ⟨_, hlen, hcell⟩ := World.cells?_some h1
      obtain ⟨u, t, rfl, hr, hht⟩ := one_trace h2 hlen
      have q0 := hcell 0 (by simp)
      have q1 := hcell 1 (by simp)
      have q2 := hcell 2 (by simp)
      have q3 := hcell 3 (by simp)
      exact ⟨(u, t), ⟨by simpa [trC] using q0, by simpa [trC] using q1, by simpa [trC] using q2, by simpa [trC] using q3⟩, hr, hht⟩
    obtain ⟨q, hq⟩ := Deep.choose_lt each
    have hlen : ((List.range len).map fun i => (q i).2).length = len := by simp
    have hlen1 : ((List.range len).map fun i => (q i).1).length = len := by simp
    have hs : ((List.range len).map fun i => (q i).1).length = ((List.range len).map fun i => (q i).2).length := by rw [hlen, hlen1]
    refine ⟨(List.range len).map fun i => (q i).2, ⟨(List.range len).map fun i => (q i).1, hs, ⟨some a, cap, by rw [hlen], by rw [TC_len hs], by rw [hlen]; exact hl, hm, fun k hk => ?_⟩, fun k h1 h2 => ?_⟩, fun t ht => ?_⟩
    · rw [TC_len hs, hlen] at hk
      obtain ⟨b, off, spot⟩ := a
      have h0 := (hq 0 (by omega)).1.1
      have hspot : spot = none := by simpa [Addr.add] using World.cell?_spot h0
      subst hspot
      have hi : k / 4 < len := by omega
      have hqi := (hq (k / 4) (by omega)).1
      rw [add_addr, add_addr, add_addr, add_addr, add_addr] at hqi
      refine ⟨b, off, rfl, World.block_lt_of_cell? _ _ hqi.1, ?_⟩
      have hat := TC_at hs (k := k / 4) (by rw [hlen]; exact hi)
      simp only [List.getElem_map, List.getElem_range] at hat
      have hkl : k < (TC ((List.range len).map fun i => (q i).1) ((List.range len).map fun i => (q i).2)).length := by rw [TC_len hs, hlen]; exact hk
      have hgk : (TC ((List.range len).map fun i => (q i).1) ((List.range len).map fun i => (q i).2))[k]? = some (TC ((List.range len).map fun i => (q i).1) ((List.range len).map fun i => (q i).2))[k] := List.getElem?_eq_getElem hkl
      rw [← hgk]
      have hm4 : k % 4 = 0 ∨ k % 4 = 1 ∨ k % 4 = 2 ∨ k % 4 = 3 := by omega
      rcases hm4 with e | e | e | e
      · have ek : k = k / 4 * 4 := by omega
        have h1 := hat.1
        rw [← ek] at h1
        rw [h1, ← hqi.1]
        congr 2
        omega
      · have ek : k = k / 4 * 4 + 1 := by omega
        have h1 := hat.2.1
        rw [← ek] at h1
        rw [h1, ← hqi.2.1]
        congr 2
        omega
      · have ek : k = k / 4 * 4 + 2 := by omega
        have h1 := hat.2.2.1
        rw [← ek] at h1
        rw [h1, ← hqi.2.2.1]
        congr 2
        omega
      · have ek : k = k / 4 * 4 + 3 := by omega
        have h1 := hat.2.2.2
        rw [← ek] at h1
        rw [h1, ← hqi.2.2.2]
        congr 2
        omega
    · have := (hq k (by rw [hlen1] at h1; omega)).2.1
      simpa using this
    · obtain ⟨i, hi, rfl⟩ := List.mem_map.1 ht
      exact (hq i (by have := List.mem_range.1 hi; omega)).2.2
theorem traces_in {H : Type} {enc : TypeId × Value → H} {W : World} {a : Option Addr} {len cap : Nat} {d : DataW H} {p : List MemPlace}
    (h : DataW.Trod enc Try.prog W 0 (fun _ => true) true 56 (.slice a len cap) d p) : ∃ l : List TrT, RowT W (.slice a len cap) l ∧ ∀ t ∈ l, HeldT maxLen t := by
  obtain ⟨fuel, hf⟩ := h
  exact traces_cells (by simpa [Value.cells] using hf)
set_option maxRecDepth 100000 in
/-- A trace that came in. -/
theorem trace_in {H : Type} {enc : TypeId × Value → H} {W : World} {base : Nat} {v : Value} {d : DataW H} {p : List MemPlace} (hv : Value.okWide Try.prog W .any base 112 v)
    (h : DataW.Trod enc Try.prog W 0 (fun _ => true) true 112 v d p) : ∃ t : TrT, TrV W v t ∧ HeldT maxLen t := by
  obtain ⟨cs, rfl, hsz⟩ := okWide_struct Try.underlying112 hv
  obtain ⟨c0, c1, c2, c3, rfl⟩ := Joins.array4 (hsz.trans (by kernel_rfl))
  obtain ⟨fuel, hf⟩ := h
  obtain ⟨u, t, he, hr, hx⟩ := one_trace (cs := [c0, c1, c2, c3]) (by simpa [Value.cells] using hf) rfl
  obtain ⟨a, c, rfl, _⟩ := hr.texts
  simp only [trC, List.cons.injEq, and_true] at he
  obtain ⟨rfl, rfl, rfl, rfl⟩ := he
  exact ⟨t, ⟨a, c, rfl, hr⟩, hx⟩
end Go.Proofs.Ytngldlconipnnaa

/- Walks: whether two lists of traces are the same. -/
namespace Go.Proofs.Ytngldlconipnnaa
open Go.RowKit Pth

set_option maxRecDepth 20000 in
set_option maxHeartbeats 4000000 in
theorem eqTraceS_any (l m : List TrT) (v u : Value) (w : World) (hr1 : RowT w v l) (hr2 : RowT w u m) (hl : l.length + totT l ≤ 2000000) :
    Calls Try.prog 25 #[v, u] w (BoolPost (decide (l = m)) w) := by
  obtain ⟨a, cap, rfl, hc1, hc2, hat⟩ := hr1.traces
  obtain ⟨a2, cap2, rfl, hc3, hc4, hat2⟩ := hr2.traces
  clear hr1 hr2
  unfold maxLen at hc2 hc4
  have HAT := Lib.hid hat
  have HAT2 := Lib.hid hat2
  clear hat hat2
  by_cases hlen : l.length = m.length
  · have hlen1 : ((l.length : Int) != (m.length : Int)) = false := by simp [hlen]
    have hle1 : l.length ≤ m.length := by omega
    have hle2 : m.length ≤ l.length := by omega
    clear hlen
    go_enter Try.func25, Try.ntmps25
    go_wp2_with fail
    go_loopw [5] (fun i wr => ∃ k : Nat, k ≤ l.length ∧ i = .int .i64 k ∧ Hid (l.take k = m.take k) ∧ Hid (Below w.heap.size w wr)) (fun i _ => l.length - (intOf i).toNat)
    case atStart => exact ⟨0, Nat.zero_le _, rfl, rfl, Below.refl _ _⟩
    case round =>
      obtain ⟨k, hk, rfl, HO, HB⟩ := hrel
      by_cases hlt : k < l.length
      · obtain ⟨g, o, b2, d2, rfl, hg, ⟨k0, k1, k2, k3⟩, hrk⟩ := HAT.out k hlt
        obtain ⟨g2, o2, b3, d3, rfl, hg2, ⟨m0, m1, m2, m3⟩, hrk2⟩ := HAT2.out k (by omega)
        have s0 := (HB.out.cell (p := ⟨g, o + k * 4, none⟩) hg).trans k0
        have s1 := (HB.out.cell (p := ⟨g, o + k * 4 + 1, none⟩) hg).trans k1
        have s2 := (HB.out.cell (p := ⟨g, o + k * 4 + 2, none⟩) hg).trans k2
        have s3 := (HB.out.cell (p := ⟨g, o + k * 4 + 3, none⟩) hg).trans k3
        have t0 := (HB.out.cell (p := ⟨g2, o2 + k * 4, none⟩) hg2).trans m0
        have t1 := (HB.out.cell (p := ⟨g2, o2 + k * 4 + 1, none⟩) hg2).trans m1
        have t2 := (HB.out.cell (p := ⟨g2, o2 + k * 4 + 2, none⟩) hg2).trans m2
        have t3 := (HB.out.cell (p := ⟨g2, o2 + k * 4 + 3, none⟩) hg2).trans m3
        have hi1 : (k : Int) < (l.length : Int) := by omega
        have hi2 : (k : Int) < (m.length : Int) := by omega
        have hbs := HB.out.size
        have hgw : g < wr.heap.size := by omega
        have hgw2 : g2 < wr.heap.size := by omega
        obtain ⟨b, hbE⟩ : ∃ b, decide (l[k] = m[k]) = b := ⟨_, rfl⟩
        have HC := Lib.hid (fun W (h : Below w.heap.size w W) => eqTrace_b ⟨b2, d2, rfl, hrk.below h⟩ ⟨b3, d3, rfl, hrk2.below h⟩ (by have := totT_at hlt; omega) hbE)
        have HS : Hid (if b then l.take (k + 1) = m.take (k + 1) else decide (l = m) = false) := by
          unfold Hid
          subst hbE
          by_cases he : l[k] = m[k]
          · simp only [he, decide_true, if_true]; exact same_next HO.out hlt (by omega) he
          · simp only [he, decide_false]; exact decide_eq_false (same_not hlt (by omega) he)
        clear HO hbE k0 k1 k2 k3 m0 m1 m2 m3 hrk hrk2
        generalize l[k] = x at *
        generalize m[k] = y at *
        obtain ⟨x1, xi, x2, x3⟩ := x
        obtain ⟨y1, yi, y2, y3⟩ := y
        unfold trV at HC
        simp only at s0 s1 s2 s3 t0 t1 t2 t3 HC
        generalize xi.length = n1 at *
        generalize yi.length = n2 at *
        have ks := And.intro (And.intro s0 (And.intro s1 (And.intro s2 s3))) (And.intro t0 (And.intro t1 (And.intro t2 t3)))
        go_wp2_with fail
        go_region_held3 (fun w' => (w'.cell? ⟨g, o + k * 4, none⟩ = some (.int .i64 x1) ∧ w'.cell? ⟨g, o + k * 4 + 1, none⟩ = some (.slice b2 n1 d2) ∧ w'.cell? ⟨g, o + k * 4 + 2, none⟩ = some (.string ⟨x2.toArray⟩) ∧ w'.cell? ⟨g, o + k * 4 + 3, none⟩ = some (.int .i64 x3)) ∧
            (w'.cell? ⟨g2, o2 + k * 4, none⟩ = some (.int .i64 y1) ∧ w'.cell? ⟨g2, o2 + k * 4 + 1, none⟩ = some (.slice b3 n2 d3) ∧ w'.cell? ⟨g2, o2 + k * 4 + 2, none⟩ = some (.string ⟨y2.toArray⟩) ∧ w'.cell? ⟨g2, o2 + k * 4 + 3, none⟩ = some (.int .i64 y3))) (first | exact ks | exact k0)
          (first | (go_at_call 81; refine (HC.out _ (Below.drew HB.out)).mono ?_; rintro e w5 ⟨rfl, hb5⟩
                    have k0 := And.intro (And.intro ((hb5.cell (p := ⟨g, o + k * 4, none⟩) hgw).trans s0) (And.intro ((hb5.cell (p := ⟨g, o + k * 4 + 1, none⟩) hgw).trans s1) (And.intro ((hb5.cell (p := ⟨g, o + k * 4 + 2, none⟩) hgw).trans s2) ((hb5.cell (p := ⟨g, o + k * 4 + 3, none⟩) hgw).trans s3))))
                      (And.intro ((hb5.cell (p := ⟨g2, o2 + k * 4, none⟩) hgw2).trans t0) (And.intro ((hb5.cell (p := ⟨g2, o2 + k * 4 + 1, none⟩) hgw2).trans t1) (And.intro ((hb5.cell (p := ⟨g2, o2 + k * 4 + 2, none⟩) hgw2).trans t2) ((hb5.cell (p := ⟨g2, o2 + k * 4 + 3, none⟩) hgw2).trans t3))))))
        have HB5 := Lib.hid (bth (Below.drew HB.out) hb5 (Nat.le_refl _))
        clear hb5 k0 ks
        rcases b with _ | _
        · go_wp2_with fail
          go_ret
          exact ⟨ret_bool (by have := HS.out; simpa using this.symm), HB5.out⟩
        · go_wp2_with fail
          go_roundw
          case rel => exact ⟨k + 1, by omega, by go_num, HS.out, HB5⟩
          case measure => simp [intOf]; omega
      · have HS : Hid (decide (l = m) = true) := decide_eq_true (same_all HO.out (by omega) (by omega))
        clear HO HAT HAT2
        go_wp2_with fail
        go_ret
        exact ⟨ret_bool HS.out.symm, HB.out⟩
  · have hlen1 : ((l.length : Int) != (m.length : Int)) = true := by simp; omega
    have HS : Hid (decide (l = m) = false) := decide_eq_false (fun h => hlen (by rw [h]))
    clear HAT HAT2
    go_enter Try.func25, Try.ntmps25
    go_wp2_with fail
    go_ret
    exact ⟨ret_bool HS.out.symm, Below.refl _ _⟩
end Go.Proofs.Ytngldlconipnnaa

/- Walks: the law that what is found is told alike, given contracts of both programs. -/
namespace Go.Proofs.Ytngldlconipnnaa
open Go.RowKit Pth

set_option maxRecDepth 20000 in
set_option maxHeartbeats 16000000 in
theorem exactFindTrace_of (ls : List (List Int)) (l : List Int) (bs : List Bool) (rs : List (List OpT)) (m1 : List TrT) (m2 : List (List UInt8)) (t : Int) (p : ResT) (G : Bool) (v u1 u2 : Value) (w : World) (hst : PlanV w v ls l bs rs) (hx : ∀ l ∈ rs, ∀ f ∈ l, f.2.2.length ≤ maxLen) (hm1 : RowT w u1 m1) (hx1 : ∀ t ∈ m1, HeldT maxLen t) (hm2 : RowV w u2 (S m2)) (hx2 : ∀ x ∈ m2, x.length ≤ maxLen)
    (hsp : ∀ W u y1 y2, PlanV W u ls l bs rs → RowT W y1 m1 → RowV W y2 (S m2) → Calls Try.prog 15 #[u, y1, .int .i64 t, y2] W (fun e w' => e = .returned (.tuple #[resV p, .bool G]) ∧ Below W.heap.size W w'))
    (him : ∀ W u y1 y2, PlanV W u ls l bs rs → RowT W y1 m1 → RowV W y2 (S m2) → Calls Try.prog 12 #[u, y1, .int .i64 t, y2] W (fun e w' => e = .returned (.tuple #[resV p, .bool G]) ∧ Below W.heap.size W w')) :
    Calls Try.prog 5 #[v, u1, .int .i64 t, u2] w (YesW w) := by
  have HST := Lib.hid hst
  have HSP := Lib.hid hsp
  have HIM := Lib.hid him
  clear hsp him
  obtain ⟨pb, ps⟩ := p
  unfold resV at HSP HIM
  simp only at HSP HIM
  obtain ⟨nv, ov, sv, rv, rfl, h1, h2, h3, h4⟩ := hst
  obtain ⟨as0, cs, rfl, hs1, hs2, _⟩ := h3.boolsW
  obtain ⟨an, cn, rfl, hn1, hn2, _⟩ := h1.lists
  obtain ⟨ao, co, rfl, ho1, ho2, _⟩ := h2.ints
  obtain ⟨ar, cr, rfl, hr1, hr2, _⟩ := h4.lists
  clear h1 h2 h3 h4
  have HM1 := Lib.hid hm1
  have HX1 := Lib.hid hx1
  obtain ⟨ma1, mc1, rfl, hma1, hmb1, _⟩ := hm1.traces
  clear hm1 hx1
  have HM2 := Lib.hid hm2
  have HX2 := Lib.hid hx2
  obtain ⟨ma2, mc2, rfl, hma2, hmb2, _⟩ := hm2.texts
  clear hm2 hx2
  unfold maxLen at hs2 hn2 ho2 hr2 hmb1 hmb2
  obtain ⟨wa, hwa⟩ : ∃ wa, wa = w.alloc (.cells #[.slice an ls.length cn, .slice ao l.length co, .slice as0 bs.length cs, .slice ar rs.length cr] 55) := ⟨_, rfl⟩
  have hsz : wa.heap.size = w.heap.size + 1 := by rw [hwa]; simp
  have P0 : Hid (Blk4 wa w.heap.size 55 (.slice an ls.length cn) (.slice ao l.length co) (.slice as0 bs.length cs) (.slice ar rs.length cr)) := by rw [hwa]; exact Blk4.new
  have HA : Hid (Below w.heap.size w wa) := by rw [hwa]; exact (Below.refl w.heap.size w).alloc (Nat.le_refl _) _
  have hlt0 : w.heap.size < wa.heap.size := by omega
  obtain ⟨c0, c1, c2, c3⟩ := P0.out.cells
  have HWA := Lib.hid hwa
  have HS := Lib.hid (szPlan_any ls l bs rs 1048576 _ wa (HST.out.below HA.out) hx (by omega))
  have HPV : Hid (∀ W, Below wa.heap.size wa W → PlanV W (.agg #[.slice an ls.length cn, .slice ao l.length co, .slice as0 bs.length cs, .slice ar rs.length cr]) ls l bs rs) := fun W h => HST.out.below (bth HA.out h (Nat.le_refl _))
  have HMV1 : Hid (∀ W, Below wa.heap.size wa W → RowT W (.slice ma1 m1.length mc1) m1) := fun W h => HM1.out.below (bth HA.out h (Nat.le_refl _))
  have HMV2 : Hid (∀ W, Below wa.heap.size wa W → RowV W (.slice ma2 m2.length mc2) (S m2)) := fun W h => HM2.out.below (bth HA.out h (Nat.le_refl _))
  clear hwa hx
  go_enter Try.func5, Try.ntmps5
  go_wp2_with fail
  rw [← HWA.out]
  refine HS.out.mono ?_
  rintro e w1 ⟨r0, rfl, hle0, hr0, hb1⟩
  have K0 := Lib.hid hb1
  clear hb1 HS c0 c1 c2 c3
  by_cases h0 : r0 < 0
  · clear hr0 hle0
    go_wp2_with fail
    go_ret
    exact ⟨rfl, bth HA.out K0.out (Nat.le_refl _)⟩
  have hz : planZ ls l bs rs ≤ 1100000 := by have := hr0 (by omega); omega
  have hz2 : planZ ls l bs rs ≤ 2000000 := by omega
  obtain ⟨n0, rfl⟩ : ∃ n0 : Nat, r0 = n0 := ⟨r0.toNat, by omega⟩
  have hn0 : n0 ≤ 2000000 := by omega
  clear hr0
  go_wp2_with fail
  refine (szTraceS_any m1 n0 _ w1 (HMV1.out w1 K0.out) HX1.out hn0).mono ?_
  rintro e x1 ⟨r1, rfl, hle1, hr1, hb1⟩
  have KX1 := Lib.hid (bth K0.out hb1 (Nat.le_refl _))
  clear hb1
  by_cases hc1 : r1 < 0
  · clear hr1
    go_wp2_with fail
    go_ret
    exact ⟨rfl, bth HA.out KX1.out (Nat.le_refl _)⟩
  have hml1 : m1.length + totT m1 ≤ 1100000 := by have := (hr1 (by omega)).1; omega
  clear hr1
  obtain ⟨n1, rfl⟩ : ∃ n1 : Nat, r1 = n1 := ⟨r1.toNat, by omega⟩
  have hn1 : n1 ≤ 2000000 := by omega
  go_wp2_with fail
  refine (szStringS_any m2 n1 _ x1 (HMV2.out x1 KX1.out) HX2.out hn1).mono ?_
  rintro e x2 ⟨r2, rfl, hr2, hw2⟩
  obtain rfl := hw2
  have KX2 := KX1
  by_cases hc2 : r2 < 0
  · clear hr2
    go_wp2_with fail
    go_ret
    exact ⟨rfl, bth HA.out KX2.out (Nat.le_refl _)⟩
  have hml2 : m2.length ≤ 1100000 := by have := (hr2 (by omega)).1; omega
  clear hr2
  obtain ⟨c0, c1, c2, c3⟩ := (P0.out.below KX2.out hlt0).cells
  have HTO := Lib.hid (fun W (hb : PlanV W _ ls l bs rs) => toPlan_any ls l bs rs (.agg #[.slice an ls.length cn, .slice ao l.length co, .slice as0 bs.length cs, .slice ar rs.length cr]) W hb hz2)
  have HTI1 := Lib.hid (fun W (hb : RowT W _ m1) => toTraceS_any m1 (.slice ma1 m1.length mc1) W hb (by omega))
  have HEI1 : Hid (∀ W x y, RowT W x m1 → RowT W y m1 → Calls Try.prog 25 #[x, y] W fun e w' => e = .returned (.bool true) ∧ Below W.heap.size W w') := fun W x y h1 h2 => by
    have := eqTraceS_any m1 m1 x y W h1 h2 (by omega)
    rwa [decide_eq_true (rfl : m1 = m1)] at this
  have HTI2 := Lib.hid (fun W (hb : RowV W _ (S m2)) => toStringS_any m2 (.slice ma2 m2.length mc2) W hb (by omega))
  have HEI2 : Hid (∀ W x y, RowV W x (S m2) → RowV W y (S m2) → Calls Try.prog 29 #[x, y] W fun e w' => e = .returned (.bool true) ∧ Below W.heap.size W w') := fun W x y h1 h2 => by
    have := eqStringS_any m2 m2 x y W h1 h2 (by omega)
    rwa [decide_eq_true (rfl : m2 = m2)] at this
  have HE : Hid (∀ W x y, PlanV W x ls l bs rs → PlanV W y ls l bs rs → Calls Try.prog 24 #[x, y] W fun e w' => e = .returned (.bool true) ∧ Below W.heap.size W w') := fun W x y h1 h2 => eqPlan_same ls l bs rs x y W h1 h2 hz2
  have hne : (G != G) = false := by cases G <;> rfl
  -- the reference's answer
  go_wp2_with fail
  refine (HTO.out x1 (HPV.out x1 KX2.out)).mono ?_
  rintro e w2 ⟨v2, rfl, ho2', hb2⟩
  have K2 := Lib.hid (bth KX2.out hb2 (Nat.le_refl _))
  have HG2 := Lib.hid ho2'.view
  clear hb2 ho2' c0 c1 c2 c3
  go_wp2_with fail
  refine (HTI1.out w2 (HMV1.out w2 K2.out)).mono ?_
  rintro e p1 ⟨y1, spl1, rfl, hoy1, hbp1⟩
  replace hoy1 := hoy1.view
  have KP1 := Lib.hid (bth K2.out hbp1 (Nat.le_refl _))
  have HGP1 := Lib.hid (HG2.out.below hbp1)
  have HYP1_1 := Lib.hid (id hoy1)
  clear hoy1 hbp1
  go_wp2_with fail
  refine (HTI2.out p1 (HMV2.out p1 KP1.out)).mono ?_
  rintro e p2 ⟨y2, rfl, hoy2, hbp2⟩
  have KP2 := Lib.hid (bth KP1.out hbp2 (Nat.le_refl _))
  have HGP2 := Lib.hid (HGP1.out.below hbp2)
  have HYP1_2 := Lib.hid (HYP1_1.out.below hbp2)
  have HYP2_2 := Lib.hid (RowV.of_own hoy2)
  clear hoy2 hbp2
  go_wp2_with fail
  refine (HSP.out p2 v2 y1 y2 HGP2.out HYP1_2.out HYP2_2.out).mono ?_
  rintro e w3 ⟨rfl, hb3⟩
  have K3 := Lib.hid (bth KP2.out hb3 (Nat.le_refl _))
  clear hb3
  obtain ⟨w3b, hw3b⟩ : ∃ w3b, w3b = w3.alloc (.cells #[.string ⟨pb.toArray⟩, .int .i64 ps] 34) := ⟨_, rfl⟩
  have R3 : Hid (Blk2 w3b w3.heap.size 34 (.string ⟨pb.toArray⟩) (.int .i64 ps)) := by rw [hw3b]; exact Blk2.new
  have hAw3 : Below w3.heap.size w3 w3b := by rw [hw3b]; exact (Below.refl w3.heap.size w3).alloc (Nat.le_refl _) _
  have hsw3 : w3b.heap.size = w3.heap.size + 1 := by rw [hw3b]; simp
  have Hw3 : Hid (w3.alloc (.cells #[.string ⟨pb.toArray⟩, .int .i64 ps] 34) = w3b) := by rw [hw3b]; rfl
  have KB3 := Lib.hid (bth K3.out hAw3 (Nat.le_refl _))
  have hlt3 : w.heap.size < w3.heap.size := by have := K3.out.size; omega
  clear hAw3 hw3b
  obtain ⟨c0, c1, c2, c3⟩ := (P0.out.below K3.out hlt0).cells
  -- copies of the arguments
  go_wp2_with fail
  rw [Hw3.out]
  refine (HTO.out w3b (HPV.out w3b KB3.out)).mono ?_
  rintro e w4 ⟨v4, rfl, ho4, hb4⟩
  have s34 := hb4.size
  have HO4 := Lib.hid ho4
  obtain ⟨bn, dn, bo, do', bb, db, br, dr, rfl⟩ := ho4.slices
  obtain ⟨wb, hwb⟩ : ∃ wb, wb = w4.alloc (.cells #[.slice bn ls.length dn, .slice bo l.length do', .slice bb bs.length db, .slice br rs.length dr] 30) := ⟨_, rfl⟩
  have X4 : Hid (Blk4 wb w4.heap.size 30 (.slice bn ls.length dn) (.slice bo l.length do') (.slice bb bs.length db) (.slice br rs.length dr)) := by rw [hwb]; exact Blk4.new
  have hAB : Below w4.heap.size w4 wb := by rw [hwb]; exact (Below.refl w4.heap.size w4).alloc (Nat.le_refl _) _
  have hsb : wb.heap.size = w4.heap.size + 1 := by rw [hwb]; simp
  have D4 := Lib.hid (Below.refl wb.heap.size wb)
  have A4 := Lib.hid (bth hb4 hAB (Nat.le_refl _))
  have E4 := Lib.hid hAB
  have KW4 := Lib.hid (bth (bth KB3.out hb4 (Nat.le_refl _)) hAB (Nat.le_refl _))
  have HWB := Lib.hid hwb
  clear hb4 ho4 c0 c1 c2 c3 hwb hAB
  go_wp2_with fail
  rw [← HWB.out]

  refine (HTI1.out wb (HMV1.out wb KW4.out)).mono ?_
  rintro e q1 ⟨x1, sql1, rfl, hox1, hbq1⟩
  replace hox1 := hox1.view
  have sq1 := hbq1.size
  have EQ1 := Lib.hid (bth E4.out hbq1 (Nat.le_refl _))
  have DQ1 := Lib.hid (bth D4.out hbq1 (Nat.le_refl _))
  have KQ1 := Lib.hid (bth KW4.out hbq1 (Nat.le_refl _))
  have AQ1 := Lib.hid (bth A4.out hbq1 (Nat.le_refl _))
  have HX1_1 := Lib.hid hox1
  clear hox1 hbq1
  go_wp2_with fail
  refine (HTI2.out q1 (HMV2.out q1 KQ1.out)).mono ?_
  rintro e q2 ⟨x2, rfl, hox2, hbq2⟩
  have sq2 := hbq2.size
  have EQ2 := Lib.hid (bth EQ1.out hbq2 (Nat.le_refl _))
  have DQ2 := Lib.hid (bth DQ1.out hbq2 (Nat.le_refl _))
  have KQ2 := Lib.hid (bth KQ1.out hbq2 (Nat.le_refl _))
  have AQ2 := Lib.hid (bth AQ1.out hbq2 (Nat.le_refl _))
  have HX1_2 := Lib.hid (RowT.below HX1_1.out hbq2)
  have HX2_2 := Lib.hid hox2
  clear hox2 hbq2
  obtain ⟨x00, x01, x02, x03⟩ := (X4.out.below DQ2.out (by omega)).cells
  -- the program's answer
  go_wp2_with fail
  refine (HIM.out q2 _ x1 x2 (HO4.out.view.below EQ2.out) (id HX1_2.out) (RowV.of_own HX2_2.out)).mono ?_
  rintro e w6 ⟨rfl, hb6⟩
  have s6 := hb6.size
  have E6 := Lib.hid (bth EQ2.out hb6 (Nat.le_refl _))
  have D6 := Lib.hid (bth DQ2.out hb6 (Nat.le_refl _))
  have K6 := Lib.hid (bth KQ2.out hb6 (Nat.le_refl _))
  have HX1_6 := Lib.hid (RowT.below HX1_2.out hb6)
  have HX2_6 := Lib.hid (own_below HX2_2.out hb6)
  have A6 := Lib.hid (bth AQ2.out hb6 (Nat.le_refl _))
  clear hb6 x00 x01 x02 x03
  obtain ⟨w6b, hw6b⟩ : ∃ w6b, w6b = w6.alloc (.cells #[.string ⟨pb.toArray⟩, .int .i64 ps] 34) := ⟨_, rfl⟩
  have R6 : Hid (Blk2 w6b w6.heap.size 34 (.string ⟨pb.toArray⟩) (.int .i64 ps)) := by rw [hw6b]; exact Blk2.new
  have hAw6 : Below w6.heap.size w6 w6b := by rw [hw6b]; exact (Below.refl w6.heap.size w6).alloc (Nat.le_refl _) _
  have hsw6 : w6b.heap.size = w6.heap.size + 1 := by rw [hw6b]; simp
  have Hw6 : Hid (w6.alloc (.cells #[.string ⟨pb.toArray⟩, .int .i64 ps] 34) = w6b) := by rw [hw6b]; rfl
  have hR36 := R3.out.below A6.out (by omega)
  obtain ⟨r30, r31⟩ := hR36.cells
  have hlt36 : w3.heap.size < w6.heap.size := by omega
  have E6b := Lib.hid (bth E6.out hAw6 (Nat.le_refl _))
  have D6b := Lib.hid (bth D6.out hAw6 (Nat.le_refl _))
  have K6b := Lib.hid (bth K6.out hAw6 (Nat.le_refl _))
  have HX1_6b := Lib.hid (HX1_6.out.below hAw6)
  have HX2_6b := Lib.hid (own_below HX2_6.out hAw6)
  clear hAw6 hw6b hR36
  go_wp2_with fail
  rw [Hw6.out]
  have hee : decide (((pb, ps) : ResT) = (pb, ps)) = true := by simp
  have HEE := eqResult_b hee w6b
  unfold resV at HEE
  simp only at HEE
  refine HEE.mono ?_
  rintro e w7 ⟨rfl, hb7⟩
  have s7 := hb7.size
  have E7 := Lib.hid (bth E6b.out hb7 (Nat.le_refl _))
  have D7 := Lib.hid (bth D6b.out hb7 (Nat.le_refl _))
  have K7 := Lib.hid (bth K6b.out hb7 (Nat.le_refl _))
  have HX1_7 := Lib.hid (HX1_6b.out.below hb7)
  have HX2_7 := Lib.hid (own_below HX2_6b.out hb7)
  clear hb7 r30 r31 hee HEE
  have hlt7 : w.heap.size < w7.heap.size := by omega
  have hlt8 : w4.heap.size < w7.heap.size := by omega
  have PD : Hid (Blk4 w7.drew w.heap.size 55 (.slice an ls.length cn) (.slice ao l.length co) (.slice as0 bs.length cs) (.slice ar rs.length cr)) := P0.out.below (Below.drew K7.out) hlt0
  have XD : Hid (Blk4 w7.drew w4.heap.size 30 (.slice bn ls.length dn) (.slice bo l.length do') (.slice bb bs.length db) (.slice br rs.length dr)) := X4.out.below (Below.drew D7.out) (by omega)
  have ks := And.intro PD.out.cells XD.out.cells
  have HX7 : Hid (PlanV w7.drew (.agg #[.slice bn ls.length dn, .slice bo l.length do', .slice bb bs.length db, .slice br rs.length dr]) ls l bs rs) := HO4.out.view.below (Below.drew E7.out)
  have HST7 : Hid (PlanV w7.drew (.agg #[.slice an ls.length cn, .slice ao l.length co, .slice as0 bs.length cs, .slice ar rs.length cr]) ls l bs rs) := HPV.out w7.drew (Below.drew K7.out)
  go_wp2_with fail
  -- the copy is as it was
  go_region_held3 (fun w' => (w'.cell? ⟨w.heap.size, 0, none⟩ = some (.slice an ls.length cn) ∧ w'.cell? ⟨w.heap.size, 1, none⟩ = some (.slice ao l.length co) ∧ w'.cell? ⟨w.heap.size, 2, none⟩ = some (.slice as0 bs.length cs) ∧ w'.cell? ⟨w.heap.size, 3, none⟩ = some (.slice ar rs.length cr)) ∧ (w'.cell? ⟨w4.heap.size, 0, none⟩ = some (.slice bn ls.length dn) ∧ w'.cell? ⟨w4.heap.size, 1, none⟩ = some (.slice bo l.length do') ∧ w'.cell? ⟨w4.heap.size, 2, none⟩ = some (.slice bb bs.length db) ∧ w'.cell? ⟨w4.heap.size, 3, none⟩ = some (.slice br rs.length dr))) (first | exact ks)
    (first
      | (go_at_call 22; refine (HTO.out _ (by exact HST7.out)).mono ?_; rintro e w7y ⟨v7, rfl, ho7, hb7⟩
         have ks := And.intro (PD.out.below hb7 hlt7).cells (XD.out.below hb7 hlt8).cells
         have HO7 := Lib.hid ho7.view
         have HXB := Lib.hid (PlanV.below (by exact HX7.out) hb7)
         have C7 := Lib.hid hb7
         clear ho7 hb7)
      | (go_at_call 24; refine (HE.out _ _ _ (by exact HXB.out) (by exact HO7.out)).mono ?_; rintro e w8 ⟨rfl, hb8⟩
         have C8 := Lib.hid (bth C7.out hb8 (Nat.le_refl _))
         have ks := And.intro (PD.out.below C8.out hlt7).cells (XD.out.below C8.out hlt8).cells
         clear hb8))
  all_goals
    have K8 := Lib.hid (bth (Below.drew K7.out) C8.out (Nat.le_refl _))
    have HX1_8 := Lib.hid (RowT.below (w := w7.drew) (show RowT w7.drew _ _ from HX1_7.out) C8.out)
    have HX2_8 := Lib.hid (own_below (w := w7.drew) (show w7.drew.ownsRow q1.heap.size 9 1 _ _ _ from HX2_7.out) C8.out)
    clear ks PD XD HX7 HST7 HO7 HXB C7 C8
    go_wp2_with fail
    refine (HTI1.out w8 (HMV1.out w8 K8.out)).mono ?_
    rintro e r1 ⟨z1, srl1, rfl, hoz1, hbr1⟩
    replace hoz1 := hoz1.view
    have KR1 := Lib.hid (bth K8.out hbr1 (Nat.le_refl _))
    have HZ1 := Lib.hid (id hoz1)
    have HX1_R1 := Lib.hid (RowT.below HX1_8.out hbr1)
    have HX2_R1 := Lib.hid (own_below HX2_8.out hbr1)
    clear hoz1 hbr1
    go_wp2_with fail
    refine (HEI1.out r1 _ _ (id HX1_R1.out) HZ1.out).mono ?_
    rintro e s1 ⟨rfl, hbs1⟩
    have KS1 := Lib.hid (bth KR1.out hbs1 (Nat.le_refl _))
    have HX1_S1 := Lib.hid (RowT.below HX1_R1.out hbs1)
    have HX2_S1 := Lib.hid (own_below HX2_R1.out hbs1)
    clear hbs1 HZ1
    go_wp2_with fail
    refine (HTI2.out s1 (HMV2.out s1 KS1.out)).mono ?_
    rintro e r2 ⟨z2, rfl, hoz2, hbr2⟩
    have KR2 := Lib.hid (bth KS1.out hbr2 (Nat.le_refl _))
    have HZ2 := Lib.hid (RowV.of_own hoz2)
    have HX1_R2 := Lib.hid (RowT.below HX1_S1.out hbr2)
    have HX2_R2 := Lib.hid (own_below HX2_S1.out hbr2)
    clear hoz2 hbr2
    go_wp2_with fail
    refine (HEI2.out r2 _ _ (RowV.of_own HX2_R2.out) HZ2.out).mono ?_
    rintro e s2 ⟨rfl, hbs2⟩
    have KS2 := Lib.hid (bth KR2.out hbs2 (Nat.le_refl _))
    have HX1_S2 := Lib.hid (RowT.below HX1_R2.out hbs2)
    have HX2_S2 := Lib.hid (own_below HX2_R2.out hbs2)
    clear hbs2 HZ2
    go_wp2_with fail
    go_ret
    exact ⟨rfl, bth HA.out KS2.out (Nat.le_refl _)⟩

end Go.Proofs.Ytngldlconipnnaa

/- Walks: what is found among traces, of both. -/
namespace Go.Proofs.Ytngldlconipnnaa
open Go.RowKit Pth

theorem set_ne9 (W : World) {g b i j : Nat} (u : Value) (h : b ≠ g) : (W.setCell ⟨g, i, none⟩ u).cell? ⟨b, j, none⟩ = W.cell? ⟨b, j, none⟩ := World.cell?_of_block (w := W) (a := ⟨b, j, none⟩) (Below.heap_setCell W _ u b (by show b ≠ g; exact h))

set_option maxRecDepth 20000 in
set_option maxHeartbeats 8000000 in
theorem ownRes_any (o : ResT) (w : World) (hx : o.1.length ≤ 1000) :
    Calls Try.prog 104 #[resV o] w fun e w' => e = .returned (resV o) ∧ Below w.heap.size w w' := by
  obtain ⟨t, n⟩ := o
  unfold resV
  simp only at hx ⊢
  obtain ⟨wp, hwp⟩ : ∃ wp, wp = w.alloc (.cells #[.string ⟨t.toArray⟩, .int .i64 n] 34) := ⟨_, rfl⟩
  obtain ⟨wa, hwa⟩ : ∃ wa, wa = wp.alloc (.cells #[.string ⟨#[]⟩, .int .i64 0] 34) := ⟨_, rfl⟩
  have ep : wp.heap.size = w.heap.size + 1 := by rw [hwp]; simp
  have ea : wa.heap.size = w.heap.size + 2 := by rw [hwa]; simp [ep]
  have Q0 : Hid (Blk2 wa.drew w.heap.size 34 (.string ⟨t.toArray⟩) (.int .i64 n)) := by show Blk2 wa _ _ _ _; rw [hwa, hwp]; exact Blk2.new.old _
  have R0 : Hid (Blk2 wa.drew (w.heap.size + 1) 34 (.string ⟨#[]⟩) (.int .i64 0)) := by show Blk2 wa _ _ _ _; rw [hwa, ← ep]; exact Blk2.new
  have HA : Hid (Below w.heap.size w wa.drew) := by
    have : Below w.heap.size w wa := by rw [hwa, hwp]; exact ((Below.refl w.heap.size w).alloc (Nat.le_refl _) _).alloc (by simp) _
    exact Below.drew this
  have HWA : Hid ((w.alloc (.cells #[.string ⟨t.toArray⟩, .int .i64 n] 34)).alloc (.cells #[.string ⟨#[]⟩, .int .i64 0] 34) = wa) := by rw [hwa, hwp]; rfl
  have hsz : wa.drew.heap.size = w.heap.size + 2 := ea
  have HC := Lib.hid (clone_any t wa.drew hx)
  have ks := Q0.out.cells
  have hne : w.heap.size ≠ w.heap.size + 1 := by omega
  have hl0 : w.heap.size < wa.drew.heap.size := by omega
  have hl1 : w.heap.size + 1 < wa.drew.heap.size := by omega
  clear hwa hwp ep ea
  go_enter Try.func104, Try.ntmps104
  go_wp2_with fail
  rw [HWA.out]
  go_region_held3 (fun w' => w'.cell? ⟨w.heap.size, 0, none⟩ = some (.string ⟨t.toArray⟩) ∧ w'.cell? ⟨w.heap.size, 1, none⟩ = some (.int .i64 n)) (first | exact ks | (rw [set_ne9 _ _ hne, set_ne9 _ _ hne, set_ne9 _ _ hne, set_ne9 _ _ hne]; exact ks))
    (first
      | (go_at_call 138; refine HC.out.mono ?_; rintro e w7 ⟨rfl, hb7⟩
         have ks := (Q0.out.below hb7 hl0).cells
         have R7 := Lib.hid (R0.out.below hb7 hl1)
         obtain ⟨f0, f1⟩ := R7.out.cells
         have g0 := R7.out.soft 0
         have g1 := R7.out.soft 1
         have HB7 := Lib.hid (bth HA.out hb7 (Nat.le_refl _))
         clear hb7))
  all_goals
    clear ks
    have hZ := (R7.out.set0 (.string ⟨t.toArray⟩)).set1 (.int .i64 n)
    go_wp2_with fail
    refine bodyPost_ret (results_cellR rfl rfl (load_res hZ.cells.1 hZ.cells.2)) rfl ?_
    exact ⟨rfl, (HB7.out.setCell (p := ⟨w.heap.size + 1, 0, none⟩) (by show _ ≤ _ + 1; omega) _).setCell (p := ⟨w.heap.size + 1, 1, none⟩) (by show _ ≤ _ + 1; omega) _⟩
/-- What is found, and whether it is. -/
def OutPost (x : Option ResT) (w : World) (e : Ending) (w' : World) : Prop := e = .returned (.tuple #[resV (resO x), .bool x.isSome]) ∧ Below w.heap.size w w'

set_option maxRecDepth 20000 in
set_option maxHeartbeats 8000000 in
theorem outOf_any (T : List TrT) (t : Int) (ins : List (List UInt8)) (v x : Value) (w : World) (hT : RowT w v T) (hr : RowV w x (S ins)) (h10 : ins.length ≤ 10) (hs : SameLen T t ins.length) (hsh : ShortT T) :
    Calls Try.prog 56 #[v, .int .i64 t, x] w (OutPost (foundT T t ins) w) := by
  have HT := Lib.hid hT
  have HR := Lib.hid hr
  obtain ⟨a, cap, rfl, hc1, hc2, hat⟩ := hT.traces
  obtain ⟨ai, ci, rfl, hi1, hi2, _⟩ := hr.texts
  unfold maxLen at hc2 hi2
  have HAT := Lib.hid hat
  obtain ⟨wa, hwa⟩ : ∃ wa, wa = w.alloc (.cells #[.string ⟨#[]⟩, .int .i64 0] 34) := ⟨_, rfl⟩
  have hsz : w.heap.size < wa.heap.size := by rw [hwa]; simp
  have R0 : Hid (Blk2 wa w.heap.size 34 (.string ⟨#[]⟩) (.int .i64 0)) := by rw [hwa]; exact Blk2.new
  have HA : Hid (Below w.heap.size w wa) := by rw [hwa]; exact (Below.refl w.heap.size w).alloc (Nat.le_refl _) _
  have HWA : Hid (w.alloc (.cells #[.string ⟨#[]⟩, .int .i64 0] 34) = wa) := by rw [hwa]; rfl
  have HC := Lib.hid (placeOf_any T t ins _ _ wa (HT.out.below HA.out) (HR.out.below HA.out) h10 hs)
  have HSH := Lib.hid hsh
  clear hwa hT hr hat hs hsh
  obtain ⟨f, hf⟩ : ∃ f, findT T t ins = f := ⟨_, rfl⟩
  have HF := Lib.hid hf
  rcases f with _ | k
  · have HE : Hid (foundT T t ins = none) := by show _ = _; unfold foundT; rw [hf]; rfl
    have HK : Hid (findK T t ins = -1) := by show _ = _; unfold findK; rw [hf]
    rw [HK.out] at HC
    rw [HE.out]
    clear hf
    go_enter Try.func56, Try.ntmps56
    go_wp2_with fail
    rw [HWA.out]
    refine HC.out.mono ?_
    rintro e w1 ⟨rfl, hb1⟩
    have HB1 := Lib.hid (bth HA.out hb1 (Nat.le_refl _))
    have R1 := Lib.hid (R0.out.below hb1 hsz)
    obtain ⟨f0, f1⟩ := R1.out.cells
    have g0 := R1.out.soft 0
    have g1 := R1.out.soft 1
    clear hb1 HC
    go_wp2_with fail
    have hZ := (R1.out.set0 (.string ByteArray.empty)).set1 (.int .i64 0)
    refine bodyPost_ret (results_cell2 rfl rfl (load_res hZ.cells.1 hZ.cells.2)) rfl ?_
    exact ⟨by rfl, (HB1.out.setCell (p := ⟨w.heap.size, 0, none⟩) (Nat.le_refl _) _).setCell (p := ⟨w.heap.size, 1, none⟩) (Nat.le_refl _) _⟩
  · have hk := findT_lt hf
    have HE : Hid (foundT T t ins = some T[k].2.2) := by show _ = _; unfold foundT; rw [hf, Option.map_some, getD_at _ hk]
    have HK : Hid (findK T t ins = (k : Int)) := by show _ = _; unfold findK; rw [hf]
    rw [HK.out] at HC
    rw [HE.out]
    obtain ⟨g, o, a2, c2, rfl, hg, ⟨k0, k1, k2, k3⟩, hrk⟩ := HAT.out k hk
    have hlen := (HSH.out _ (List.getElem_mem hk)).2.2
    have HCL := Lib.hid (fun W => ownRes_any T[k].2.2 W (by omega))
    have hkz : (k : Int) < (T.length : Int) := by omega
    clear hf k0 k1 hrk HAT hlen
    generalize T[k].2.2 = z at *
    obtain ⟨z1, z2⟩ := z
    unfold resV at HCL
    simp only at k2 k3 HCL
    go_enter Try.func56, Try.ntmps56
    go_wp2_with fail
    rw [HWA.out]
    refine HC.out.mono ?_
    rintro e w1 ⟨rfl, hb1⟩
    have HB1 := Lib.hid (bth HA.out hb1 (Nat.le_refl _))
    have R1 := Lib.hid (R0.out.below hb1 hsz)
    have s2 := (HB1.out.cell (p := ⟨g, o + k * 4 + 2, none⟩) hg).trans k2
    have s3 := (HB1.out.cell (p := ⟨g, o + k * 4 + 3, none⟩) hg).trans k3
    have hsz1 : w.heap.size < w1.heap.size := Nat.lt_of_lt_of_le hsz hb1.size
    clear hb1 HC k2 k3
    go_wp2_with fail
    refine (HCL.out _).mono ?_
    rintro e w2 ⟨rfl, hb2⟩
    have HB2 := Lib.hid (bth HB1.out hb2 (Nat.le_refl _))
    have R2 := Lib.hid (R1.out.below hb2 hsz1)
    obtain ⟨f0, f1⟩ := R2.out.cells
    have g0 := R2.out.soft 0
    have g1 := R2.out.soft 1
    clear hb2 HCL s2 s3
    go_wp2_with fail
    have hZ := (R2.out.set0 (.string ⟨z1.toArray⟩)).set1 (.int .i64 z2)
    refine bodyPost_ret (results_cell2 rfl rfl (load_res hZ.cells.1 hZ.cells.2)) rfl ?_
    exact ⟨by rfl, (HB2.out.setCell (p := ⟨w.heap.size, 0, none⟩) (Nat.le_refl _) _).setCell (p := ⟨w.heap.size, 1, none⟩) (Nat.le_refl _) _⟩

set_option maxRecDepth 20000 in
set_option maxHeartbeats 8000000 in
theorem specFind9_any (ls : List (List Int)) (l : List Int) (bs : List Bool) (rs : List (List OpT)) (T : List TrT) (t : Int) (ins : List (List UInt8)) (v x y : Value) (w : World) (hp : PlanV w v ls l bs rs) (hT : RowT w x T) (hi : RowV w y (S ins)) (hx : ∀ l ∈ rs, ∀ f ∈ l, f.2.2.length ≤ maxLen) (hxT : ∀ t ∈ T, HeldT maxLen t) (hxi : ∀ z ∈ ins, z.length ≤ maxLen) :
    Calls Try.prog 15 #[v, x, .int .i64 t, y] w (OutPost (foundA ls l bs rs T t ins) w) := by
  have HV := Lib.hid hp
  obtain ⟨nv, ov, sv, rv, rfl, h1, h2, h3, h4⟩ := hp
  obtain ⟨as0, cs, rfl, hs1, hs2, hats⟩ := h3.boolsW
  obtain ⟨an, cn, rfl, hn1, hn2, hatn⟩ := h1.lists
  obtain ⟨ao, co, rfl, ho1, ho2, hato⟩ := h2.ints
  obtain ⟨ar, cr, rfl, hr1, hr2, hatr⟩ := h4.lists
  clear h1 h2 h3 h4
  unfold maxLen at hs2 hn2 ho2 hr2
  obtain ⟨wa, hwa⟩ : ∃ wa, wa = w.alloc (.cells #[.slice an ls.length cn, .slice ao l.length co, .slice as0 bs.length cs, .slice ar rs.length cr] 30) := ⟨_, rfl⟩
  have hsz : w.heap.size < wa.heap.size := by rw [hwa]; simp
  have P0 : Hid (Blk4 wa w.heap.size 30 (.slice an ls.length cn) (.slice ao l.length co) (.slice as0 bs.length cs) (.slice ar rs.length cr)) := by rw [hwa]; exact Blk4.new
  have HA : Hid (Below w.heap.size w wa) := by rw [hwa]; exact (Below.refl w.heap.size w).alloc (Nat.le_refl _) _
  have HWA : Hid (w.alloc (.cells #[.slice an ls.length cn, .slice ao l.length co, .slice as0 bs.length cs, .slice ar rs.length cr] 30) = wa) := by rw [hwa]; rfl
  have HVW : Hid (∀ W, Below wa.heap.size wa W → PlanV W (.agg #[.slice an ls.length cn, .slice ao l.length co, .slice as0 bs.length cs, .slice ar rs.length cr]) ls l bs rs) := fun W h => HV.out.below (bth HA.out h (Nat.le_refl _))
  clear hwa
  have HTR := Lib.hid hT
  have HR := Lib.hid hi
  obtain ⟨a, cap, rfl, hc1, hc2, hat⟩ := hT.traces
  obtain ⟨ai, ci, rfl, hi1, hi2, _⟩ := hi.texts
  unfold maxLen at hc2 hi2
  have HAT := Lib.hid hat
  obtain ⟨wb, hwb⟩ : ∃ wb, wb = wa.alloc (.cells #[.string ⟨#[]⟩, .int .i64 0] 34) := ⟨_, rfl⟩
  have hAB : Below wa.heap.size wa wb := by rw [hwb]; exact (Below.refl wa.heap.size wa).alloc (Nat.le_refl _) _
  have ea : wa.heap.size = w.heap.size + 1 := by rw [← HWA.out]; simp
  have hsb : wb.heap.size = w.heap.size + 2 := by rw [hwb]; simp [ea]
  have R0 : Hid (Blk2 wb (w.heap.size + 1) 34 (.string ⟨#[]⟩) (.int .i64 0)) := by rw [hwb, ← ea]; exact Blk2.new
  have PB := Lib.hid (P0.out.below hAB hsz)
  have HWB : Hid ((w.alloc (.cells #[.slice an ls.length cn, .slice ao l.length co, .slice as0 bs.length cs, .slice ar rs.length cr] 30)).alloc (.cells #[.string ⟨#[]⟩, .int .i64 0] 34) = wb) := by rw [HWA.out, hwb]; rfl
  have HW := Lib.hid (bth HA.out hAB (Nat.le_refl _))
  have hlp : w.heap.size < wb.heap.size := by omega
  have hlr : w.heap.size + 1 < wb.heap.size := by omega
  obtain ⟨b, hb⟩ : ∃ b, goodT ls l bs rs T = b := ⟨_, rfl⟩
  obtain ⟨d, hd⟩ : ∃ d, insOk ls bs t ins = d := ⟨_, rfl⟩
  have HC := Lib.hid (specGood9_b hb _ _ wb (HV.out.below HW.out) (HTR.out.below HW.out) hx hxT)
  have HFA : Hid (foundA ls l bs rs T t ins = if b && d then foundT T t ins else none) := by show _ = _; unfold foundA; rw [hb, hd]
  have HXI := Lib.hid hxi
  have HGB := Lib.hid hb
  have HDB := Lib.hid hd
  obtain ⟨c0, c1, c2, c3⟩ := PB.out.cells
  clear hwb hAB hT hi hat hx hxT hxi hats hatn hato hatr hb hd ea
  rcases b with _ | _
  · have HE : Hid (foundA ls l bs rs T t ins = none) := HFA.out
    rw [HE.out]
    go_enter Try.func15, Try.ntmps15
    go_wp2_with fail
    rw [HWB.out]
    refine HC.out.mono ?_
    rintro e w1 ⟨rfl, hb1⟩
    have HB1 := Lib.hid (bth HW.out hb1 (Nat.le_refl _))
    have hRB := R0.out.below hb1 hlr
    have HRB := Lib.hid hRB
    obtain ⟨f0, f1⟩ := hRB.cells
    have g0 := hRB.soft 0
    have g1 := hRB.soft 1
    clear hRB
    clear hb1 c0 c1 c2 c3
    go_wp2_with fail
    have hZ := (HRB.out.set0 (.string ByteArray.empty)).set1 (.int .i64 0)
    refine bodyPost_ret (results_cell2 rfl rfl (load_res hZ.cells.1 hZ.cells.2)) rfl ?_
    exact ⟨by rfl, (HB1.out.setCell (p := ⟨w.heap.size + 1, 0, none⟩) (by show _ ≤ _ + 1; omega) _).setCell (p := ⟨w.heap.size + 1, 1, none⟩) (by show _ ≤ _ + 1; omega) _⟩
  have HPL := Lib.hid (goodT_parts HGB.out).1
  have HCI := Lib.hid (fun W (h : Below w.heap.size w W) => specIns9_b ls l bs rs t ins HDB.out _ _ W (HV.out.below h) (HR.out.below h) HPL.out HXI.out)
  rcases d with _ | _
  · have HE : Hid (foundA ls l bs rs T t ins = none) := HFA.out
    rw [HE.out]
    go_enter Try.func15, Try.ntmps15
    go_wp2_with fail
    rw [HWB.out]
    refine HC.out.mono ?_
    rintro e w1 ⟨rfl, hb1⟩
    have HB1 := Lib.hid (bth HW.out hb1 (Nat.le_refl _))
    have K1 := Lib.hid hb1
    clear hb1 c0 c1 c2 c3
    obtain ⟨c0, c1, c2, c3⟩ := (PB.out.below K1.out hlp).cells
    go_wp2_with fail
    refine (HCI.out w1 HB1.out).mono ?_
    rintro e w2 ⟨rfl, hb2⟩
    have HB2 := Lib.hid (bth HB1.out hb2 (Nat.le_refl _))
    have hRB := R0.out.below (bth K1.out hb2 (Nat.le_refl _)) hlr
    have HRB := Lib.hid hRB
    obtain ⟨f0, f1⟩ := hRB.cells
    have g0 := hRB.soft 0
    have g1 := hRB.soft 1
    clear hRB
    clear hb2 c0 c1 c2 c3
    go_wp2_with fail
    have hZ := (HRB.out.set0 (.string ByteArray.empty)).set1 (.int .i64 0)
    refine bodyPost_ret (results_cell2 rfl rfl (load_res hZ.cells.1 hZ.cells.2)) rfl ?_
    exact ⟨by rfl, (HB2.out.setCell (p := ⟨w.heap.size + 1, 0, none⟩) (by show _ ≤ _ + 1; omega) _).setCell (p := ⟨w.heap.size + 1, 1, none⟩) (by show _ ≤ _ + 1; omega) _⟩
  have HE : Hid (foundA ls l bs rs T t ins = foundT T t ins) := HFA.out
  rw [HE.out]
  have HCF := Lib.hid (fun W (h : Below w.heap.size w W) => specFind_any T t ins _ _ W (HTR.out.below h) (HR.out.below h))
  obtain ⟨f, hf⟩ : ∃ f, findT T t ins = f := ⟨_, rfl⟩
  rcases f with _ | k
  · have HN : Hid (foundT T t ins = none) := by show _ = _; unfold foundT; rw [hf]; rfl
    have HK : Hid (findK T t ins = -1) := by show _ = _; unfold findK; rw [hf]
    rw [HK.out] at HCF
    rw [HN.out]
    clear hf
    go_enter Try.func15, Try.ntmps15
    go_wp2_with fail
    rw [HWB.out]
    refine HC.out.mono ?_
    rintro e w1 ⟨rfl, hb1⟩
    have HB1 := Lib.hid (bth HW.out hb1 (Nat.le_refl _))
    have K1 := Lib.hid hb1
    clear hb1 c0 c1 c2 c3
    obtain ⟨c0, c1, c2, c3⟩ := (PB.out.below K1.out hlp).cells
    go_wp2_with fail
    refine (HCI.out w1 HB1.out).mono ?_
    rintro e w2 ⟨rfl, hb2⟩
    have HB2 := Lib.hid (bth HB1.out hb2 (Nat.le_refl _))
    have K2 := Lib.hid (bth K1.out hb2 (Nat.le_refl _))
    clear hb2 c0 c1 c2 c3
    go_wp2_with fail
    refine (HCF.out w2 HB2.out).mono ?_
    rintro e w3 ⟨rfl, hb3⟩
    have HB3 := Lib.hid (bth HB2.out hb3 (Nat.le_refl _))
    have hRB := R0.out.below (bth K2.out hb3 (Nat.le_refl _)) hlr
    have HRB := Lib.hid hRB
    obtain ⟨f0, f1⟩ := hRB.cells
    have g0 := hRB.soft 0
    have g1 := hRB.soft 1
    clear hRB
    clear hb3
    go_wp2_with fail
    have hZ := (HRB.out.set0 (.string ByteArray.empty)).set1 (.int .i64 0)
    refine bodyPost_ret (results_cell2 rfl rfl (load_res hZ.cells.1 hZ.cells.2)) rfl ?_
    exact ⟨by rfl, (HB3.out.setCell (p := ⟨w.heap.size + 1, 0, none⟩) (by show _ ≤ _ + 1; omega) _).setCell (p := ⟨w.heap.size + 1, 1, none⟩) (by show _ ≤ _ + 1; omega) _⟩
  · have hk := findT_lt hf
    have HN : Hid (foundT T t ins = some T[k].2.2) := by show _ = _; unfold foundT; rw [hf, Option.map_some, getD_at _ hk]
    have HK : Hid (findK T t ins = (k : Int)) := by show _ = _; unfold findK; rw [hf]
    rw [HK.out] at HCF
    rw [HN.out]
    obtain ⟨g, o, a2, cc, rfl, hg, ⟨k0, k1, k2, k3⟩, hrk⟩ := HAT.out k hk
    have hkz : (k : Int) < (T.length : Int) := by omega
    clear hf k0 k1 hrk HAT
    generalize T[k].2.2 = z at *
    obtain ⟨z1, z2⟩ := z
    simp only at k2 k3
    go_enter Try.func15, Try.ntmps15
    go_wp2_with fail
    rw [HWB.out]
    refine HC.out.mono ?_
    rintro e w1 ⟨rfl, hb1⟩
    have HB1 := Lib.hid (bth HW.out hb1 (Nat.le_refl _))
    have K1 := Lib.hid hb1
    clear hb1 c0 c1 c2 c3
    obtain ⟨c0, c1, c2, c3⟩ := (PB.out.below K1.out hlp).cells
    go_wp2_with fail
    refine (HCI.out w1 HB1.out).mono ?_
    rintro e w2 ⟨rfl, hb2⟩
    have HB2 := Lib.hid (bth HB1.out hb2 (Nat.le_refl _))
    have K2 := Lib.hid (bth K1.out hb2 (Nat.le_refl _))
    clear hb2 c0 c1 c2 c3
    go_wp2_with fail
    refine (HCF.out w2 HB2.out).mono ?_
    rintro e w3 ⟨rfl, hb3⟩
    have HB3 := Lib.hid (bth HB2.out hb3 (Nat.le_refl _))
    have s2 := (HB3.out.cell (p := ⟨g, o + k * 4 + 2, none⟩) hg).trans k2
    have s3 := (HB3.out.cell (p := ⟨g, o + k * 4 + 3, none⟩) hg).trans k3
    have hRB := R0.out.below (bth K2.out hb3 (Nat.le_refl _)) hlr
    have HRB := Lib.hid hRB
    obtain ⟨f0, f1⟩ := hRB.cells
    have g0 := hRB.soft 0
    have g1 := hRB.soft 1
    clear hRB
    clear hb3 k2 k3
    go_wp2_with fail
    have hZ := (HRB.out.set0 (.string ⟨z1.toArray⟩)).set1 (.int .i64 z2)
    refine bodyPost_ret (results_cell2 rfl rfl (load_res hZ.cells.1 hZ.cells.2)) rfl ?_
    exact ⟨by rfl, (HB3.out.setCell (p := ⟨w.heap.size + 1, 0, none⟩) (by show _ ≤ _ + 1; omega) _).setCell (p := ⟨w.heap.size + 1, 1, none⟩) (by show _ ≤ _ + 1; omega) _⟩

set_option maxRecDepth 20000 in
set_option maxHeartbeats 8000000 in
theorem implFind9_any (ls : List (List Int)) (l : List Int) (bs : List Bool) (rs : List (List OpT)) (T : List TrT) (t : Int) (ins : List (List UInt8)) (v x y : Value) (w : World) (hp : PlanV w v ls l bs rs) (hT : RowT w x T) (hi : RowV w y (S ins)) (hx : ∀ l ∈ rs, ∀ f ∈ l, f.2.2.length ≤ maxLen) (hxT : ∀ t ∈ T, HeldT maxLen t) (hxi : ∀ z ∈ ins, z.length ≤ maxLen) :
    Calls Try.prog 12 #[v, x, .int .i64 t, y] w (OutPost (foundA ls l bs rs T t ins) w) := by
  have HV := Lib.hid hp
  obtain ⟨nv, ov, sv, rv, rfl, h1, h2, h3, h4⟩ := hp
  obtain ⟨as0, cs, rfl, hs1, hs2, hats⟩ := h3.boolsW
  obtain ⟨an, cn, rfl, hn1, hn2, hatn⟩ := h1.lists
  obtain ⟨ao, co, rfl, ho1, ho2, hato⟩ := h2.ints
  obtain ⟨ar, cr, rfl, hr1, hr2, hatr⟩ := h4.lists
  clear h1 h2 h3 h4
  unfold maxLen at hs2 hn2 ho2 hr2
  obtain ⟨wa, hwa⟩ : ∃ wa, wa = w.alloc (.cells #[.slice an ls.length cn, .slice ao l.length co, .slice as0 bs.length cs, .slice ar rs.length cr] 30) := ⟨_, rfl⟩
  have hsz : w.heap.size < wa.heap.size := by rw [hwa]; simp
  have P0 : Hid (Blk4 wa w.heap.size 30 (.slice an ls.length cn) (.slice ao l.length co) (.slice as0 bs.length cs) (.slice ar rs.length cr)) := by rw [hwa]; exact Blk4.new
  have HA : Hid (Below w.heap.size w wa) := by rw [hwa]; exact (Below.refl w.heap.size w).alloc (Nat.le_refl _) _
  have HWA : Hid (w.alloc (.cells #[.slice an ls.length cn, .slice ao l.length co, .slice as0 bs.length cs, .slice ar rs.length cr] 30) = wa) := by rw [hwa]; rfl
  have HVW : Hid (∀ W, Below wa.heap.size wa W → PlanV W (.agg #[.slice an ls.length cn, .slice ao l.length co, .slice as0 bs.length cs, .slice ar rs.length cr]) ls l bs rs) := fun W h => HV.out.below (bth HA.out h (Nat.le_refl _))
  clear hwa
  have HTR := Lib.hid hT
  have HR := Lib.hid hi
  obtain ⟨a, cap, rfl, hc1, hc2, hat⟩ := hT.traces
  obtain ⟨ai, ci, rfl, hi1, hi2, _⟩ := hi.texts
  unfold maxLen at hc2 hi2
  have HAT := Lib.hid hat
  obtain ⟨wb, hwb⟩ : ∃ wb, wb = wa.alloc (.cells #[.string ⟨#[]⟩, .int .i64 0] 34) := ⟨_, rfl⟩
  have hAB : Below wa.heap.size wa wb := by rw [hwb]; exact (Below.refl wa.heap.size wa).alloc (Nat.le_refl _) _
  have ea : wa.heap.size = w.heap.size + 1 := by rw [← HWA.out]; simp
  have hsb : wb.heap.size = w.heap.size + 2 := by rw [hwb]; simp [ea]
  have R0 : Hid (Blk2 wb (w.heap.size + 1) 34 (.string ⟨#[]⟩) (.int .i64 0)) := by rw [hwb, ← ea]; exact Blk2.new
  have PB := Lib.hid (P0.out.below hAB hsz)
  have HWB : Hid ((w.alloc (.cells #[.slice an ls.length cn, .slice ao l.length co, .slice as0 bs.length cs, .slice ar rs.length cr] 30)).alloc (.cells #[.string ⟨#[]⟩, .int .i64 0] 34) = wb) := by rw [HWA.out, hwb]; rfl
  have HW := Lib.hid (bth HA.out hAB (Nat.le_refl _))
  have hlp : w.heap.size < wb.heap.size := by omega
  have hlr : w.heap.size + 1 < wb.heap.size := by omega
  obtain ⟨b, hb⟩ : ∃ b, goodT ls l bs rs T = b := ⟨_, rfl⟩
  obtain ⟨d, hd⟩ : ∃ d, insOk ls bs t ins = d := ⟨_, rfl⟩
  have HC := Lib.hid (implGood9_b hb _ _ wb (HV.out.below HW.out) (HTR.out.below HW.out) hx hxT)
  have HFA : Hid (foundA ls l bs rs T t ins = if b && d then foundT T t ins else none) := by show _ = _; unfold foundA; rw [hb, hd]
  have HXI := Lib.hid hxi
  have HGB := Lib.hid hb
  have HDB := Lib.hid hd
  obtain ⟨c0, c1, c2, c3⟩ := PB.out.cells
  clear hwb hAB hT hi hat hx hxT hxi hats hatn hato hatr hb hd ea
  rcases b with _ | _
  · have HE : Hid (foundA ls l bs rs T t ins = none) := HFA.out
    rw [HE.out]
    go_enter Try.func12, Try.ntmps12
    go_wp2_with fail
    rw [HWB.out]
    refine HC.out.mono ?_
    rintro e w1 ⟨rfl, hb1⟩
    have HB1 := Lib.hid (bth HW.out hb1 (Nat.le_refl _))
    have hRB := R0.out.below hb1 hlr
    have HRB := Lib.hid hRB
    obtain ⟨f0, f1⟩ := hRB.cells
    have g0 := hRB.soft 0
    have g1 := hRB.soft 1
    clear hRB
    clear hb1 c0 c1 c2 c3
    go_wp2_with fail
    have hZ := (HRB.out.set0 (.string ByteArray.empty)).set1 (.int .i64 0)
    refine bodyPost_ret (results_cell2 rfl rfl (load_res hZ.cells.1 hZ.cells.2)) rfl ?_
    exact ⟨by rfl, (HB1.out.setCell (p := ⟨w.heap.size + 1, 0, none⟩) (by show _ ≤ _ + 1; omega) _).setCell (p := ⟨w.heap.size + 1, 1, none⟩) (by show _ ≤ _ + 1; omega) _⟩
  have HPL := Lib.hid (goodT_parts HGB.out).1
  have HCI := Lib.hid (fun W (h : Below w.heap.size w W) => implIns9_b ls l bs rs t ins HDB.out _ _ W (HV.out.below h) (HR.out.below h) HPL.out HXI.out)
  rcases d with _ | _
  · have HE : Hid (foundA ls l bs rs T t ins = none) := HFA.out
    rw [HE.out]
    go_enter Try.func12, Try.ntmps12
    go_wp2_with fail
    rw [HWB.out]
    refine HC.out.mono ?_
    rintro e w1 ⟨rfl, hb1⟩
    have HB1 := Lib.hid (bth HW.out hb1 (Nat.le_refl _))
    have K1 := Lib.hid hb1
    clear hb1 c0 c1 c2 c3
    obtain ⟨c0, c1, c2, c3⟩ := (PB.out.below K1.out hlp).cells
    go_wp2_with fail
    refine (HCI.out w1 HB1.out).mono ?_
    rintro e w2 ⟨rfl, hb2⟩
    have HB2 := Lib.hid (bth HB1.out hb2 (Nat.le_refl _))
    have hRB := R0.out.below (bth K1.out hb2 (Nat.le_refl _)) hlr
    have HRB := Lib.hid hRB
    obtain ⟨f0, f1⟩ := hRB.cells
    have g0 := hRB.soft 0
    have g1 := hRB.soft 1
    clear hRB
    clear hb2 c0 c1 c2 c3
    go_wp2_with fail
    have hZ := (HRB.out.set0 (.string ByteArray.empty)).set1 (.int .i64 0)
    refine bodyPost_ret (results_cell2 rfl rfl (load_res hZ.cells.1 hZ.cells.2)) rfl ?_
    exact ⟨by rfl, (HB2.out.setCell (p := ⟨w.heap.size + 1, 0, none⟩) (by show _ ≤ _ + 1; omega) _).setCell (p := ⟨w.heap.size + 1, 1, none⟩) (by show _ ≤ _ + 1; omega) _⟩
  have HE : Hid (foundA ls l bs rs T t ins = foundT T t ins) := HFA.out
  rw [HE.out]
  have hall := goodT_all HGB.out
  have HCO := Lib.hid (fun W (h : Below w.heap.size w W) => outOf_any T t ins _ _ W (HTR.out.below h) (HR.out.below h) (texts_parts (insOk_parts HDB.out).2.2.2.2).2 (same_of hall HDB.out) (short_of hall))
  clear hall
  obtain ⟨F, hF⟩ : ∃ F, foundT T t ins = F := ⟨_, rfl⟩
  rw [hF] at HCO ⊢
  clear hF HFA HE
  unfold OutPost at HCO ⊢
  generalize F.isSome = q at *
  generalize resO F = z at *
  obtain ⟨z1, z2⟩ := z
  unfold resV at HCO ⊢
  simp only at HCO ⊢
  go_enter Try.func12, Try.ntmps12
  go_wp2_with fail
  rw [HWB.out]
  refine HC.out.mono ?_
  rintro e w1 ⟨rfl, hb1⟩
  have HB1 := Lib.hid (bth HW.out hb1 (Nat.le_refl _))
  have K1 := Lib.hid hb1
  clear hb1 c0 c1 c2 c3
  obtain ⟨c0, c1, c2, c3⟩ := (PB.out.below K1.out hlp).cells
  go_wp2_with fail
  refine (HCI.out w1 HB1.out).mono ?_
  rintro e w2 ⟨rfl, hb2⟩
  have HB2 := Lib.hid (bth HB1.out hb2 (Nat.le_refl _))
  have K2 := Lib.hid (bth K1.out hb2 (Nat.le_refl _))
  clear hb2 c0 c1 c2 c3
  go_wp2_with fail
  refine (HCO.out w2 HB2.out).mono ?_
  rintro e w3 ⟨rfl, hb3⟩
  have HB3 := Lib.hid (bth HB2.out hb3 (Nat.le_refl _))
  have hRB := R0.out.below (bth K2.out hb3 (Nat.le_refl _)) hlr
  have HRB := Lib.hid hRB
  obtain ⟨f0, f1⟩ := hRB.cells
  have g0 := hRB.soft 0
  have g1 := hRB.soft 1
  clear hRB
  clear hb3
  go_wp2_with fail
  have hZ := (HRB.out.set0 (.string ⟨z1.toArray⟩)).set1 (.int .i64 z2)
  refine bodyPost_ret (results_cell2 rfl rfl (load_res hZ.cells.1 hZ.cells.2)) rfl ?_
  exact ⟨by rfl, (HB3.out.setCell (p := ⟨w.heap.size + 1, 0, none⟩) (by show _ ≤ _ + 1; omega) _).setCell (p := ⟨w.heap.size + 1, 1, none⟩) (by show _ ≤ _ + 1; omega) _⟩

end Go.Proofs.Ytngldlconipnnaa
