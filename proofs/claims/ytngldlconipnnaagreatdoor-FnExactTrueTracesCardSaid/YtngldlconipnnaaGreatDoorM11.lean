/- Texts of one claim, joined in their order. -/
import Derived.ProofKit
import Derived.SliceStrings
import Derived.SizedLaws
import Derived.OpenShut
import Derived.Deep.SlicePairs
import Derived.Lib.SmallJoins
import Derived.Deep.DeepHandedRow
import Derived.Deep.DeepLaidRun
import Derived.Test.YtngldlconipnnaaGreatDoorCards
import Derived.Test.YtngldlconipnnaaGreatDoorTie
import Derived.Test.YtngldlconipnnaaGreatDoorM3
import Derived.Test.YtngldlconipnnaaGreatDoorM6
import Derived.Test.YtngldlconipnnaaGreatDoorM4
import Derived.Test.YtngldlconipnnaaGreatDoorM9
import Derived.Test.YtngldlconipnnaaGreatDoorM8

/- What the rows of chapter 5 share: how graphs that came in read. -/
namespace Go.Proofs.YtngldlconipnnaaGreatDoor
open Go.ChangeShapes Go.WideShapes Go.ChangeAt Go.RowKit Pth

theorem own : ownKnob Tryz.prog.godebug = none := by kernel_rfl
theorem laidOut : laidOutB Tryz.prog = true := by kernel_rfl
theorem met_none (w : World) : laidMet Tryz.prog [] w := ⟨[], rfl, List.nodup_nil, fun _ _ h => by cases h⟩

/-- A slice of numbers that came in. -/
theorem ints_cells {H : Type} {enc : TypeId × Value → H} {W : World} {fuel : Nat} {v : Value} {x : DataW H × List MemPlace}
    (h : DataW.trod enc Tryz.prog W 0 (fun _ => true) true fuel 24 [v] = some x) : ∃ l : List Int, RowV W v (I l) := by
  rcases open_ints Tryz.underlying24 Tryz.underlying3 (by kernel_rfl) h with ⟨hcs, _⟩ | ⟨x, len, cap, zs, hcs, _, hl, hm, hz, hx, hcell, hwz⟩
  · simp at hcs
    subst hcs
    exact ⟨[], none, 0, rfl, Nat.le_refl _, by unfold maxLen; omega, fun k hk => absurd hk (by simp [I])⟩
  · simp at hcs
    subst hcs
    simp only [if_true] at hz
    have hlen : (zs.take len).length = len := by rw [List.length_take]; omega
    refine ⟨zs.take len, some x, cap, by rw [I_len, hlen], by rw [I_len, hlen]; omega, by omega, fun k hk => ?_⟩
    rw [I_len, hlen] at hk
    have hc := hcell k (by omega)
    have h0 := hcell 0 (by omega)
    obtain ⟨b, off, spot⟩ := x
    have hspot : spot = none := by simpa [Addr.add] using World.cell?_spot h0
    subst hspot
    rw [add_addr] at hc
    refine ⟨b, off, rfl, World.block_lt_of_cell? _ _ hc, ?_⟩
    rw [hc]
    simp only [I, List.getElem_map, List.getElem_take]
    rw [List.getD_eq_getElem?_getD, List.getElem?_eq_getElem (by omega)]
    rfl
/-- A slice of slices of numbers that came in. -/
theorem lists_cells {H : Type} {enc : TypeId × Value → H} {W : World} {fuel : Nat} {v : Value} {x : DataW H × List MemPlace}
    (h : DataW.trod enc Tryz.prog W 0 (fun _ => true) true fuel 23 [v] = some x) : ∃ ls : List (List Int), RowN W v ls := by
  rcases Deep.open_slice Tryz.underlying23 h with ⟨hcs, _⟩ | ⟨a, len, cap, m, n, D, Pl, hcs, hb, hl, hm, hmm, _, hx⟩
  · simp at hcs
    subst hcs
    exact ⟨[], [], rfl, ⟨none, 0, rfl, Nat.le_refl _, by unfold maxLen; omega, fun k hk => absurd hk (by simp)⟩, fun k h1 h2 => absurd h2 (by simp)⟩
  · simp at hcs
    subst hcs
    simp only [if_true] at hmm
    have each : ∀ i, i < m → ∃ q : Value × List Int, W.cell? ((a.add (i * 1)).add 0) = some q.1 ∧ RowV W q.1 (I q.2) := by
      intro i hi
      obtain ⟨cs', h1, h2⟩ := hx i hi
      rw [show Tryz.prog.cellsOf 24 = 1 by kernel_rfl] at h1
      obtain ⟨_, hlen, hcell⟩ := World.cells?_some h1
      match cs', hlen with
      | [u], _ =>
        obtain ⟨l, hl⟩ := ints_cells h2
        have q0 := hcell 0 (by omega)
        exact ⟨(u, l), by simpa using q0, hl⟩
    obtain ⟨q, hq⟩ := Deep.choose_lt each
    have hlen : ((List.range len).map fun i => (q i).2).length = len := by simp
    have hlen1 : ((List.range len).map fun i => (q i).1).length = len := by simp
    refine ⟨(List.range len).map fun i => (q i).2, (List.range len).map fun i => (q i).1, by rw [hlen, hlen1], ⟨some a, cap, by rw [hlen1], by rw [hlen1]; exact hl, hm, fun k hk => ?_⟩, fun k h1 h2 => ?_⟩
    · rw [hlen1] at hk
      obtain ⟨b, off, spot⟩ := a
      have h0 := (hq 0 (by omega)).1
      have hspot : spot = none := by simpa [Addr.add] using World.cell?_spot h0
      subst hspot
      have hk1 := (hq k (by omega)).1
      rw [add_addr, add_addr, Nat.mul_one, Nat.add_zero] at hk1
      refine ⟨b, off, rfl, World.block_lt_of_cell? _ _ hk1, ?_⟩
      rw [hk1]
      simp
    · have := (hq k (by rw [hlen1] at h1; omega)).2
      simpa using this
set_option maxRecDepth 100000 in
/-- A graph that came in. -/
theorem graph_in {H : Type} {enc : TypeId × Value → H} {W : World} {base : Nat} {v : Value} {d : DataW H} {p : List MemPlace} (hv : Value.okWide Tryz.prog W .any base 48 v)
    (h : DataW.Trod enc Tryz.prog W 0 (fun _ => true) true 48 v d p) : ∃ ls l, GraphV W v ls l := by
  obtain ⟨v0, v1, y0, y1, n, rfl, _, _, h0, h1⟩ := Joins.open_agg2 Tryz.underlying48 (by kernel_rfl) (by kernel_rfl) hv h
  obtain ⟨ls, r0⟩ := lists_cells h0
  obtain ⟨l, r1⟩ := ints_cells h1
  exact ⟨ls, l, v0, v1, rfl, r0, r1⟩
end Go.Proofs.YtngldlconipnnaaGreatDoor

/- What the rows of chapter 7 share: how texts, ops, bools, results and plans that came in read. -/
namespace Go.Proofs.YtngldlconipnnaaGreatDoor
open Go.ChangeShapes Go.WideShapes Go.ChangeAt Go.RowKit Pth

/-- A slice of texts that came in. -/
theorem texts_cells {H : Type} {enc : TypeId × Value → H} {W : World} {fuel : Nat} {v : Value} {x : DataW H × List MemPlace}
    (h : DataW.trod enc Tryz.prog W 0 (fun _ => true) true fuel 32 [v] = some x) : ∃ l : List (List UInt8), RowV W v (S l) ∧ ∀ x ∈ l, x.length ≤ maxLen := by
  rcases open_strings Tryz.underlying32 Tryz.underlying9 (by kernel_rfl) h with ⟨hcs, _⟩ | ⟨x, len, cap, ss, hcs, _, hl, hm, hz, hx, hcell, hws⟩
  · simp at hcs
    subst hcs
    exact ⟨[], ⟨none, 0, rfl, Nat.le_refl _, by unfold maxLen; omega, fun k hk => absurd hk (by simp [S])⟩, fun x hx => by simp at hx⟩
  · simp at hcs
    subst hcs
    simp only [if_true] at hz
    have hlen : ((ss.take len).map (·.data.toList)).length = len := by rw [List.length_map, List.length_take]; omega
    refine ⟨(ss.take len).map (·.data.toList), ⟨some x, cap, by rw [S_len, hlen], by rw [S_len, hlen]; omega, by omega, fun k hk => ?_⟩, fun y hy => ?_⟩
    · rw [S_len, hlen] at hk
      have hc := hcell k (by omega)
      have h0 := hcell 0 (by omega)
      obtain ⟨b, off, spot⟩ := x
      have hspot : spot = none := by simpa [Addr.add] using World.cell?_spot h0
      subst hspot
      rw [add_addr] at hc
      refine ⟨b, off, rfl, World.block_lt_of_cell? _ _ hc, ?_⟩
      rw [hc]
      simp only [S, List.getElem_map, List.getElem_take]
      rw [List.getD_eq_getElem?_getD, List.getElem?_eq_getElem (by omega)]
      rfl
    · simp only [List.mem_map] at hy
      obtain ⟨z, hz1, rfl⟩ := hy
      have := hws z (List.mem_of_mem_take hz1)
      show z.data.toList.length ≤ maxLen
      rw [Array.length_toList]
      exact this

/-- A slice of results that came in. -/
theorem res_cells {H : Type} {enc : TypeId × Value → H} {W : World} {fuel : Nat} {v : Value} {x : DataW H × List MemPlace}
    (h : DataW.trod enc Tryz.prog W 0 (fun _ => true) true fuel 52 [v] = some x) : ∃ l : List ResT, RowR W v l ∧ ∀ f ∈ l, f.1.length ≤ maxLen := by
  rcases Deep.open_slice_pairs Tryz.underlying52 Tryz.underlying108 (by kernel_rfl) rfl rfl (by kernel_rfl) (by kernel_rfl) h with ⟨hcs, _⟩ | ⟨a, len, cap, m, n, V0, V1, D0, D1, P0, P1, hcs, _, hl, hm, hmm, _, hc⟩
  · simp at hcs
    subst hcs
    exact ⟨[], ⟨none, 0, rfl, rfl, Nat.le_refl _, by unfold maxLen; omega, fun k hk => absurd hk (by simp [RC])⟩, fun f hf => by simp at hf⟩
  · simp at hcs
    subst hcs
    simp only [if_true] at hmm
    have each : ∀ i, i < m → ∃ q : ResT, W.cell? (a.add (i * 2)) = some (.string ⟨q.1.toArray⟩) ∧ W.cell? (a.add (i * 2 + 1)) = some (.int .i64 q.2) ∧ q.1.length ≤ maxLen := by
      intro i hi
      obtain ⟨c0, c1, t0, t1⟩ := hc i hi
      obtain ⟨s0, e0, _, z0⟩ := DataW.trod_string Tryz.underlying9 t0
      obtain ⟨n1, e1, _, _⟩ := DataW.trod_int Tryz.underlying3 t1
      simp at e0 e1
      rw [e0] at c0
      rw [e1] at c1
      exact ⟨(s0.data.toList, n1), by simpa using c0, by simpa using c1, by show s0.data.toList.length ≤ _; rw [Array.length_toList]; exact z0⟩
    obtain ⟨q, hq⟩ := Deep.choose_lt each
    have hlen : ((List.range len).map q).length = len := by simp
    refine ⟨(List.range len).map q, ⟨some a, cap, by rw [hlen], by rw [RC_len], by rw [hlen]; exact hl, hm, fun k hk => ?_⟩, fun f hf => ?_⟩
    · rw [RC_len, hlen] at hk
      obtain ⟨b, off, spot⟩ := a
      have h0 := (hq 0 (by omega)).1
      have hspot : spot = none := by simpa [Addr.add] using World.cell?_spot h0
      subst hspot
      have hi : k / 2 < len := by omega
      have hqi := hq (k / 2) (by omega)
      have hget : ((List.range len).map q)[k / 2]'(by rw [hlen]; exact hi) = q (k / 2) := by simp
      rw [add_addr, add_addr] at hqi
      refine ⟨b, off, rfl, World.block_lt_of_cell? _ _ hqi.1, ?_⟩
      have hat := RC_at (l := (List.range len).map q) (k := k / 2) (by rw [hlen]; exact hi)
      rw [hget] at hat
      have hkl : k < (RC ((List.range len).map q)).length := by rw [RC_len, hlen]; exact hk
      have hgk : (RC ((List.range len).map q))[k]? = some (RC ((List.range len).map q))[k] := List.getElem?_eq_getElem hkl
      rw [← hgk]
      rcases Nat.mod_two_eq_zero_or_one k with e | e
      · have ek : k = k / 2 * 2 := by omega
        have h1 := hat.1
        rw [← ek] at h1
        rw [h1, ← hqi.1]
        congr 2
        omega
      · have ek : k = k / 2 * 2 + 1 := by omega
        have h1 := hat.2
        rw [← ek] at h1
        rw [h1, ← hqi.2.1]
        congr 2
        omega
    · obtain ⟨i, hi, rfl⟩ := List.mem_map.1 hf
      have := hq i (by have := List.mem_range.1 hi; omega)
      exact this.2.2
/-- A struct of three fields, a cell each. -/
theorem three_cells {H : Type} {enc : TypeId × Value → H} {P : Program} {w : World} {base : Nat} {spare : Nat → Bool} {held : Bool} {t : TypeId} {f0 f1 f2 : Field} {n : Nat} {cs : List Value} {x : DataW H × List MemPlace}
    (he : P.underlying t = some (.struct #[f0, f1, f2])) (o0 : f0.offset = 0) (o1 : f1.offset = 1) (o2 : f2.offset = 2) (c0 : P.cellsOf f0.type = 1) (c1 : P.cellsOf f1.type = 1) (c2 : P.cellsOf f2.type = 1)
    (h : DataW.trod enc P w base spare held n t cs = some x) (hl : cs.length = 3) :
    ∃ (v0 v1 v2 : Value) (y0 y1 y2 : DataW H × List MemPlace) (k : Nat), cs = [v0, v1, v2] ∧ DataW.trod enc P w base spare held k f0.type [v0] = some y0 ∧ DataW.trod enc P w base spare held k f1.type [v1] = some y1 ∧ DataW.trod enc P w base spare held k f2.type [v2] = some y2 := by
  obtain ⟨xs, k, hk, hxy, _, hxl, hf⟩ := DataW.trod_struct he h
  match xs, hxl, cs, hl with
  | [y0, y1, y2], _, [v0, v1, v2], _ =>
    have g0 := hf 0 f0 rfl
    have g1 := hf 1 f1 rfl
    have g2 := hf 2 f2 rfl
    simp [o0, o1, o2, c0, c1, c2] at g0 g1 g2
    exact ⟨v0, v1, v2, y0, y1, y2, k, rfl, g0, g1, g2⟩

/-- A list of ops that came in. -/
theorem ops_cells {H : Type} {enc : TypeId × Value → H} {W : World} {fuel : Nat} {v : Value} {x : DataW H × List MemPlace}
    (hf : DataW.trod enc Tryz.prog W 0 (fun _ => true) true fuel 169 [v] = some x) : ∃ l : List OpT, RowO W v l ∧ ∀ f ∈ l, f.2.2.length ≤ maxLen := by
  rcases Deep.open_slice Tryz.underlying169 hf with ⟨hcs, _⟩ | ⟨a, len, cap, m, n, D, Pl, hcs, hb, hl, hm, hmm, _, hx⟩
  · simp at hcs
    subst hcs
    exact ⟨[], ⟨none, 0, rfl, rfl, Nat.le_refl _, by unfold maxLen; omega, fun k hk => absurd hk (by simp [OC])⟩, fun f hf => by simp at hf⟩
  · simp at hcs
    subst hcs
    simp only [if_true] at hmm
    have each : ∀ i, i < m → ∃ q : OpT, W.cell? ((a.add (i * 3)).add 0) = some (.int .i64 q.1) ∧ W.cell? ((a.add (i * 3)).add 1) = some (.int .i64 q.2.1) ∧ W.cell? ((a.add (i * 3)).add 2) = some (.string ⟨q.2.2.toArray⟩) ∧ q.2.2.length ≤ maxLen := by
      intro i hi
      obtain ⟨cs', h1, h2⟩ := hx i hi
      rw [show Tryz.prog.cellsOf 209 = 3 by kernel_rfl] at h1
      obtain ⟨_, hlen, hcell⟩ := World.cells?_some h1
      obtain ⟨v0, v1, v2, y0, y1, y2, k, rfl, g0, g1, g2⟩ := three_cells Tryz.underlying209 rfl rfl rfl (by kernel_rfl) (by kernel_rfl) (by kernel_rfl) h2 hlen
      obtain ⟨n0, e0, _, _⟩ := DataW.trod_int Tryz.underlying3 g0
      obtain ⟨n1, e1, _, _⟩ := DataW.trod_int Tryz.underlying3 g1
      obtain ⟨s2, e2, _, z2⟩ := DataW.trod_string Tryz.underlying9 g2
      simp at e0 e1 e2
      subst e0 e1 e2
      have q0 := hcell 0 (by omega)
      have q1 := hcell 1 (by omega)
      have q2 := hcell 2 (by omega)
      exact ⟨(n0, n1, s2.data.toList), by simpa using q0, by simpa using q1, by simpa using q2, by show s2.data.toList.length ≤ _; rw [Array.length_toList]; exact z2⟩
    obtain ⟨q, hq⟩ := Deep.choose_lt each
    have hlen : ((List.range len).map q).length = len := by simp
    refine ⟨(List.range len).map q, ⟨some a, cap, by rw [hlen], by rw [OC_len], by rw [hlen]; exact hl, hm, fun k hk => ?_⟩, fun f hf => ?_⟩
    · rw [OC_len, hlen] at hk
      obtain ⟨b, off, spot⟩ := a
      have h0 := (hq 0 (by omega)).1
      have hspot : spot = none := by simpa [Addr.add] using World.cell?_spot h0
      subst hspot
      have hi : k / 3 < len := by omega
      have hqi := hq (k / 3) (by omega)
      have hget : ((List.range len).map q)[k / 3]'(by rw [hlen]; exact hi) = q (k / 3) := by simp
      rw [add_addr, add_addr, add_addr, add_addr] at hqi
      refine ⟨b, off, rfl, World.block_lt_of_cell? _ _ hqi.1, ?_⟩
      have hat := OC_at (l := (List.range len).map q) (k := k / 3) (by rw [hlen]; exact hi)
      rw [hget] at hat
      have hm3 : k % 3 = 0 ∨ k % 3 = 1 ∨ k % 3 = 2 := by omega
      have hkl : k < (OC ((List.range len).map q)).length := by rw [OC_len, hlen]; exact hk
      have hgk : (OC ((List.range len).map q))[k]? = some (OC ((List.range len).map q))[k] := List.getElem?_eq_getElem hkl
      rw [← hgk]
      rcases hm3 with e | e | e
      · have ek : k = k / 3 * 3 := by omega
        have h1 := hat.1
        rw [← ek] at h1
        rw [h1, ← hqi.1]
        congr 2
        omega
      · have ek : k = k / 3 * 3 + 1 := by omega
        have h1 := hat.2.1
        rw [← ek] at h1
        rw [h1, ← hqi.2.1]
        congr 2
        omega
      · have ek : k = k / 3 * 3 + 2 := by omega
        have h1 := hat.2.2
        rw [← ek] at h1
        rw [h1, ← hqi.2.2.1]
        congr 2
        omega
    · simp only [List.mem_map, List.mem_range] at hf
      obtain ⟨i, hi, rfl⟩ := hf
      exact (hq i (by omega)).2.2.2

/-- A slice of lists of ops that came in. -/
theorem opss_cells {H : Type} {enc : TypeId × Value → H} {W : World} {fuel : Nat} {v : Value} {x : DataW H × List MemPlace}
    (h : DataW.trod enc Tryz.prog W 0 (fun _ => true) true fuel 49 [v] = some x) : ∃ ls : List (List OpT), RowOO W v ls ∧ ∀ l ∈ ls, ∀ f ∈ l, f.2.2.length ≤ maxLen := by
  rcases Deep.open_slice Tryz.underlying49 h with ⟨hcs, _⟩ | ⟨a, len, cap, m, n, D, Pl, hcs, hb, hl, hm, hmm, _, hx⟩
  · simp at hcs
    subst hcs
    exact ⟨[], ⟨[], rfl, ⟨none, 0, rfl, Nat.le_refl _, by unfold maxLen; omega, fun k hk => absurd hk (by simp)⟩, fun k h1 h2 => absurd h2 (by simp)⟩, by simp⟩
  · simp at hcs
    subst hcs
    simp only [if_true] at hmm
    have each : ∀ i, i < m → ∃ q : Value × List OpT, W.cell? ((a.add (i * 1)).add 0) = some q.1 ∧ RowO W q.1 q.2 ∧ ∀ f ∈ q.2, f.2.2.length ≤ maxLen := by
      intro i hi
      obtain ⟨cs', h1, h2⟩ := hx i hi
      rw [show Tryz.prog.cellsOf 169 = 1 by kernel_rfl] at h1
      obtain ⟨_, hlen, hcell⟩ := World.cells?_some h1
      match cs', hlen with
      | [u], _ =>
        obtain ⟨l, hl, hx3⟩ := ops_cells h2
        have q0 := hcell 0 (by omega)
        exact ⟨(u, l), by simpa using q0, hl, hx3⟩
    obtain ⟨q, hq⟩ := Deep.choose_lt each
    have hlen : ((List.range len).map fun i => (q i).2).length = len := by simp
    have hlen1 : ((List.range len).map fun i => (q i).1).length = len := by simp
    refine ⟨(List.range len).map fun i => (q i).2, ⟨(List.range len).map fun i => (q i).1, by rw [hlen, hlen1], ⟨some a, cap, by rw [hlen1], by rw [hlen1]; exact hl, hm, fun k hk => ?_⟩, fun k h1 h2 => ?_⟩, fun l hl3 f hf3 => ?_⟩
    · rw [hlen1] at hk
      obtain ⟨b, off, spot⟩ := a
      have h0 := (hq 0 (by omega)).1
      have hspot : spot = none := by simpa [Addr.add] using World.cell?_spot h0
      subst hspot
      have hk1 := (hq k (by omega)).1
      rw [add_addr, add_addr, Nat.mul_one, Nat.add_zero] at hk1
      refine ⟨b, off, rfl, World.block_lt_of_cell? _ _ hk1, ?_⟩
      rw [hk1]
      simp
    · have := (hq k (by rw [hlen1] at h1; omega)).2.1
      simpa using this
    · obtain ⟨i, hi, rfl⟩ := List.mem_map.1 hl3
      exact (hq i (by have := List.mem_range.1 hi; omega)).2.2 f hf3
/-- A slice of bools that came in. -/
theorem bools_cells {H : Type} {enc : TypeId × Value → H} {W : World} {fuel : Nat} {v : Value} {x : DataW H × List MemPlace}
    (h : DataW.trod enc Tryz.prog W 0 (fun _ => true) true fuel 27 [v] = some x) : ∃ l : List Bool, RowV W v (BL l) := by
  rcases Deep.open_slice Tryz.underlying27 h with ⟨hcs, _⟩ | ⟨a, len, cap, m, n, D, Pl, hcs, hb, hl, hm, hmm, _, hx⟩
  · simp at hcs
    subst hcs
    exact ⟨[], none, 0, rfl, Nat.le_refl _, by unfold maxLen; omega, fun k hk => absurd hk (by simp [BL])⟩
  · simp at hcs
    subst hcs
    simp only [if_true] at hmm
    have each : ∀ i, i < m → ∃ q : Bool, W.cell? ((a.add (i * 1)).add 0) = some (.bool q) := by
      intro i hi
      obtain ⟨cs', h1, h2⟩ := hx i hi
      rw [show Tryz.prog.cellsOf 4 = 1 by kernel_rfl] at h1
      obtain ⟨_, hlen, hcell⟩ := World.cells?_some h1
      obtain ⟨b, e0, _⟩ := DataW.trod_bool Tryz.underlying4 h2
      subst e0
      have q0 := hcell 0 (by omega)
      exact ⟨b, by simpa using q0⟩
    obtain ⟨q, hq⟩ := Deep.choose_lt each
    have hlen : ((List.range len).map q).length = len := by simp
    refine ⟨(List.range len).map q, some a, cap, by rw [BL_len, hlen], by rw [BL_len, hlen]; exact hl, hm, fun k hk => ?_⟩
    rw [BL_len, hlen] at hk
    obtain ⟨b, off, spot⟩ := a
    have h0 := hq 0 (by omega)
    have hspot : spot = none := by simpa [Addr.add] using World.cell?_spot h0
    subst hspot
    have hk1 := hq k (by omega)
    rw [add_addr, add_addr, Nat.mul_one, Nat.add_zero] at hk1
    refine ⟨b, off, rfl, World.block_lt_of_cell? _ _ hk1, ?_⟩
    rw [hk1, BL_get (by rw [hlen]; exact hk)]
    simp
theorem texts_inU {H : Type} {enc : TypeId × Value → H} {W : World} {a : Option Addr} {len cap : Nat} {d : DataW H} {p : List MemPlace}
    (h : DataW.Trod enc Tryz.prog W 0 (fun _ => true) true 32 (.slice a len cap) d p) : ∃ l : List (List UInt8), RowV W (.slice a len cap) (S l) ∧ ∀ x ∈ l, x.length ≤ maxLen := by
  obtain ⟨fuel, hf⟩ := h
  exact texts_cells (by simpa [Value.cells] using hf)
theorem res_in {H : Type} {enc : TypeId × Value → H} {W : World} {a : Option Addr} {len cap : Nat} {d : DataW H} {p : List MemPlace}
    (h : DataW.Trod enc Tryz.prog W 0 (fun _ => true) true 52 (.slice a len cap) d p) : ∃ l : List ResT, RowR W (.slice a len cap) l ∧ ∀ f ∈ l, f.1.length ≤ maxLen := by
  obtain ⟨fuel, hf⟩ := h
  exact res_cells (by simpa [Value.cells] using hf)
/-- A struct of three fields, the first of two cells, the others of one. -/
theorem four_cells {H : Type} {enc : TypeId × Value → H} {P : Program} {w : World} {base : Nat} {spare : Nat → Bool} {held : Bool} {t : TypeId} {f0 f1 f2 : Field} {n : Nat} {c0 c1 c2 c3 : Value} {x : DataW H × List MemPlace}
    (he : P.underlying t = some (.struct #[f0, f1, f2])) (o0 : f0.offset = 0) (o1 : f1.offset = 2) (o2 : f2.offset = 3) (k0 : P.cellsOf f0.type = 2) (k1 : P.cellsOf f1.type = 1) (k2 : P.cellsOf f2.type = 1)
    (h : DataW.trod enc P w base spare held n t [c0, c1, c2, c3] = some x) :
    ∃ (y0 y1 y2 : DataW H × List MemPlace) (k : Nat), DataW.trod enc P w base spare held k f0.type [c0, c1] = some y0 ∧ DataW.trod enc P w base spare held k f1.type [c2] = some y1 ∧ DataW.trod enc P w base spare held k f2.type [c3] = some y2 := by
  obtain ⟨xs, k, hk, hxy, _, hxl, hf⟩ := DataW.trod_struct he h
  match xs, hxl with
  | [y0, y1, y2], _ =>
    have g0 := hf 0 f0 rfl
    have g1 := hf 1 f1 rfl
    have g2 := hf 2 f2 rfl
    simp [o0, o1, o2, k0, k1, k2] at g0 g1 g2
    exact ⟨y0, y1, y2, k, g0, g1, g2⟩
/-- A struct of two fields, a cell each. -/
theorem two_cells {H : Type} {enc : TypeId × Value → H} {P : Program} {w : World} {base : Nat} {spare : Nat → Bool} {held : Bool} {t : TypeId} {f0 f1 : Field} {n : Nat} {c0 c1 : Value} {x : DataW H × List MemPlace}
    (he : P.underlying t = some (.struct #[f0, f1])) (o0 : f0.offset = 0) (o1 : f1.offset = 1) (k0 : P.cellsOf f0.type = 1) (k1 : P.cellsOf f1.type = 1)
    (h : DataW.trod enc P w base spare held n t [c0, c1] = some x) :
    ∃ (y0 y1 : DataW H × List MemPlace) (k : Nat), DataW.trod enc P w base spare held k f0.type [c0] = some y0 ∧ DataW.trod enc P w base spare held k f1.type [c1] = some y1 := by
  obtain ⟨xs, k, hk, hxy, _, hxl, hf⟩ := DataW.trod_struct he h
  match xs, hxl with
  | [y0, y1], _ =>
    have g0 := hf 0 f0 rfl
    have g1 := hf 1 f1 rfl
    simp [o0, o1, k0, k1] at g0 g1
    exact ⟨y0, y1, k, g0, g1⟩
set_option maxRecDepth 100000 in
/-- A plan that came in. -/
theorem plan_in {H : Type} {enc : TypeId × Value → H} {W : World} {base : Nat} {v : Value} {d : DataW H} {p : List MemPlace} (hv : Value.okWide Tryz.prog W .any base 51 v)
    (h : DataW.Trod enc Tryz.prog W 0 (fun _ => true) true 51 v d p) : ∃ ls l bs rs, PlanV W v ls l bs rs ∧ ∀ l ∈ rs, ∀ f ∈ l, f.2.2.length ≤ maxLen := by
  obtain ⟨cs, rfl, hsz⟩ := okWide_struct Tryz.underlying51 hv
  obtain ⟨c0, c1, c2, c3, rfl⟩ := Joins.array4 (hsz.trans (by kernel_rfl))
  obtain ⟨fuel, hf⟩ := h
  obtain ⟨y0, y1, y2, k, h0, h1, h2⟩ := four_cells Tryz.underlying51 rfl rfl rfl (by kernel_rfl) (by kernel_rfl) (by kernel_rfl) (by simpa [Value.cells] using hf)
  obtain ⟨z0, z1, k', g0, g1⟩ := two_cells Tryz.underlying48 rfl rfl (by kernel_rfl) (by kernel_rfl) h0
  obtain ⟨ls, r0⟩ := lists_cells g0
  obtain ⟨l, r1⟩ := ints_cells g1
  obtain ⟨bs, r2⟩ := bools_cells h1
  obtain ⟨rs, r3, x3⟩ := opss_cells h2
  exact ⟨ls, l, bs, rs, ⟨c0, c1, c2, c3, rfl, r0, r1, r2, r3⟩, x3⟩
end Go.Proofs.YtngldlconipnnaaGreatDoor

/- What the rows of chapters 7 and 8 with listed tables share: a world in which the listed tables lie, for the witness. -/
namespace Go.Proofs.YtngldlconipnnaaGreatDoor
open Go.ChangeShapes Go.WideShapes Go.ChangeAt Go.RowKit Pth

/-- The cells of a table as the row lists it. -/
def litCell {H : Type} : DataW H → Value
  | .lit (.int k n) => .int k n
  | _ => .int .u8 0
def tabCells {H : Type} : DataW H → Array Value
  | .agg l => (l.map litCell).toArray
  | _ => #[]
def refill (cs : Array Value) : Obj → Obj
  | .cells _ t fr => .cells cs t fr
  | o => o
/-- The settled world with the three tables laid. -/
noncomputable def laidWorld (os : Os) : World :=
  { World.holding Tryz.prog os ⟨#[], #[], []⟩ with heap := (((World.holding Tryz.prog os ⟨#[], #[], []⟩).heap.modify 1 (refill (tabCells (H := Unit) Rows.laid_math_bits_deBruijn32tab))).modify 2 (refill (tabCells (H := Unit) Rows.laid_math_bits_deBruijn64tab))).modify 0 (refill (tabCells (H := Unit) Rows.laid_internal_strconv_uint64pow10)) }

end Go.Proofs.YtngldlconipnnaaGreatDoor

/- What the rows of chapter 9 share: how traces that came in read. -/
namespace Go.Proofs.YtngldlconipnnaaGreatDoor
open Go.ChangeShapes Go.WideShapes Go.ChangeAt Go.RowKit Pth

/-- A struct of three fields, the last of two cells, the others of one. -/
theorem four_cells9 {H : Type} {enc : TypeId × Value → H} {P : Program} {w : World} {base : Nat} {spare : Nat → Bool} {held : Bool} {t : TypeId} {f0 f1 f2 : Field} {n : Nat} {cs : List Value} {x : DataW H × List MemPlace}
    (he : P.underlying t = some (.struct #[f0, f1, f2])) (o0 : f0.offset = 0) (o1 : f1.offset = 1) (o2 : f2.offset = 2) (k0 : P.cellsOf f0.type = 1) (k1 : P.cellsOf f1.type = 1) (k2 : P.cellsOf f2.type = 2)
    (h : DataW.trod enc P w base spare held n t cs = some x) (hl : cs.length = 4) :
    ∃ (c0 c1 c2 c3 : Value) (y0 y1 y2 : DataW H × List MemPlace) (k : Nat), cs = [c0, c1, c2, c3] ∧ DataW.trod enc P w base spare held k f0.type [c0] = some y0 ∧ DataW.trod enc P w base spare held k f1.type [c1] = some y1 ∧ DataW.trod enc P w base spare held k f2.type [c2, c3] = some y2 := by
  obtain ⟨xs, k, hk, hxy, _, hxl, hf⟩ := DataW.trod_struct he h
  match xs, hxl, cs, hl with
  | [y0, y1, y2], _, [c0, c1, c2, c3], _ =>
    have g0 := hf 0 f0 rfl
    have g1 := hf 1 f1 rfl
    have g2 := hf 2 f2 rfl
    simp [o0, o1, o2, k0, k1, k2] at g0 g1 g2
    exact ⟨c0, c1, c2, c3, y0, y1, y2, k, rfl, g0, g1, g2⟩
/-- The cells of a trace that came in. -/
theorem one_trace {H : Type} {enc : TypeId × Value → H} {W : World} {n : Nat} {cs : List Value} {x : DataW H × List MemPlace}
    (h : DataW.trod enc Tryz.prog W 0 (fun _ => true) true n 137 cs = some x) (hl : cs.length = 4) :
    ∃ (u : Value) (t : TrT), cs = trC u t ∧ RowV W u (S t.2.1) ∧ HeldT maxLen t := by
  obtain ⟨c0, c1, c2, c3, y0, y1, y2, k, rfl, h0, h1, h2⟩ := four_cells9 Tryz.underlying137 rfl rfl rfl (by kernel_rfl) (by kernel_rfl) (by kernel_rfl) h hl
  obtain ⟨n0, e0, _, _⟩ := DataW.trod_int Tryz.underlying3 h0
  obtain ⟨ins, hr, hx⟩ := texts_cells h1
  obtain ⟨z0, z1, k', g0, g1⟩ := two_cells Tryz.underlying108 rfl rfl (by kernel_rfl) (by kernel_rfl) h2
  obtain ⟨s2, e2, _, z2⟩ := DataW.trod_string Tryz.underlying9 g0
  obtain ⟨n3, e3, _, _⟩ := DataW.trod_int Tryz.underlying3 g1
  simp at e0 e2 e3
  subst e0 e2 e3
  exact ⟨c1, (n0, ins, (s2.data.toList, n3)), by simp [trC], hr, hx, by show s2.data.toList.length ≤ _; rw [Array.length_toList]; exact z2⟩

/-- A slice of traces that came in. -/
theorem traces_cells {H : Type} {enc : TypeId × Value → H} {W : World} {fuel : Nat} {v : Value} {x : DataW H × List MemPlace}
    (h : DataW.trod enc Tryz.prog W 0 (fun _ => true) true fuel 71 [v] = some x) : ∃ l : List TrT, RowT W v l ∧ ∀ t ∈ l, HeldT maxLen t := by
  rcases Deep.open_slice Tryz.underlying71 h with ⟨hcs, _⟩ | ⟨a, len, cap, m, n, D, Pl, hcs, hb, hl, hm, hmm, _, hx⟩
  · simp at hcs
    subst hcs
    exact ⟨[], ⟨[], rfl, ⟨none, 0, rfl, rfl, Nat.le_refl _, by unfold maxLen; omega, fun k hk => absurd hk (by simp [TC])⟩, fun k h1 h2 => absurd h2 (by simp)⟩, fun f hf => by simp at hf⟩
  · simp at hcs
    subst hcs
    simp only [if_true] at hmm
    have each : ∀ i, i < m → ∃ q : Value × TrT, (W.cell? ((a.add (i * 4)).add 0) = some (.int .i64 q.2.1) ∧ W.cell? ((a.add (i * 4)).add 1) = some q.1 ∧ W.cell? ((a.add (i * 4)).add 2) = some (.string ⟨q.2.2.2.1.toArray⟩) ∧ W.cell? ((a.add (i * 4)).add 3) = some (.int .i64 q.2.2.2.2)) ∧ RowV W q.1 (S q.2.2.1) ∧ HeldT maxLen q.2 := by
      intro i hi
      obtain ⟨cs', h1, h2⟩ := hx i hi
      rw [show Tryz.prog.cellsOf 137 = 4 by kernel_rfl] at h1
      obtain ⟨_, hlen, hcell⟩ := World.cells?_some h1
      obtain ⟨u, t, rfl, hr, hht⟩ := one_trace h2 hlen
      have q0 := hcell 0 (by simp)
      have q1 := hcell 1 (by simp)
      have q2 := hcell 2 (by simp)
      have q3 := hcell 3 (by simp)
      exact ⟨(u, t), ⟨by simpa [trC] using q0, by simpa [trC] using q1, by simpa [trC] using q2, by simpa [trC] using q3⟩, hr, hht⟩
    obtain ⟨q, hq⟩ := Deep.choose_lt each
    have hlen : ((List.range len).map fun i => (q i).2).length = len := by simp
    have hlen1 : ((List.range len).map fun i => (q i).1).length = len := by simp
    have hs : ((List.range len).map fun i => (q i).1).length = ((List.range len).map fun i => (q i).2).length := by rw [hlen, hlen1]
    refine ⟨(List.range len).map fun i => (q i).2, ⟨(List.range len).map fun i => (q i).1, hs, ⟨some a, cap, by rw [hlen], by rw [TC_len hs], by rw [hlen]; exact hl, hm, fun k hk => ?_⟩, fun k h1 h2 => ?_⟩, fun t ht => ?_⟩
    · rw [TC_len hs, hlen] at hk
      obtain ⟨b, off, spot⟩ := a
      have h0 := (hq 0 (by omega)).1.1
      have hspot : spot = none := by simpa [Addr.add] using World.cell?_spot h0
      subst hspot
      have hi : k / 4 < len := by omega
      have hqi := (hq (k / 4) (by omega)).1
      rw [add_addr, add_addr, add_addr, add_addr, add_addr] at hqi
      refine ⟨b, off, rfl, World.block_lt_of_cell? _ _ hqi.1, ?_⟩
      have hat := TC_at hs (k := k / 4) (by rw [hlen]; exact hi)
      simp only [List.getElem_map, List.getElem_range] at hat
      have hkl : k < (TC ((List.range len).map fun i => (q i).1) ((List.range len).map fun i => (q i).2)).length := by rw [TC_len hs, hlen]; exact hk
      have hgk : (TC ((List.range len).map fun i => (q i).1) ((List.range len).map fun i => (q i).2))[k]? = some (TC ((List.range len).map fun i => (q i).1) ((List.range len).map fun i => (q i).2))[k] := List.getElem?_eq_getElem hkl
      rw [← hgk]
      have hm4 : k % 4 = 0 ∨ k % 4 = 1 ∨ k % 4 = 2 ∨ k % 4 = 3 := by omega
      rcases hm4 with e | e | e | e
      · have ek : k = k / 4 * 4 := by omega
        have h1 := hat.1
        rw [← ek] at h1
        rw [h1, ← hqi.1]
        congr 2
        omega
      · have ek : k = k / 4 * 4 + 1 := by omega
        have h1 := hat.2.1
        rw [← ek] at h1
        rw [h1, ← hqi.2.1]
        congr 2
        omega
      · have ek : k = k / 4 * 4 + 2 := by omega
        have h1 := hat.2.2.1
        rw [← ek] at h1
        rw [h1, ← hqi.2.2.1]
        congr 2
        omega
      · have ek : k = k / 4 * 4 + 3 := by omega
        have h1 := hat.2.2.2
        rw [← ek] at h1
        rw [h1, ← hqi.2.2.2]
        congr 2
        omega
    · have := (hq k (by rw [hlen1] at h1; omega)).2.1
      simpa using this
    · obtain ⟨i, hi, rfl⟩ := List.mem_map.1 ht
      exact (hq i (by have := List.mem_range.1 hi; omega)).2.2
theorem traces_in {H : Type} {enc : TypeId × Value → H} {W : World} {a : Option Addr} {len cap : Nat} {d : DataW H} {p : List MemPlace}
    (h : DataW.Trod enc Tryz.prog W 0 (fun _ => true) true 71 (.slice a len cap) d p) : ∃ l : List TrT, RowT W (.slice a len cap) l ∧ ∀ t ∈ l, HeldT maxLen t := by
  obtain ⟨fuel, hf⟩ := h
  exact traces_cells (by simpa [Value.cells] using hf)
set_option maxRecDepth 100000 in
/-- A trace that came in. -/
theorem trace_in {H : Type} {enc : TypeId × Value → H} {W : World} {base : Nat} {v : Value} {d : DataW H} {p : List MemPlace} (hv : Value.okWide Tryz.prog W .any base 137 v)
    (h : DataW.Trod enc Tryz.prog W 0 (fun _ => true) true 137 v d p) : ∃ t : TrT, TrV W v t ∧ HeldT maxLen t := by
  obtain ⟨cs, rfl, hsz⟩ := okWide_struct Tryz.underlying137 hv
  obtain ⟨c0, c1, c2, c3, rfl⟩ := Joins.array4 (hsz.trans (by kernel_rfl))
  obtain ⟨fuel, hf⟩ := h
  obtain ⟨u, t, he, hr, hx⟩ := one_trace (cs := [c0, c1, c2, c3]) (by simpa [Value.cells] using hf) rfl
  obtain ⟨a, c, rfl, _⟩ := hr.texts
  simp only [trC, List.cons.injEq, and_true] at he
  obtain ⟨rfl, rfl, rfl, rfl⟩ := he
  exact ⟨t, ⟨a, c, rfl, hr⟩, hx⟩
end Go.Proofs.YtngldlconipnnaaGreatDoor

/- Walks: the laws' helpers on lists of traces: copies, whether they are the same. -/
namespace Go.Proofs.YtngldlconipnnaaGreatDoor
open Go.RowKit Pth

theorem TC_zero (n : Nat) : TC (List.replicate n (.slice none 0 0)) (List.replicate n noTr) = (madeCells #[.int .i64 0, .slice none 0 0, .string ByteArray.empty, .int .i64 0] (n * 4)).toList := by
  apply List.ext_getElem?
  intro j
  have hs : (List.replicate n (Value.slice none 0 0)).length = (List.replicate n noTr).length := by simp
  by_cases hj : j < n * 4
  · have hd : j / 4 < n := by omega
    obtain ⟨q0, q1, q2, q3⟩ := TC_at (l := List.replicate n noTr) hs (k := j / 4) (by simpa using hd)
    have hm : j % 4 = 0 ∨ j % 4 = 1 ∨ j % 4 = 2 ∨ j % 4 = 3 := by omega
    rcases hm with h | h | h | h
    · rw [show j = j / 4 * 4 by omega, q0]
      simp [madeCells, noTr, hd]
    · rw [show j = j / 4 * 4 + 1 by omega, q1]
      have e : (j / 4 * 4 + 1) % 4 = 1 := by omega
      have e2 : j / 4 * 4 + 1 < n * 4 := by omega
      simp [madeCells, e, e2]
    · rw [show j = j / 4 * 4 + 2 by omega, q2]
      have e : (j / 4 * 4 + 2) % 4 = 2 := by omega
      have e2 : j / 4 * 4 + 2 < n * 4 := by omega
      simp [madeCells, noTr, noRes, e, e2]; rfl
    · rw [show j = j / 4 * 4 + 3 by omega, q3]
      have e : (j / 4 * 4 + 3) % 4 = 3 := by omega
      have e2 : j / 4 * 4 + 3 < n * 4 := by omega
      simp [madeCells, noTr, noRes, e, e2]
  · rw [List.getElem?_eq_none (by rw [TC_len hs]; simp; omega)]
    simp [madeCells, hj]
theorem make_rowT (n : Nat) (w : World) (hn : n ≤ 2000000) :
    ∃ w', (Instr.makeSlice 31 (.int .i64 (n : Int)) (.int .i64 (n : Int))).run Tryz.prog w = .ok (.slice (some ⟨w.heap.size, 0, none⟩) n n) w' ∧
      w'.ownsRow w.heap.size 95 4 (.slice (some ⟨w.heap.size, 0, none⟩) n n) n (TC (List.replicate n (.slice none 0 0)) (List.replicate n noTr)) ∧ Below w.heap.size w w' := by
  obtain ⟨i0, hi, hz0, hz1, hz2⟩ := info_parts elemT.info
  obtain ⟨w', h1, h2, h3⟩ := run_makeSlice_full (P := Tryz.prog) w w.heap.size _ _ i0 _ 4 elemT.under hi hz0 hz1 .i64 .i64 n (by omega) (by rw [hz2]; exact Nat.le_trans (Nat.mul_le_mul elemT.small hn) (by decide)) (by unfold maxLen; omega) (Nat.le_refl _)
  rw [TC_zero]
  exact ⟨w', h1, h2, (Below.refl _ w).grown h3 (Nat.le_refl _) (fun k hk => by cases hk)⟩
/-- A trace that is stored in a row of the call's own. -/
theorem OwnA.putT {B : Nat} {w : World} {g o cap n : Nat} {sl : List Value} {l : List TrT} (h : OwnA B 95 4 w (.slice (some ⟨g, o, none⟩) n cap) n (TC sl l)) (hs : sl.length = l.length) {k : Nat} (hk : k < l.length) (u : Value) (t : TrT) :
    OwnA B 95 4 ((((w.setCell ⟨g, o + k * 4, none⟩ (.int .i64 t.1)).setCell ⟨g, o + k * 4 + 1, none⟩ u).setCell ⟨g, o + k * 4 + 2, none⟩ (.string ⟨t.2.2.1.toArray⟩)).setCell ⟨g, o + k * 4 + 3, none⟩ (.int .i64 t.2.2.2)) (.slice (some ⟨g, o, none⟩) n cap) n (TC (sl.set k u) (l.set k t)) ∧
    w.grownBy ((((w.setCell ⟨g, o + k * 4, none⟩ (.int .i64 t.1)).setCell ⟨g, o + k * 4 + 1, none⟩ u).setCell ⟨g, o + k * 4 + 2, none⟩ (.string ⟨t.2.2.1.toArray⟩)).setCell ⟨g, o + k * 4 + 3, none⟩ (.int .i64 t.2.2.2)) (some g) := by
  have h1 := h.stored (k * 4) (.int .i64 t.1)
  have h2 := h1.1.stored (k * 4 + 1) u
  have h3 := h2.1.stored (k * 4 + 2) (.string ⟨t.2.2.1.toArray⟩)
  have h4 := h3.1.stored (k * 4 + 3) (.int .i64 t.2.2.2)
  rw [TC_set hs hk u t] at h4
  have hg := grown_trans (grown_trans (grown_trans h1.2 h2.2) h3.2) h4.2
  exact ⟨h4.1, hg⟩
/-- The cells of a trace in a row of the call's own. -/
theorem OwnA.atT {B : Nat} {w : World} {g o cap n : Nat} {sl : List Value} {l : List TrT} (h : OwnA B 95 4 w (.slice (some ⟨g, o, none⟩) n cap) n (TC sl l)) (hs : sl.length = l.length) {k : Nat} (hk : k < l.length) :
    w.cell? ⟨g, o + k * 4, none⟩ = some (.int .i64 l[k].1) ∧ w.cell? ⟨g, o + k * 4 + 1, none⟩ = some (sl[k]'(by omega)) ∧ w.cell? ⟨g, o + k * 4 + 2, none⟩ = some (.string ⟨(l[k]).2.2.1.toArray⟩) ∧ w.cell? ⟨g, o + k * 4 + 3, none⟩ = some (.int .i64 l[k].2.2.2) := by
  obtain ⟨q0, q1, q2, q3⟩ := TC_at hs hk
  exact ⟨h.cell q0, h.cell q1, h.cell q2, h.cell q3⟩
theorem set_mid {α : Type} (a : List α) (k : Nat) (ha : a.length = k) (n : Nat) (hk : k < n) (z x : α) : (a ++ List.replicate (n - k) z).set k x = (a ++ [x]) ++ List.replicate (n - (k + 1)) z := by
  rw [List.set_append_right _ _ (by omega), ha, Nat.sub_self, show n - k = (n - (k + 1)) + 1 by omega, List.replicate_succ, List.set_cons_zero, List.append_assoc]
  rfl
theorem get_mid {α : Type} (a : List α) (k : Nat) (ha : a.length = k) (n : Nat) (hk : k < n) (z : α) : (a ++ List.replicate (n - k) z)[k]? = some z := by
  rw [List.getElem?_append_right (by omega), ha, Nat.sub_self, List.getElem?_replicate]
  simp; omega
/-- Copies of traces. -/
def TracesPost (l : List TrT) (w : World) (e : Ending) (w' : World) : Prop := ∃ v sl, e = .returned v ∧ OwnT w.heap.size w' v sl l ∧ Below w.heap.size w w'

set_option maxRecDepth 20000 in
set_option maxHeartbeats 4000000 in
theorem toTraceS_any (l : List TrT) (v : Value) (w : World) (hrow : RowT w v l) (hl : l.length + totT l ≤ 2000000) :
    Calls Tryz.prog 43 #[v] w (TracesPost l w) := by
  obtain ⟨a, cap, rfl, hc1, hc2, hat⟩ := hrow.traces
  clear hrow
  unfold maxLen at hc2
  have HAT := Lib.hid hat
  clear hat
  obtain ⟨w0, hmk, hown0, hb0⟩ := make_rowT l.length w (by omega)
  have HN0 := Lib.hid (OwnA.of_own hown0)
  have HB0 := Lib.hid hb0
  clear hown0 hb0
  go_enter Tryz.func43, Tryz.ntmps43
  go_wp2_with fail
  clear hmk
  go_loopw [4] (fun i wr => ∃ (k : Nat) (sl : List Value), k ≤ l.length ∧ i = .int .i64 k ∧ sl.length = k ∧ Hid (OwnA w.heap.size 95 4 wr (.slice (some ⟨w.heap.size, 0, none⟩) l.length l.length) l.length (TC (sl ++ List.replicate (l.length - k) (.slice none 0 0)) (l.take k ++ List.replicate (l.length - k) noTr))) ∧ Hid (ListsS w.heap.size wr (sl.zip ((l.take k).map (·.2.1)))) ∧ Hid (Below w.heap.size w wr)) (fun i _ => l.length - (intOf i).toNat)
  case atStart => exact ⟨0, [], Nat.zero_le _, rfl, rfl, by simpa using HN0, by simp [ListsS, Hid], HB0⟩
  case round =>
    clear HN0 HB0
    obtain ⟨k, sl, hk, rfl, hsl, HN, HL, HB⟩ := hrel
    have hbs := HB.out.size
    by_cases hlt : k < l.length
    · obtain ⟨g, o, a2, c2, rfl, hg, ⟨k0, k1, k2, k3⟩, hrk⟩ := HAT.out k hlt
      have s0 := (HB.out.cell (p := ⟨g, o + k * 4, none⟩) hg).trans k0
      have s1 := (HB.out.cell (p := ⟨g, o + k * 4 + 1, none⟩) hg).trans k1
      have s2 := (HB.out.cell (p := ⟨g, o + k * 4 + 2, none⟩) hg).trans k2
      have s3 := (HB.out.cell (p := ⟨g, o + k * 4 + 3, none⟩) hg).trans k3
      have HC := Lib.hid (toTrace_any l[k] _ wr ⟨a2, c2, rfl, hrk.below HB.out⟩ (by have := totT_at hlt; omega))
      have ht : (l.take k).length = k := by rw [List.length_take]; omega
      have hlen : (sl ++ List.replicate (l.length - k) (Value.slice none 0 0)).length = (l.take k ++ List.replicate (l.length - k) noTr).length := by simp; omega
      have hkl : k < (l.take k ++ List.replicate (l.length - k) noTr).length := by simp; omega
      have HP := Lib.hid (fun W (h : OwnA w.heap.size 95 4 W (.slice (some ⟨w.heap.size, 0, none⟩) l.length l.length) l.length (TC (sl ++ List.replicate (l.length - k) (.slice none 0 0)) (l.take k ++ List.replicate (l.length - k) noTr))) u => h.putT hlen hkl u l[k])
      have HG : Hid (∀ W (h : OwnA w.heap.size 95 4 W (.slice (some ⟨w.heap.size, 0, none⟩) l.length l.length) l.length (TC (sl ++ List.replicate (l.length - k) (.slice none 0 0)) (l.take k ++ List.replicate (l.length - k) noTr))),
          W.cell? ⟨w.heap.size, k * 4, none⟩ = some (.int .i64 0) ∧ W.cell? ⟨w.heap.size, k * 4 + 1, none⟩ = some (.slice none 0 0) ∧ W.cell? ⟨w.heap.size, k * 4 + 2, none⟩ = some (.string ByteArray.empty) ∧ W.cell? ⟨w.heap.size, k * 4 + 3, none⟩ = some (.int .i64 0)) := by
        intro W h
        obtain ⟨q0, q1, q2, q3⟩ := h.atT hlen hkl
        have e1 := get_mid (l.take k) k ht l.length hlt noTr
        rw [List.getElem?_eq_getElem hkl] at e1
        have e1 := Option.some.inj e1
        have e2 := get_mid sl k hsl l.length hlt (Value.slice none 0 0)
        rw [List.getElem?_eq_getElem (by omega)] at e2
        have e2 := Option.some.inj e2
        rw [e1, Nat.zero_add] at q0 q2 q3
        rw [e2, Nat.zero_add] at q1
        exact ⟨q0, q1, q2, q3⟩
      have HE1 : Hid (∀ u, (sl ++ List.replicate (l.length - k) (Value.slice none 0 0)).set k u = (sl ++ [u]) ++ List.replicate (l.length - (k + 1)) (.slice none 0 0)) := fun u => set_mid sl k hsl l.length hlt _ u
      have HE2 : Hid ((l.take k ++ List.replicate (l.length - k) noTr).set k l[k] = l.take (k + 1) ++ List.replicate (l.length - (k + 1)) noTr) := by
        show _ = _
        rw [set_mid (l.take k) k ht l.length hlt, ← List.take_succ_eq_append_getElem hlt]
      have HZ : Hid (∀ u, (sl ++ [u]).zip ((l.take (k + 1)).map (·.2.1)) = sl.zip ((l.take k).map (·.2.1)) ++ [(u, l[k].2.1)]) := by
        intro u
        rw [List.take_succ_eq_append_getElem hlt, List.map_append, List.zip_append (by rw [List.length_map]; omega)]
        rfl
      clear k0 k1 k2 k3 hrk ht hlen hkl
      generalize l[k] = x at *
      obtain ⟨x1, xi, x2, x3⟩ := x
      unfold trV TrPost trV at HC
      simp only at s0 s1 s2 s3 HC HP HZ
      go_wp2_with fail
      refine HC.out.mono ?_
      rintro e w1 ⟨b1, d1, rfl, ho1, hb1⟩
      have HB1 := Lib.hid (HB.out.trans (hb1.mono HB.out.size))
      have HN1 := Lib.hid (HN.out.below hb1)
      have HL1 := Lib.hid (HL.out.snoc hb1 ho1 (Nat.le_refl _) HB.out.size)
      rw [← HZ.out] at HL1
      have hp := HP.out w1 HN1.out (.slice b1 xi.length d1)
      rw [HE1.out, HE2.out] at hp
      simp only [Nat.zero_add] at hp
      have HN2 := Lib.hid hp.1
      have HL2 := Lib.hid (HL1.out.grownA HN1.out (by decide) hp.2)
      have HB2 := Lib.hid (HB1.out.trans (only_below hp.2 (Nat.le_refl _) HB1.out.size))
      obtain ⟨q0, q1, q2, q3⟩ := HG.out w1 HN1.out
      have f0 := HN1.out.soft (k * 4)
      have f1 := HN1.out.soft (k * 4 + 1)
      have f2 := HN1.out.soft (k * 4 + 2)
      have f3 := HN1.out.soft (k * 4 + 3)
      clear hp hb1 ho1 HN HB HL HC HE1 HE2 HG HP HZ HN1 HL1 HB1
      go_wp2_with fail
      go_roundw
      case rel => exact ⟨k + 1, sl ++ [.slice b1 xi.length d1], by omega, by go_num, by rw [List.length_append, hsl]; rfl, HN2, HL2, HB2⟩
      case measure => simp [intOf]; omega
    · have hkl : k = l.length := by omega
      rw [hkl, Nat.sub_self, List.replicate_zero, List.replicate_zero, List.append_nil, List.append_nil, List.take_length] at HN
      rw [hkl, List.take_length] at HL
      have HZ : Hid (OwnT w.heap.size wr (.slice (some ⟨w.heap.size, 0, none⟩) l.length l.length) sl l) := ⟨by omega, HN.out, HL.out⟩
      clear HAT HN HL
      go_wp2_with fail
      go_ret
      exact ⟨_, sl, rfl, HZ.out, HB.out⟩

set_option maxRecDepth 20000 in
set_option maxHeartbeats 2000000 in
theorem eqTrace_b {t u : TrT} {b : Bool} {v x : Value} {w : World} (hv : TrV w v t) (hu : TrV w x u) (hl : t.2.1.length ≤ 2000000) (h : decide (t = u) = b) :
    Calls Tryz.prog 102 #[v, x] w (BoolPost b w) := by
  obtain ⟨t1, ins, o1, o2⟩ := t
  obtain ⟨u1, jns, p1, p2⟩ := u
  obtain ⟨a, c, rfl, hr⟩ := hv
  obtain ⟨a', c', rfl, hr'⟩ := hu
  simp only at hr hr' hl
  unfold trV
  simp only
  have HE : Hid (b = (decide (t1 = u1) && (decide (ins = jns) && decide ((o1, o2) = (p1, p2))))) := by
    show _ = _
    rw [← h, Bool.eq_iff_iff]
    simp only [Bool.and_eq_true, decide_eq_true_eq, Prod.mk.injEq]
  clear h
  obtain ⟨wp, hwp⟩ : ∃ wp, wp = w.alloc (.cells #[.int .i64 t1, .slice a ins.length c, .string ⟨o1.toArray⟩, .int .i64 o2] 95) := ⟨_, rfl⟩
  obtain ⟨wa, hwa⟩ : ∃ wa, wa = wp.alloc (.cells #[.int .i64 u1, .slice a' jns.length c', .string ⟨p1.toArray⟩, .int .i64 p2] 95) := ⟨_, rfl⟩
  have ep : wp.heap.size = w.heap.size + 1 := by rw [hwp]; simp
  have ea : wa.heap.size = w.heap.size + 2 := by rw [hwa]; simp [ep]
  have P0 : Hid (Blk4 wa w.heap.size 95 (.int .i64 t1) (.slice a ins.length c) (.string ⟨o1.toArray⟩) (.int .i64 o2)) := by rw [hwa, hwp]; exact Blk4.new.old _
  have Q0 : Hid (Blk4 wa (w.heap.size + 1) 95 (.int .i64 u1) (.slice a' jns.length c') (.string ⟨p1.toArray⟩) (.int .i64 p2)) := by rw [hwa, ← ep]; exact Blk4.new
  have HA : Hid (Below w.heap.size w wa) := by rw [hwa, hwp]; exact ((Below.refl w.heap.size w).alloc (Nat.le_refl _) _).alloc (by simp) _
  have HWA : Hid ((w.alloc (.cells #[.int .i64 t1, .slice a ins.length c, .string ⟨o1.toArray⟩, .int .i64 o2] 95)).alloc (.cells #[.int .i64 u1, .slice a' jns.length c', .string ⟨p1.toArray⟩, .int .i64 p2] 95) = wa) := by rw [hwa, hwp]; rfl
  have HS := Lib.hid (eqStringS_any ins jns _ _ wa (hr.below HA.out) (hr'.below HA.out) hl)
  clear hwa hwp hr hr'
  by_cases hT : t1 = u1
  · have d1 : (t1 != u1) = false := by simp [hT]
    have HE1 : Hid (b = (decide (ins = jns) && decide ((o1, o2) = (p1, p2)))) := by rw [HE.out, decide_eq_true hT, Bool.true_and]; rfl
    clear HE hT
    generalize decide (ins = jns) = bi at *
    go_enter Tryz.func102, Tryz.ntmps102
    go_wp2_with fail
    rw [HWA.out]
    refine HS.out.mono ?_
    rintro e w1 ⟨rfl, hb1⟩
    have HB1 := Lib.hid (bth HA.out hb1 (Nat.le_refl _))
    obtain ⟨_, _, c2, c3⟩ := (P0.out.below hb1 (by omega)).cells
    obtain ⟨_, _, e2, e3⟩ := (Q0.out.below hb1 (by omega)).cells
    have hs1 := hb1.size
    clear hb1 HS
    rcases bi with _ | _
    · go_wp2_with fail
      go_ret
      exact ⟨by rw [HE1.out] <;> rfl, HB1.out⟩
    · obtain ⟨br, hbr⟩ : ∃ br, decide ((o1, o2) = (p1, p2)) = br := ⟨_, rfl⟩
      have HR := Lib.hid (eqResult_b hbr w1)
      unfold resV at HR
      simp only at HR
      rw [hbr, Bool.true_and] at HE1
      clear hbr
      go_wp2_with fail
      refine HR.out.mono ?_
      rintro e w2 ⟨rfl, hb2⟩
      have HB2 := Lib.hid (bth HB1.out hb2 (Nat.le_refl _))
      clear hb2 HR
      rcases br with _ | _
      all_goals
        go_wp2_with fail
        go_ret
        exact ⟨by rw [HE1.out] <;> rfl, HB2.out⟩
  · have d1 : (t1 != u1) = true := by simp [hT]
    have HE1 : Hid (b = false) := by rw [HE.out, decide_eq_false hT, Bool.false_and]; rfl
    clear HE hT HS
    go_enter Tryz.func102, Tryz.ntmps102
    go_wp2_with fail
    go_ret
    exact ⟨by rw [HE1.out] <;> rfl, by rw [HWA.out]; exact HA.out⟩

end Go.Proofs.YtngldlconipnnaaGreatDoor

/- Walks: the laws' marks in traces, and whether they are held. -/
namespace Go.Proofs.YtngldlconipnnaaGreatDoor
open Go.RowKit Pth

/-- The marks in a trace with n inputs, from k on. -/
def mark1 (k n : Nat) : TrT := ((k : Int), marksT (k + 1) n, (markT (k + 1 + n), ((k + n + 2 : Nat) : Int)))
def marksTr : Nat → List TrT → List TrT
  | _, [] => []
  | k, t :: r => mark1 k t.2.1.length :: marksTr (k + t.2.1.length + 3) r
/-- How many marks traces take. -/
def markN (l : List TrT) : Nat := 3 * l.length + totT l
theorem marksTr_len (k : Nat) (l : List TrT) : (marksTr k l).length = l.length := by
  induction l generalizing k with
  | nil => rfl
  | cons t r ih => rw [marksTr, List.length_cons, List.length_cons, ih]
theorem markN_cons (t : TrT) (l : List TrT) : markN (t :: l) = t.2.1.length + 3 + markN l := by
  simp only [markN, totT, List.length_cons, List.map_cons, List.sum_cons]; omega
theorem markN_next {l : List TrT} {j : Nat} (hj : j < l.length) : markN (l.take (j + 1)) = markN (l.take j) + l[j].2.1.length + 3 := by
  unfold markN
  rw [totT_next hj, List.length_take, List.length_take]; omega
theorem markN_le {l : List TrT} {j : Nat} : markN (l.take j) ≤ markN l := by
  have := totT_le (l := l) (k := j)
  unfold markN
  rw [List.length_take]; omega
theorem marksTr_snoc (k : Nat) (l : List TrT) (t : TrT) : marksTr k (l ++ [t]) = marksTr k l ++ [mark1 (k + markN l) t.2.1.length] := by
  induction l generalizing k with
  | nil => simp [marksTr, markN, totT]
  | cons x r ih =>
    rw [List.cons_append, marksTr, marksTr, ih, List.cons_append, markN_cons]
    rw [show k + x.2.1.length + 3 + markN r = k + (x.2.1.length + 3 + markN r) by omega]
theorem marksTr_next {k : Nat} {l : List TrT} {j : Nat} (hj : j < l.length) : marksTr k (l.take (j + 1)) = marksTr k (l.take j) ++ [mark1 (k + markN (l.take j)) l[j].2.1.length] := by
  rw [List.take_succ_eq_append_getElem hj, marksTr_snoc]
theorem marksTr_at {k : Nat} {l : List TrT} {j : Nat} (hj : j < l.length) : (marksTr k l)[j]'(by rw [marksTr_len]; exact hj) = mark1 (k + markN (l.take j)) l[j].2.1.length := by
  induction l generalizing k j with
  | nil => simp at hj
  | cons x r ih =>
    cases j with
    | zero => simp [marksTr, markN, totT]
    | succ j =>
      simp only [marksTr, List.getElem_cons_succ, List.take_succ_cons]
      rw [ih (by simpa using hj), markN_cons, show k + x.2.1.length + 3 + markN (r.take j) = k + (x.2.1.length + 3 + markN (r.take j)) by omega]

theorem zipT_split {β : Type} {sl : List Value} {M ls : List β} {j : Nat} (hs : sl.length = ls.length) (hM : M.length = j) (hj : j < ls.length) :
    sl.zip (M ++ ls.drop j) = (sl.take j).zip M ++ (sl[j]'(by omega), ls[j]) :: (sl.drop (j + 1)).zip (ls.drop (j + 1)) := by
  have e : sl = sl.take j ++ sl[j]'(by omega) :: sl.drop (j + 1) := by rw [← List.drop_eq_getElem_cons (by omega), List.take_append_drop]
  conv => lhs; rw [e, List.drop_eq_getElem_cons hj]
  rw [List.zip_append (by rw [List.length_take]; omega), List.zip_cons_cons]
theorem zipT_join {β : Type} {sl : List Value} {M ls : List β} {j : Nat} {x : β} (hs : sl.length = ls.length) (hM : M.length = j) (hj : j < ls.length) :
    (sl.take j).zip M ++ (sl[j]'(by omega), x) :: (sl.drop (j + 1)).zip (ls.drop (j + 1)) = sl.zip ((M ++ [x]) ++ ls.drop (j + 1)) := by
  have e : sl = sl.take j ++ sl[j]'(by omega) :: sl.drop (j + 1) := by rw [← List.drop_eq_getElem_cons (by omega), List.take_append_drop]
  conv => rhs; rw [e]
  rw [List.append_assoc, List.zip_append (by rw [List.length_take]; omega), List.singleton_append, List.zip_cons_cons]

theorem markStringS_at {l : List (List UInt8)} {k B : Nat} {i r : Int} {v : Value} {w : World} (hi : (k : Int) = i) (hr : r = (k : Int) + (l.length : Int)) (hown : w.ownsRow B 9 1 v l.length (S l)) (hl : l.length ≤ 2000000) (hk : k ≤ 4000000) (hk1 : 1 ≤ k) :
    Calls Tryz.prog 35 #[v, .int .i64 i] w fun e w' => e = .returned (.int .i64 r) ∧ w'.ownsRow B 9 1 v l.length (S (marksT k l.length)) ∧ w.grownBy w' v.ownBlock := by
  subst hi hr
  exact markStringS_any l k B v w hown hl hk hk1
theorem heldStringS_at {k n : Nat} {i r : Int} {v : Value} {w : World} (hi : (k : Int) = i) (hr : r = (k : Int) + (n : Int)) (hrow : RowV w v (S (marksT k n))) (hn : n ≤ 2000000) (hk : k ≤ 4000000) (hk1 : 1 ≤ k) :
    Calls Tryz.prog 103 #[v, .int .i64 i] w fun e w' => e = .returned (.int .i64 r) ∧ Below w.heap.size w w' := by
  subst hi hr
  exact heldStringS_any k n v w hrow hn hk hk1
theorem set_at {α : Type} (M : List α) (l : List α) (j : Nat) (hM : M.length = j) (hj : j < l.length) (x : α) : (M ++ l.drop j).set j x = (M ++ [x]) ++ l.drop (j + 1) := by
  rw [List.set_append_right _ _ (by omega), hM, Nat.sub_self, List.drop_eq_getElem_cons hj, List.set_cons_zero, List.append_assoc]
  rfl

/-- The traces hold the marks, and only blocks between two have turned. -/
def MarkedTr (B C : Nat) (v : Value) (sl : List Value) (l : List TrT) (k : Nat) (w : World) (e : Ending) (w' : World) : Prop :=
  e = .returned (.int .i64 ((k + markN l : Nat) : Int)) ∧ OwnT B w' v sl (marksTr k l) ∧ OnlyB B C w w'

set_option maxRecDepth 20000 in
set_option maxHeartbeats 4000000 in
theorem markTraceS_any (l : List TrT) (k B : Nat) (v : Value) (sl : List Value) (w0 w : World) (h0 : OwnT B w0 v sl l) (hb0 : Below w0.heap.size w0 w) (hB : B ≤ w0.heap.size) (hz : l.length + totT l ≤ 1100000) (hk : k + markN l ≤ 4000000) (_hk1 : 1 ≤ k) :
    Calls Tryz.prog 45 #[v, .int .i64 (k : Int)] w (MarkedTr B w0.heap.size v sl l k w) := by
  obtain ⟨hs, hA, hL⟩ := h0
  have HLT := Lib.hid (fun b h => (hA.lt b h))
  have HLI := Lib.hid (fun p hp b h => (hL.1 p hp).lt b h)
  have HA0 := Lib.hid (hA.below hb0)
  have HL0 := Lib.hid (hL.below hb0)
  have HS := Lib.hid hs
  have hbw := hb0.size
  obtain ⟨a, cap, rfl, hc1, hc2⟩ := hA.slice
  unfold maxLen at hc2
  clear hA hL hs hb0
  go_enter Tryz.func45, Tryz.ntmps45
  go_wp2_with fail
  go_loopw [1, 5] (fun q i wr => ∃ j : Nat, j ≤ l.length ∧ q = .int .i64 ((k + markN (l.take j) : Nat) : Int) ∧ i = .int .i64 j ∧ Hid (OwnA B 95 4 wr (.slice a l.length cap) l.length (TC sl (marksTr k (l.take j) ++ l.drop j))) ∧ Hid (ListsS B wr (sl.zip ((marksTr k (l.take j)).map (·.2.1) ++ (l.map (·.2.1)).drop j))) ∧ Hid (OnlyB B w0.heap.size w wr)) (fun _ i _ => l.length - (intOf i).toNat)
  case atStart => exact ⟨0, Nat.zero_le _, by simp [markN, totT], rfl, by simpa [marksTr] using HA0, by simpa [marksTr, Hid] using HL0.out, ⟨Below.refl _ _, fun _ _ _ => rfl⟩⟩
  case round =>
    clear HA0 HL0
    obtain ⟨j, hj, rfl, rfl, HN, HL, HG⟩ := hrel
    by_cases hlt : j < l.length
    · obtain ⟨g, o, cap', hv, _, _, hgs, hgB⟩ := HN.out.addr (by omega)
      injection hv with hv1 hv2 hv3
      subst hv1 hv3
      have hM : (marksTr k (l.take j)).length = j := by rw [marksTr_len, List.length_take]; omega
      have hMm : ((marksTr k (l.take j)).map (·.2.1)).length = j := by rw [List.length_map]; exact hM
      have hlen : sl.length = (marksTr k (l.take j) ++ l.drop j).length := by rw [List.length_append, hM, List.length_drop]; have := HS.out; omega
      have hjl : j < (marksTr k (l.take j) ++ l.drop j).length := by rw [List.length_append, hM, List.length_drop]; omega
      have hjs : j < sl.length := by have := HS.out; omega
      have hel : (marksTr k (l.take j) ++ l.drop j)[j] = l[j] := by
        rw [List.getElem_append_right (by omega)]
        simp [hM]
      obtain ⟨q0, q1, q2, q3⟩ := HN.out.atT hlen hjl
      rw [hel] at q0 q2 q3
      have f0 := HN.out.soft (o + j * 4)
      have f2 := HN.out.soft (o + j * 4 + 2)
      have f3 := HN.out.soft (o + j * 4 + 3)
      have hgC : B ≤ g ∧ g < w0.heap.size := HLT.out g rfl
      have hmapl : (l.map (·.2.1)).length = l.length := List.length_map _
      have hL := HL.out
      rw [zipT_split (by rw [hmapl]; exact HS.out) hMm (by rw [hmapl]; exact hlt)] at hL
      have hone0 : wr.ownsRow B 9 1 sl[j] l[j].2.1.length (S l[j].2.1) := by
        have := hL.1 (sl[j], (l.map (·.2.1))[j]'(by rw [hmapl]; exact hlt)) (by simp)
        rw [List.getElem_map] at this
        exact this
      obtain ⟨a2, c2, hsv⟩ := own_slice hone0
      have hmem : (sl[j], l[j].2.1) ∈ sl.zip (l.map (·.2.1)) := zip_getS hjs hlt
      have HIN := Lib.hid (fun b h => HLI.out _ hmem b h)
      have ht1 := totT_at hlt
      have ht2 := markN_le (l := l) (j := j + 1)
      have ht3 := markN_next hlt
      generalize hkq : k + markN (l.take j) = kq at *
      have hk4 : kq + l[j].2.1.length + 3 ≤ 4000000 := by omega
      -- the first store
      have hst0 := HN.out.stored (j * 4) (.int .i64 (kq : Int))
      obtain ⟨w1, hw1⟩ : ∃ w1, w1 = wr.setCell ⟨g, o + j * 4, none⟩ (.int .i64 (kq : Int)) := ⟨_, rfl⟩
      have HST0 : Hid (OwnA B 95 4 w1 (.slice (some ⟨g, o, none⟩) l.length cap) l.length ((TC sl (marksTr k (l.take j) ++ l.drop j)).set (j * 4) (.int .i64 (kq : Int))) ∧ wr.grownBy w1 (some g)) := by rw [hw1]; exact hst0
      have HL1 : Hid (ListsS B w1 ((sl.take j).zip ((marksTr k (l.take j)).map (·.2.1)) ++ (sl[j], l[j].2.1) :: (sl.drop (j + 1)).zip ((l.map (·.2.1)).drop (j + 1)))) := by
        have := hL.grownA HN.out (by decide) HST0.out.2
        rw [List.getElem_map] at this
        exact this
      have hone1 := HL1.out.1 (sl[j], l[j].2.1) (by simp)
      simp only at hone1
      have ei : ((kq + 1 : Nat) : Int) = (kq : Int) + 1 := by omega
      have HC1 := Lib.hid (markStringS_at (l := l[j].2.1) (k := kq + 1) (i := (kq : Int) + 1) (r := (kq : Int) + 1 + (l[j].2.1.length : Int)) (by omega) (by omega) hone1 (by omega) (by omega) (by omega))
      have HC2 := Lib.hid (fun W => mark_r (kq + 1 + l[j].2.1.length) ((kq : Int) + 1 + (l[j].2.1.length : Int)) (by omega) (by omega) (by omega) W)
      have HFIN : Hid (∀ w2 w3, w2.ownsRow B 9 1 sl[j] l[j].2.1.length (S (marksT (kq + 1) l[j].2.1.length)) → w1.grownBy w2 (sl[j]).ownBlock → Below w2.heap.size w2 w3 →
          OwnA B 95 4 w3 (.slice (some ⟨g, o, none⟩) l.length cap) l.length ((TC sl (marksTr k (l.take j) ++ l.drop j)).set (j * 4) (.int .i64 (kq : Int))) ∧
          ListsS B w3 (sl.zip ((marksTr k (l.take (j + 1))).map (·.2.1) ++ (l.map (·.2.1)).drop (j + 1))) ∧ OnlyB B w0.heap.size w w3) := by
        intro w2 w3 h1 h2 h3
        have hN2 := HST0.out.1.other hone1 (by decide) h2
        have hL2 := HL1.out.turn (v' := sl[j]) (l' := marksT (kq + 1) l[j].2.1.length) h2 (by rw [marksT_len]; exact h1) (fun b hb => .inl hb)
        rw [zipT_join (by rw [hmapl]; exact HS.out) hMm (by rw [hmapl]; exact hlt)] at hL2
        have em : (marksTr k (l.take (j + 1))).map (·.2.1) = (marksTr k (l.take j)).map (·.2.1) ++ [marksT (kq + 1) l[j].2.1.length] := by
          rw [marksTr_next hlt, List.map_append, hkq]; rfl
        rw [← em] at hL2
        have hw1s : wr.heap.size ≤ w1.heap.size := HST0.out.2.size
        refine ⟨hN2.below h3, hL2.below h3, (HG.out.trans (OnlyB.of_grown HST0.out.2 (fun i hi => by injection hi with hi; subst hi; exact hgC) (Nat.le_trans hB (Nat.le_trans hbw HG.out.below.size)))).trans ((OnlyB.of_grown h2 (fun i hi => HIN.out i hi) ?_).trans (OnlyB.of_below h3 ?_))⟩
        · exact Nat.le_trans hB (Nat.le_trans hbw (Nat.le_trans HG.out.below.size hw1s))
        · exact Nat.le_trans hB (Nat.le_trans hbw (Nat.le_trans HG.out.below.size (Nat.le_trans hw1s h2.size)))
      have HSET : Hid (((((TC sl (marksTr k (l.take j) ++ l.drop j)).set (j * 4) (.int .i64 (kq : Int)))).set (j * 4 + 2) (.string ⟨(markT (kq + 1 + l[j].2.1.length)).toArray⟩)).set (j * 4 + 3) (.int .i64 ((kq : Int) + 1 + (l[j].2.1.length : Int) + 1)) = TC sl (marksTr k (l.take (j + 1)) ++ l.drop (j + 1))) := by
        have h1 := TC_set hlen hjl (sl[j]'hjs) (mark1 kq l[j].2.1.length)
        have h2 : ((TC sl (marksTr k (l.take j) ++ l.drop j)).set (j * 4) (.int .i64 (kq : Int)))[j * 4 + 1]? = some (sl[j]'hjs) := by
          rw [List.getElem?_set_ne (by omega)]
          exact (TC_at hlen hjl).2.1
        have h3 : ((TC sl (marksTr k (l.take j) ++ l.drop j)).set (j * 4) (.int .i64 (kq : Int))).set (j * 4 + 1) (sl[j]'hjs) = (TC sl (marksTr k (l.take j) ++ l.drop j)).set (j * 4) (.int .i64 (kq : Int)) := by
          obtain ⟨hb, he⟩ := List.getElem?_eq_some_iff.1 h2
          rw [← he, List.set_getElem_self]
        have h4 : sl.set j (sl[j]'hjs) = sl := List.set_getElem_self _
        simp only [mark1] at h1
        rw [h3, h4] at h1
        rw [show (kq : Int) + 1 + (l[j].2.1.length : Int) + 1 = ((kq + l[j].2.1.length + 2 : Nat) : Int) by omega]
        show _ = _
        rw [h1, marksTr_next hlt, set_at _ l j hM hlt, hkq]; rfl
      have HKN : Hid ((((k + markN (l.take (j + 1)) : Nat)) : Int) = (kq : Int) + 1 + (l[j].2.1.length : Int) + 1 + 1) := by show _ = _; omega
      rw [hsv] at q1 HC1 HFIN
      have HW1 := Lib.hid hw1
      clear hw1 hst0 hone0 hone1 hL hM hMm hlen hjl hel hmem ht1 ht2 ht3 hmapl hkq HN HL HG HL1 HIN hv2 ei
      generalize l[j].1 = z1 at *
      generalize l[j].2.2.1 = z2 at *
      generalize l[j].2.2.2 = z3 at *
      generalize markT (kq + 1 + l[j].2.1.length) = tx at *
      generalize l[j].2.1.length = n at *
      go_wp2_with fail
      rw [← HW1.out]
      refine HC1.out.mono ?_
      rintro e w2 ⟨rfl, h1, h2⟩
      have H1 := Lib.hid h1
      have H2 := Lib.hid h2
      clear h1 h2 HC1 q0 q1 q2 q3 f0 f2 f3
      go_wp2_with fail
      refine (HC2.out _).mono ?_
      rintro e w3 ⟨rfl, hb3⟩
      obtain ⟨hN3, hL3, hG3⟩ := HFIN.out w2 w3 H1.out H2.out hb3
      have HN3 := Lib.hid hN3
      have HL3 := Lib.hid hL3
      have HG3 := Lib.hid hG3
      have hlen3 : j * 4 + 3 < ((TC sl (marksTr k (l.take j) ++ l.drop j)).set (j * 4) (.int .i64 (kq : Int))).length := by have := hN3.1; omega
      obtain ⟨y2, ey2⟩ : ∃ y2, ((TC sl (marksTr k (l.take j) ++ l.drop j)).set (j * 4) (.int .i64 (kq : Int)))[j * 4 + 2]? = some y2 := ⟨_, List.getElem?_eq_getElem (by omega)⟩
      obtain ⟨y3, ey3⟩ : ∃ y3, ((TC sl (marksTr k (l.take j) ++ l.drop j)).set (j * 4) (.int .i64 (kq : Int)))[j * 4 + 3]? = some y3 := ⟨_, List.getElem?_eq_getElem hlen3⟩
      have q2 := HN3.out.cell ey2
      have q3 := HN3.out.cell ey3
      have f2 := HN3.out.soft (o + (j * 4 + 2))
      have f3 := HN3.out.soft (o + (j * 4 + 3))
      rw [← Nat.add_assoc] at q2 q3 f2 f3
      have hst2 := HN3.out.stored (j * 4 + 2) (.string ⟨tx.toArray⟩)
      have hst3 := hst2.1.stored (j * 4 + 3) (.int .i64 ((kq : Int) + 1 + (n : Int) + 1))
      rw [HSET.out] at hst3
      have HN4 := Lib.hid hst3.1
      have hgg := grown_trans hst2.2 hst3.2
      have HL4 := Lib.hid (HL3.out.grownA HN3.out (by decide) hgg)
      have HG4 := Lib.hid (HG3.out.trans (OnlyB.of_grown hgg (fun i hi => by injection hi with hi; subst hi; exact hgC) (Nat.le_trans hB (Nat.le_trans hbw HG3.out.below.size))))
      clear hN3 hL3 hG3 hb3 HC2 HFIN hst2 hst3 hgg HSET H1 H2 HW1 HL3 HG3 HST0 hlen3 ey2 ey3 HN3
      go_wp2_with fail
      go_roundw
      case rel => exact ⟨j + 1, by omega, by rw [HKN.out], by go_num, HN4, HL4, HG4⟩
      case measure => simp [intOf]; omega
    · have hjl : j = l.length := by omega
      rw [hjl, List.take_length, List.drop_length, List.append_nil] at HN
      rw [hjl, List.take_length, List.drop_of_length_le (by rw [List.length_map]; omega), List.append_nil] at HL
      have HF : Hid (OwnT B wr (.slice a l.length cap) sl (marksTr k l)) := ⟨by rw [marksTr_len]; exact HS.out, by rw [marksTr_len]; exact HN.out, HL.out⟩
      rw [hjl, List.take_length]
      clear HN HL
      go_wp2_with fail
      go_ret
      exact ⟨rfl, HF.out, HG.out⟩

set_option maxRecDepth 20000 in
set_option maxHeartbeats 4000000 in
theorem heldTraceS_any (l : List TrT) (k : Nat) (v : Value) (w : World) (hrow : RowT w v (marksTr k l)) (hz : l.length + totT l ≤ 1100000) (hk : k + markN l ≤ 4000000) (hk1 : 1 ≤ k) :
    Calls Tryz.prog 46 #[v, .int .i64 (k : Int)] w fun e w' => e = .returned (.int .i64 ((k + markN l : Nat) : Int)) ∧ Below w.heap.size w w' := by
  obtain ⟨a, cap, rfl, hc1, hc2, hat⟩ := hrow.traces
  rw [marksTr_len] at hc1 ⊢
  clear hrow
  unfold maxLen at hc2
  have HAT := Lib.hid hat
  clear hat
  go_enter Tryz.func46, Tryz.ntmps46
  go_wp2_with fail
  go_loopw [1, 5] (fun q i wr => ∃ j : Nat, j ≤ l.length ∧ q = .int .i64 ((k + markN (l.take j) : Nat) : Int) ∧ i = .int .i64 j ∧ Hid (Below w.heap.size w wr)) (fun _ i _ => l.length - (intOf i).toNat)
  case atStart => exact ⟨0, Nat.zero_le _, by simp [markN, totT], rfl, Below.refl _ _⟩
  case round =>
    obtain ⟨j, hj, rfl, rfl, HB⟩ := hrel
    by_cases hlt : j < l.length
    · obtain ⟨g, o, a2, c2, rfl, hg, ⟨k0, k1, k2, k3⟩, hrk⟩ := HAT.out j (by rw [marksTr_len]; exact hlt)
      rw [marksTr_at hlt] at k0 k1 k2 k3 hrk
      have s0 := (HB.out.cell (p := ⟨g, o + j * 4, none⟩) hg).trans k0
      have s1 := (HB.out.cell (p := ⟨g, o + j * 4 + 1, none⟩) hg).trans k1
      have s2 := (HB.out.cell (p := ⟨g, o + j * 4 + 2, none⟩) hg).trans k2
      have s3 := (HB.out.cell (p := ⟨g, o + j * 4 + 3, none⟩) hg).trans k3
      have ht1 := totT_at hlt
      have ht2 := markN_le (l := l) (j := j + 1)
      have ht3 := markN_next hlt
      have HKN : Hid ((((k + markN (l.take (j + 1)) : Nat)) : Int) = ((k + markN (l.take j) : Nat) : Int) + 1 + (l[j].2.1.length : Int) + 1 + 1) := by show _ = _; omega
      have hk4 : k + markN (l.take j) + l[j].2.1.length + 3 ≤ 4000000 := by omega
      have hkq1 : 1 ≤ k + markN (l.take j) := by omega
      generalize k + markN (l.take j) = kq at *
      generalize hn : l[j].2.1.length = n at *
      unfold mark1 at s0 s1 s2 s3 hrk
      simp only [marksT_len] at s0 s1 s2 s3 hrk
      rw [show ((kq + n + 2 : Nat) : Int) = (kq : Int) + 1 + (n : Int) + 1 by omega] at s3
      have HC1 := Lib.hid (heldStringS_at (k := kq + 1) (n := n) (i := (kq : Int) + 1) (r := (kq : Int) + 1 + (n : Int)) (by omega) (by omega) (hrk.below HB.out) (by omega) (by omega) (by omega))
      have HC2 := Lib.hid (fun W => mark_r (kq + 1 + n) ((kq : Int) + 1 + (n : Int)) (by omega) (by omega) (by omega) W)
      have hgw : g < wr.heap.size := by have := HB.out.size; omega
      have hj1 : (j : Int) < (l.length : Int) := by omega
      have hnn : decide ((kq : Int) + 1 + (n : Int) < 0) = false := by simp; omega
      clear k0 k1 k2 k3 hrk ht1 ht2 ht3 hn
      generalize markT (kq + 1 + n) = tx at *
      go_wp2_with fail
      refine HC1.out.mono ?_
      rintro e w1 ⟨rfl, hb1⟩
      have HB1 := Lib.hid (bth HB.out hb1 (Nat.le_refl _))
      have hgw1 : g < w1.heap.size := by have := hb1.size; omega
      have r2 := (hb1.cell (p := ⟨g, o + j * 4 + 2, none⟩) hgw).trans s2
      have r3 := (hb1.cell (p := ⟨g, o + j * 4 + 3, none⟩) hgw).trans s3
      clear hb1 HC1 s0 s1 s2 s3
      have ks := And.intro r2 r3
      go_wp2_with fail
      go_region_held3 (fun w' => w'.cell? ⟨g, o + j * 4 + 2, none⟩ = some (.string ⟨tx.toArray⟩) ∧ w'.cell? ⟨g, o + j * 4 + 3, none⟩ = some (.int .i64 ((kq : Int) + 1 + (n : Int) + 1))) (first | exact ks | exact k0)
        (first | (go_at_call 96; refine (HC2.out _).mono ?_; rintro e w5 ⟨rfl, hb5⟩; have k0 := And.intro ((hb5.cell (p := ⟨g, o + j * 4 + 2, none⟩) hgw1).trans ks.1) ((hb5.cell (p := ⟨g, o + j * 4 + 3, none⟩) hgw1).trans ks.2)))
      have s3 := k0.2
      have HB5 := Lib.hid ((Below.drew HB1.out).trans (hb5.mono HB1.out.size))
      clear hb5 k0 ks r2 r3
      go_wp2_with fail
      go_roundw
      case rel => exact ⟨j + 1, by omega, by rw [HKN.out], by go_num, HB5⟩
      case measure => simp [intOf]; omega
    · have hjl : j = l.length := by omega
      rw [hjl, List.take_length]
      clear HAT
      go_wp2_with fail
      go_ret
      exact ⟨rfl, HB.out⟩

end Go.Proofs.YtngldlconipnnaaGreatDoor

/- Walks: whether two lists of traces are the same. -/
namespace Go.Proofs.YtngldlconipnnaaGreatDoor
open Go.RowKit Pth

set_option maxRecDepth 20000 in
set_option maxHeartbeats 4000000 in
theorem eqTraceS_any (l m : List TrT) (v u : Value) (w : World) (hr1 : RowT w v l) (hr2 : RowT w u m) (hl : l.length + totT l ≤ 2000000) :
    Calls Tryz.prog 44 #[v, u] w (BoolPost (decide (l = m)) w) := by
  obtain ⟨a, cap, rfl, hc1, hc2, hat⟩ := hr1.traces
  obtain ⟨a2, cap2, rfl, hc3, hc4, hat2⟩ := hr2.traces
  clear hr1 hr2
  unfold maxLen at hc2 hc4
  have HAT := Lib.hid hat
  have HAT2 := Lib.hid hat2
  clear hat hat2
  by_cases hlen : l.length = m.length
  · have hlen1 : ((l.length : Int) != (m.length : Int)) = false := by simp [hlen]
    have hle1 : l.length ≤ m.length := by omega
    have hle2 : m.length ≤ l.length := by omega
    clear hlen
    go_enter Tryz.func44, Tryz.ntmps44
    go_wp2_with fail
    go_loopw [5] (fun i wr => ∃ k : Nat, k ≤ l.length ∧ i = .int .i64 k ∧ Hid (l.take k = m.take k) ∧ Hid (Below w.heap.size w wr)) (fun i _ => l.length - (intOf i).toNat)
    case atStart => exact ⟨0, Nat.zero_le _, rfl, rfl, Below.refl _ _⟩
    case round =>
      obtain ⟨k, hk, rfl, HO, HB⟩ := hrel
      by_cases hlt : k < l.length
      · obtain ⟨g, o, b2, d2, rfl, hg, ⟨k0, k1, k2, k3⟩, hrk⟩ := HAT.out k hlt
        obtain ⟨g2, o2, b3, d3, rfl, hg2, ⟨m0, m1, m2, m3⟩, hrk2⟩ := HAT2.out k (by omega)
        have s0 := (HB.out.cell (p := ⟨g, o + k * 4, none⟩) hg).trans k0
        have s1 := (HB.out.cell (p := ⟨g, o + k * 4 + 1, none⟩) hg).trans k1
        have s2 := (HB.out.cell (p := ⟨g, o + k * 4 + 2, none⟩) hg).trans k2
        have s3 := (HB.out.cell (p := ⟨g, o + k * 4 + 3, none⟩) hg).trans k3
        have t0 := (HB.out.cell (p := ⟨g2, o2 + k * 4, none⟩) hg2).trans m0
        have t1 := (HB.out.cell (p := ⟨g2, o2 + k * 4 + 1, none⟩) hg2).trans m1
        have t2 := (HB.out.cell (p := ⟨g2, o2 + k * 4 + 2, none⟩) hg2).trans m2
        have t3 := (HB.out.cell (p := ⟨g2, o2 + k * 4 + 3, none⟩) hg2).trans m3
        have hi1 : (k : Int) < (l.length : Int) := by omega
        have hi2 : (k : Int) < (m.length : Int) := by omega
        have hbs := HB.out.size
        have hgw : g < wr.heap.size := by omega
        have hgw2 : g2 < wr.heap.size := by omega
        obtain ⟨b, hbE⟩ : ∃ b, decide (l[k] = m[k]) = b := ⟨_, rfl⟩
        have HC := Lib.hid (fun W (h : Below w.heap.size w W) => eqTrace_b ⟨b2, d2, rfl, hrk.below h⟩ ⟨b3, d3, rfl, hrk2.below h⟩ (by have := totT_at hlt; omega) hbE)
        have HS : Hid (if b then l.take (k + 1) = m.take (k + 1) else decide (l = m) = false) := by
          unfold Hid
          subst hbE
          by_cases he : l[k] = m[k]
          · simp only [he, decide_true, if_true]; exact same_next HO.out hlt (by omega) he
          · simp only [he, decide_false]; exact decide_eq_false (same_not hlt (by omega) he)
        clear HO hbE k0 k1 k2 k3 m0 m1 m2 m3 hrk hrk2
        generalize l[k] = x at *
        generalize m[k] = y at *
        obtain ⟨x1, xi, x2, x3⟩ := x
        obtain ⟨y1, yi, y2, y3⟩ := y
        unfold trV at HC
        simp only at s0 s1 s2 s3 t0 t1 t2 t3 HC
        generalize xi.length = n1 at *
        generalize yi.length = n2 at *
        have ks := And.intro (And.intro s0 (And.intro s1 (And.intro s2 s3))) (And.intro t0 (And.intro t1 (And.intro t2 t3)))
        go_wp2_with fail
        go_region_held3 (fun w' => (w'.cell? ⟨g, o + k * 4, none⟩ = some (.int .i64 x1) ∧ w'.cell? ⟨g, o + k * 4 + 1, none⟩ = some (.slice b2 n1 d2) ∧ w'.cell? ⟨g, o + k * 4 + 2, none⟩ = some (.string ⟨x2.toArray⟩) ∧ w'.cell? ⟨g, o + k * 4 + 3, none⟩ = some (.int .i64 x3)) ∧
            (w'.cell? ⟨g2, o2 + k * 4, none⟩ = some (.int .i64 y1) ∧ w'.cell? ⟨g2, o2 + k * 4 + 1, none⟩ = some (.slice b3 n2 d3) ∧ w'.cell? ⟨g2, o2 + k * 4 + 2, none⟩ = some (.string ⟨y2.toArray⟩) ∧ w'.cell? ⟨g2, o2 + k * 4 + 3, none⟩ = some (.int .i64 y3))) (first | exact ks | exact k0)
          (first | (go_at_call 102; refine (HC.out _ (Below.drew HB.out)).mono ?_; rintro e w5 ⟨rfl, hb5⟩
                    have k0 := And.intro (And.intro ((hb5.cell (p := ⟨g, o + k * 4, none⟩) hgw).trans s0) (And.intro ((hb5.cell (p := ⟨g, o + k * 4 + 1, none⟩) hgw).trans s1) (And.intro ((hb5.cell (p := ⟨g, o + k * 4 + 2, none⟩) hgw).trans s2) ((hb5.cell (p := ⟨g, o + k * 4 + 3, none⟩) hgw).trans s3))))
                      (And.intro ((hb5.cell (p := ⟨g2, o2 + k * 4, none⟩) hgw2).trans t0) (And.intro ((hb5.cell (p := ⟨g2, o2 + k * 4 + 1, none⟩) hgw2).trans t1) (And.intro ((hb5.cell (p := ⟨g2, o2 + k * 4 + 2, none⟩) hgw2).trans t2) ((hb5.cell (p := ⟨g2, o2 + k * 4 + 3, none⟩) hgw2).trans t3))))))
        have HB5 := Lib.hid (bth (Below.drew HB.out) hb5 (Nat.le_refl _))
        clear hb5 k0 ks
        rcases b with _ | _
        · go_wp2_with fail
          go_ret
          exact ⟨ret_bool (by have := HS.out; simpa using this.symm), HB5.out⟩
        · go_wp2_with fail
          go_roundw
          case rel => exact ⟨k + 1, by omega, by go_num, HS.out, HB5⟩
          case measure => simp [intOf]; omega
      · have HS : Hid (decide (l = m) = true) := decide_eq_true (same_all HO.out (by omega) (by omega))
        clear HO HAT HAT2
        go_wp2_with fail
        go_ret
        exact ⟨ret_bool HS.out.symm, HB.out⟩
  · have hlen1 : ((l.length : Int) != (m.length : Int)) = true := by simp; omega
    have HS : Hid (decide (l = m) = false) := decide_eq_false (fun h => hlen (by rw [h]))
    clear HAT HAT2
    go_enter Tryz.func44, Tryz.ntmps44
    go_wp2_with fail
    go_ret
    exact ⟨ret_bool HS.out.symm, Below.refl _ _⟩
end Go.Proofs.YtngldlconipnnaaGreatDoor

/- Walks: the laws over a plan and traces whose answers are plain, given contracts of both programs. -/
namespace Go.Proofs.YtngldlconipnnaaGreatDoor
open Go.RowKit Pth

set_option maxRecDepth 20000 in
set_option maxHeartbeats 16000000 in
theorem exactTrueTraces_of (ls : List (List Int)) (l : List Int) (bs : List Bool) (rs : List (List OpT)) (m1 : List TrT) (p : Bool) (G : Bool) (v u1 : Value) (w : World) (hst : PlanV w v ls l bs rs) (hx : ∀ l ∈ rs, ∀ f ∈ l, f.2.2.length ≤ maxLen) (hm1 : RowT w u1 m1) (hx1 : ∀ t ∈ m1, HeldT maxLen t)
    (hsp : ∀ W u y1, PlanV W u ls l bs rs → RowT W y1 m1 → Calls Tryz.prog 18 #[u, y1] W (fun e w' => e = .returned (.tuple #[.bool p, .bool G]) ∧ Below W.heap.size W w'))
    (him : ∀ W u y1, PlanV W u ls l bs rs → RowT W y1 m1 → Calls Tryz.prog 14 #[u, y1] W (fun e w' => e = .returned (.tuple #[.bool p, .bool G]) ∧ Below W.heap.size W w')) :
    Calls Tryz.prog 8 #[v, u1] w (YesW w) := by
  have HST := Lib.hid hst
  have HSP := Lib.hid hsp
  have HIM := Lib.hid him
  clear hsp him
  obtain ⟨nv, ov, sv, rv, rfl, h1, h2, h3, h4⟩ := hst
  obtain ⟨as0, cs, rfl, hs1, hs2, _⟩ := h3.boolsW
  obtain ⟨an, cn, rfl, hn1, hn2, _⟩ := h1.lists
  obtain ⟨ao, co, rfl, ho1, ho2, _⟩ := h2.ints
  obtain ⟨ar, cr, rfl, hr1, hr2, _⟩ := h4.lists
  clear h1 h2 h3 h4
  have HM1 := Lib.hid hm1
  have HX1 := Lib.hid hx1
  obtain ⟨ma1, mc1, rfl, hma1, hmb1, _⟩ := hm1.traces
  clear hm1 hx1
  unfold maxLen at hs2 hn2 ho2 hr2 hmb1
  obtain ⟨wa, hwa⟩ : ∃ wa, wa = w.alloc (.cells #[.slice an ls.length cn, .slice ao l.length co, .slice as0 bs.length cs, .slice ar rs.length cr] 51) := ⟨_, rfl⟩
  have hsz : wa.heap.size = w.heap.size + 1 := by rw [hwa]; simp
  have P0 : Hid (Blk4 wa w.heap.size 51 (.slice an ls.length cn) (.slice ao l.length co) (.slice as0 bs.length cs) (.slice ar rs.length cr)) := by rw [hwa]; exact Blk4.new
  have HA : Hid (Below w.heap.size w wa) := by rw [hwa]; exact (Below.refl w.heap.size w).alloc (Nat.le_refl _) _
  have hlt0 : w.heap.size < wa.heap.size := by omega
  obtain ⟨c0, c1, c2, c3⟩ := P0.out.cells
  have HWA := Lib.hid hwa
  have HS := Lib.hid (szPlan_any ls l bs rs 1048576 _ wa (HST.out.below HA.out) hx (by omega))
  have HPV : Hid (∀ W, Below wa.heap.size wa W → PlanV W (.agg #[.slice an ls.length cn, .slice ao l.length co, .slice as0 bs.length cs, .slice ar rs.length cr]) ls l bs rs) := fun W h => HST.out.below (bth HA.out h (Nat.le_refl _))
  have HMV1 : Hid (∀ W, Below wa.heap.size wa W → RowT W (.slice ma1 m1.length mc1) m1) := fun W h => HM1.out.below (bth HA.out h (Nat.le_refl _))
  clear hwa hx
  go_enter Tryz.func8, Tryz.ntmps8
  go_wp2_with fail
  rw [← HWA.out]
  refine HS.out.mono ?_
  rintro e w1 ⟨r0, rfl, hle0, hr0, hb1⟩
  have K0 := Lib.hid hb1
  clear hb1 HS c0 c1 c2 c3
  by_cases h0 : r0 < 0
  · clear hr0 hle0
    go_wp2_with fail
    go_ret
    exact ⟨rfl, bth HA.out K0.out (Nat.le_refl _)⟩
  have hz : planZ ls l bs rs ≤ 1100000 := by have := hr0 (by omega); omega
  have hz2 : planZ ls l bs rs ≤ 2000000 := by omega
  obtain ⟨n0, rfl⟩ : ∃ n0 : Nat, r0 = n0 := ⟨r0.toNat, by omega⟩
  have hn0 : n0 ≤ 2000000 := by omega
  clear hr0
  go_wp2_with fail
  refine (szTraceS_any m1 n0 _ w1 (HMV1.out w1 K0.out) HX1.out hn0).mono ?_
  rintro e x1 ⟨r1, rfl, hle1, hr1, hb1⟩
  have KX1 := Lib.hid (bth K0.out hb1 (Nat.le_refl _))
  clear hb1
  by_cases hc1 : r1 < 0
  · clear hr1
    go_wp2_with fail
    go_ret
    exact ⟨rfl, bth HA.out KX1.out (Nat.le_refl _)⟩
  have hml1 : m1.length + totT m1 ≤ 1100000 := by have := (hr1 (by omega)).1; omega
  clear hr1
  obtain ⟨c0, c1, c2, c3⟩ := (P0.out.below KX1.out hlt0).cells
  have HTO := Lib.hid (fun W (hb : PlanV W _ ls l bs rs) => toPlan_any ls l bs rs (.agg #[.slice an ls.length cn, .slice ao l.length co, .slice as0 bs.length cs, .slice ar rs.length cr]) W hb hz2)
  have HTI1 := Lib.hid (fun W (hb : RowT W _ m1) => toTraceS_any m1 (.slice ma1 m1.length mc1) W hb (by omega))
  have HEI1 : Hid (∀ W x y, RowT W x m1 → RowT W y m1 → Calls Tryz.prog 44 #[x, y] W fun e w' => e = .returned (.bool true) ∧ Below W.heap.size W w') := fun W x y h1 h2 => by
    have := eqTraceS_any m1 m1 x y W h1 h2 (by omega)
    rwa [decide_eq_true (rfl : m1 = m1)] at this
  have HE : Hid (∀ W x y, PlanV W x ls l bs rs → PlanV W y ls l bs rs → Calls Tryz.prog 30 #[x, y] W fun e w' => e = .returned (.bool true) ∧ Below W.heap.size W w') := fun W x y h1 h2 => eqPlan_same ls l bs rs x y W h1 h2 hz2
  have hne : (G != G) = false := by cases G <;> rfl
  have hnp : (p != p) = false := by cases p <;> rfl
  -- the reference's answer
  go_wp2_with fail
  refine (HTO.out x1 (HPV.out x1 KX1.out)).mono ?_
  rintro e w2 ⟨v2, rfl, ho2', hb2⟩
  have K2 := Lib.hid (bth KX1.out hb2 (Nat.le_refl _))
  have HG2 := Lib.hid ho2'.view
  clear hb2 ho2' c0 c1 c2 c3
  go_wp2_with fail
  refine (HTI1.out w2 (HMV1.out w2 K2.out)).mono ?_
  rintro e p1 ⟨y1, spl1, rfl, hoy1, hbp1⟩
  replace hoy1 := hoy1.view
  have KP1 := Lib.hid (bth K2.out hbp1 (Nat.le_refl _))
  have HGP1 := Lib.hid (HG2.out.below hbp1)
  have HYP1_1 := Lib.hid (id hoy1)
  clear hoy1 hbp1
  go_wp2_with fail
  refine (HSP.out p1 v2 y1 HGP1.out HYP1_1.out).mono ?_
  rintro e w3 ⟨rfl, hb3⟩
  have K3 := Lib.hid (bth KP1.out hb3 (Nat.le_refl _))
  have sa3 := K3.out.size
  clear hb3
  obtain ⟨c0, c1, c2, c3⟩ := (P0.out.below K3.out hlt0).cells
  -- copies of the arguments
  go_wp2_with fail
  refine (HTO.out w3 (HPV.out w3 K3.out)).mono ?_
  rintro e w4 ⟨v4, rfl, ho4, hb4⟩
  have s34 := hb4.size
  have HO4 := Lib.hid ho4
  obtain ⟨bn, dn, bo, do', bb, db, br, dr, rfl⟩ := ho4.slices
  obtain ⟨wb, hwb⟩ : ∃ wb, wb = w4.alloc (.cells #[.slice bn ls.length dn, .slice bo l.length do', .slice bb bs.length db, .slice br rs.length dr] 30) := ⟨_, rfl⟩
  have X4 : Hid (Blk4 wb w4.heap.size 30 (.slice bn ls.length dn) (.slice bo l.length do') (.slice bb bs.length db) (.slice br rs.length dr)) := by rw [hwb]; exact Blk4.new
  have hAB : Below w4.heap.size w4 wb := by rw [hwb]; exact (Below.refl w4.heap.size w4).alloc (Nat.le_refl _) _
  have hsb : wb.heap.size = w4.heap.size + 1 := by rw [hwb]; simp
  have D4 := Lib.hid (Below.refl wb.heap.size wb)
  have E4 := Lib.hid hAB
  have KW4 := Lib.hid (bth (bth K3.out hb4 (Nat.le_refl _)) hAB (Nat.le_refl _))
  have HWB := Lib.hid hwb
  clear hb4 ho4 c0 c1 c2 c3 hwb hAB
  go_wp2_with fail
  rw [← HWB.out]

  refine (HTI1.out wb (HMV1.out wb KW4.out)).mono ?_
  rintro e q1 ⟨x1, sql1, rfl, hox1, hbq1⟩
  replace hox1 := hox1.view
  have sq1 := hbq1.size
  have EQ1 := Lib.hid (bth E4.out hbq1 (Nat.le_refl _))
  have DQ1 := Lib.hid (bth D4.out hbq1 (Nat.le_refl _))
  have KQ1 := Lib.hid (bth KW4.out hbq1 (Nat.le_refl _))
  have HX1_1 := Lib.hid hox1
  clear hox1 hbq1
  obtain ⟨x00, x01, x02, x03⟩ := (X4.out.below DQ1.out (by omega)).cells
  -- the program's answer
  go_wp2_with fail
  refine (HIM.out q1 _ x1 (HO4.out.view.below EQ1.out) (id HX1_1.out)).mono ?_
  rintro e w6 ⟨rfl, hb6⟩
  have s6 := hb6.size
  have E6 := Lib.hid (bth EQ1.out hb6 (Nat.le_refl _))
  have D6 := Lib.hid (bth DQ1.out hb6 (Nat.le_refl _))
  have K6 := Lib.hid (bth KQ1.out hb6 (Nat.le_refl _))
  have HX1_6 := Lib.hid (RowT.below HX1_1.out hb6)
  clear hb6 x00 x01 x02 x03
  have hlt7 : w.heap.size < w6.heap.size := by omega
  have hlt8 : w4.heap.size < w6.heap.size := by omega
  have PD : Hid (Blk4 w6.drew w.heap.size 51 (.slice an ls.length cn) (.slice ao l.length co) (.slice as0 bs.length cs) (.slice ar rs.length cr)) := P0.out.below (Below.drew K6.out) hlt0
  have XD : Hid (Blk4 w6.drew w4.heap.size 30 (.slice bn ls.length dn) (.slice bo l.length do') (.slice bb bs.length db) (.slice br rs.length dr)) := X4.out.below (Below.drew D6.out) (by omega)
  have ks := And.intro PD.out.cells XD.out.cells
  have HX7 : Hid (PlanV w6.drew (.agg #[.slice bn ls.length dn, .slice bo l.length do', .slice bb bs.length db, .slice br rs.length dr]) ls l bs rs) := HO4.out.view.below (Below.drew E6.out)
  have HST7 : Hid (PlanV w6.drew (.agg #[.slice an ls.length cn, .slice ao l.length co, .slice as0 bs.length cs, .slice ar rs.length cr]) ls l bs rs) := HPV.out w6.drew (Below.drew K6.out)
  go_wp2_with fail
  -- the copy is as it was
  go_region_held3 (fun w' => (w'.cell? ⟨w.heap.size, 0, none⟩ = some (.slice an ls.length cn) ∧ w'.cell? ⟨w.heap.size, 1, none⟩ = some (.slice ao l.length co) ∧ w'.cell? ⟨w.heap.size, 2, none⟩ = some (.slice as0 bs.length cs) ∧ w'.cell? ⟨w.heap.size, 3, none⟩ = some (.slice ar rs.length cr)) ∧ (w'.cell? ⟨w4.heap.size, 0, none⟩ = some (.slice bn ls.length dn) ∧ w'.cell? ⟨w4.heap.size, 1, none⟩ = some (.slice bo l.length do') ∧ w'.cell? ⟨w4.heap.size, 2, none⟩ = some (.slice bb bs.length db) ∧ w'.cell? ⟨w4.heap.size, 3, none⟩ = some (.slice br rs.length dr))) (first | exact ks)
    (first
      | (go_at_call 24; refine (HTO.out _ (by exact HST7.out)).mono ?_; rintro e w7b ⟨v7, rfl, ho7, hb7⟩
         have ks := And.intro (PD.out.below hb7 hlt7).cells (XD.out.below hb7 hlt8).cells
         have HO7 := Lib.hid ho7.view
         have HXB := Lib.hid (PlanV.below (by exact HX7.out) hb7)
         have C7 := Lib.hid hb7
         clear ho7 hb7)
      | (go_at_call 30; refine (HE.out _ _ _ (by exact HXB.out) (by exact HO7.out)).mono ?_; rintro e w8 ⟨rfl, hb8⟩
         have C8 := Lib.hid (bth C7.out hb8 (Nat.le_refl _))
         have ks := And.intro (PD.out.below C8.out hlt7).cells (XD.out.below C8.out hlt8).cells
         clear hb8))
  all_goals
    have K8 := Lib.hid (bth (Below.drew K6.out) C8.out (Nat.le_refl _))
    have HX1_8 := Lib.hid (RowT.below (w := w6.drew) (show RowT w6.drew _ _ from HX1_6.out) C8.out)
    clear ks PD XD HX7 HST7 HO7 HXB C7 C8
    go_wp2_with fail
    refine (HTI1.out w8 (HMV1.out w8 K8.out)).mono ?_
    rintro e r1 ⟨z1, srl1, rfl, hoz1, hbr1⟩
    replace hoz1 := hoz1.view
    have KR1 := Lib.hid (bth K8.out hbr1 (Nat.le_refl _))
    have HZ1 := Lib.hid (id hoz1)
    have HX1_R1 := Lib.hid (RowT.below HX1_8.out hbr1)
    clear hoz1 hbr1
    go_wp2_with fail
    refine (HEI1.out r1 _ _ (id HX1_R1.out) HZ1.out).mono ?_
    rintro e s1 ⟨rfl, hbs1⟩
    have KS1 := Lib.hid (bth KR1.out hbs1 (Nat.le_refl _))
    have HX1_S1 := Lib.hid (RowT.below HX1_R1.out hbs1)
    clear hbs1 HZ1
    go_wp2_with fail
    go_ret
    exact ⟨rfl, bth HA.out KS1.out (Nat.le_refl _)⟩

end Go.Proofs.YtngldlconipnnaaGreatDoor
