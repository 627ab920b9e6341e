/- Texts of one claim, joined in their order. -/
import Derived.ProofKit
import Derived.SliceStrings
import Derived.SizedLaws
import Derived.OpenShut
import Derived.Deep.SlicePairs
import Derived.Lib.SmallJoins
import Derived.Deep.DeepHandedRow
import Derived.Deep.DeepLaidRun
import Derived.Test.YtngldlconipnnaaGreatDoorCards
import Derived.Test.YtngldlconipnnaaGreatDoorTie
import Derived.Deep.CutBlock
import Derived.ArgAppend
import Derived.Laws.CopyOwn
import Derived.Test.YtngldlconipnnaaGreatDoorM3
import Derived.Test.YtngldlconipnnaaGreatDoorM6
import Derived.Test.YtngldlconipnnaaGreatDoorM4
import Derived.Test.YtngldlconipnnaaGreatDoorM11
import Derived.Test.YtngldlconipnnaaGreatDoorM1

/- What the rows of chapter 5 share: how graphs that came in read. -/
namespace Go.Proofs.YtngldlconipnnaaGreatDoor
open Go.ChangeShapes Go.WideShapes Go.ChangeAt Go.RowKit Pth

theorem own : ownKnob Tryz.prog.godebug = none := by kernel_rfl
theorem laidOut : laidOutB Tryz.prog = true := by kernel_rfl
theorem met_none (w : World) : laidMet Tryz.prog [] w := ⟨[], rfl, List.nodup_nil, fun _ _ h => by cases h⟩

/-- A slice of numbers that came in. -/
theorem ints_cells {H : Type} {enc : TypeId × Value → H} {W : World} {fuel : Nat} {v : Value} {x : DataW H × List MemPlace}
    (h : DataW.trod enc Tryz.prog W 0 (fun _ => true) true fuel 24 [v] = some x) : ∃ l : List Int, RowV W v (I l) := by
  rcases open_ints Tryz.underlying24 Tryz.underlying3 (by kernel_rfl) h with ⟨hcs, _⟩ | ⟨x, len, cap, zs, hcs, _, hl, hm, hz, hx, hcell, hwz⟩
  · simp at hcs
    subst hcs
    exact ⟨[], none, 0, rfl, Nat.le_refl _, by unfold maxLen; omega, fun k hk => absurd hk (by simp [I])⟩
  · simp at hcs
    subst hcs
    simp only [if_true] at hz
    have hlen : (zs.take len).length = len := by rw [List.length_take]; omega
    refine ⟨zs.take len, some x, cap, by rw [I_len, hlen], by rw [I_len, hlen]; omega, by omega, fun k hk => ?_⟩
    rw [I_len, hlen] at hk
    have hc := hcell k (by omega)
    have h0 := hcell 0 (by omega)
    obtain ⟨b, off, spot⟩ := x
    have hspot : spot = none := by simpa [Addr.add] using World.cell?_spot h0
    subst hspot
    rw [add_addr] at hc
    refine ⟨b, off, rfl, World.block_lt_of_cell? _ _ hc, ?_⟩
    rw [hc]
    simp only [I, List.getElem_map, List.getElem_take]
    rw [List.getD_eq_getElem?_getD, List.getElem?_eq_getElem (by omega)]
    rfl
/-- A slice of slices of numbers that came in. -/
theorem lists_cells {H : Type} {enc : TypeId × Value → H} {W : World} {fuel : Nat} {v : Value} {x : DataW H × List MemPlace}
    (h : DataW.trod enc Tryz.prog W 0 (fun _ => true) true fuel 23 [v] = some x) : ∃ ls : List (List Int), RowN W v ls := by
  rcases Deep.open_slice Tryz.underlying23 h with ⟨hcs, _⟩ | ⟨a, len, cap, m, n, D, Pl, hcs, hb, hl, hm, hmm, _, hx⟩
  · simp at hcs
    subst hcs
    exact ⟨[], [], rfl, ⟨none, 0, rfl, Nat.le_refl _, by unfold maxLen; omega, fun k hk => absurd hk (by simp)⟩, fun k h1 h2 => absurd h2 (by simp)⟩
  · simp at hcs
    subst hcs
    simp only [if_true] at hmm
    have each : ∀ i, i < m → ∃ q : Value × List Int, W.cell? ((a.add (i * 1)).add 0) = some q.1 ∧ RowV W q.1 (I q.2) := by
      intro i hi
      obtain ⟨cs', h1, h2⟩ := hx i hi
      rw [show Tryz.prog.cellsOf 24 = 1 by kernel_rfl] at h1
      obtain ⟨_, hlen, hcell⟩ := World.cells?_some h1
      match cs', hlen with
      | [u], _ =>
        obtain ⟨l, hl⟩ := ints_cells h2
        have q0 := hcell 0 (by omega)
        exact ⟨(u, l), by simpa using q0, hl⟩
    obtain ⟨q, hq⟩ := Deep.choose_lt each
    have hlen : ((List.range len).map fun i => (q i).2).length = len := by simp
    have hlen1 : ((List.range len).map fun i => (q i).1).length = len := by simp
    refine ⟨(List.range len).map fun i => (q i).2, (List.range len).map fun i => (q i).1, by rw [hlen, hlen1], ⟨some a, cap, by rw [hlen1], by rw [hlen1]; exact hl, hm, fun k hk => ?_⟩, fun k h1 h2 => ?_⟩
    · rw [hlen1] at hk
      obtain ⟨b, off, spot⟩ := a
      have h0 := (hq 0 (by omega)).1
      have hspot : spot = none := by simpa [Addr.add] using World.cell?_spot h0
      subst hspot
      have hk1 := (hq k (by omega)).1
      rw [add_addr, add_addr, Nat.mul_one, Nat.add_zero] at hk1
      refine ⟨b, off, rfl, World.block_lt_of_cell? _ _ hk1, ?_⟩
      rw [hk1]
      simp
    · have := (hq k (by rw [hlen1] at h1; omega)).2
      simpa using this
set_option maxRecDepth 100000 in
/-- A graph that came in. -/
theorem graph_in {H : Type} {enc : TypeId × Value → H} {W : World} {base : Nat} {v : Value} {d : DataW H} {p : List MemPlace} (hv : Value.okWide Tryz.prog W .any base 48 v)
    (h : DataW.Trod enc Tryz.prog W 0 (fun _ => true) true 48 v d p) : ∃ ls l, GraphV W v ls l := by
  obtain ⟨v0, v1, y0, y1, n, rfl, _, _, h0, h1⟩ := Joins.open_agg2 Tryz.underlying48 (by kernel_rfl) (by kernel_rfl) hv h
  obtain ⟨ls, r0⟩ := lists_cells h0
  obtain ⟨l, r1⟩ := ints_cells h1
  exact ⟨ls, l, v0, v1, rfl, r0, r1⟩
end Go.Proofs.YtngldlconipnnaaGreatDoor

/- What the rows of chapter 7 share: how texts, ops, bools, results and plans that came in read. -/
namespace Go.Proofs.YtngldlconipnnaaGreatDoor
open Go.ChangeShapes Go.WideShapes Go.ChangeAt Go.RowKit Pth

/-- A slice of texts that came in. -/
theorem texts_cells {H : Type} {enc : TypeId × Value → H} {W : World} {fuel : Nat} {v : Value} {x : DataW H × List MemPlace}
    (h : DataW.trod enc Tryz.prog W 0 (fun _ => true) true fuel 32 [v] = some x) : ∃ l : List (List UInt8), RowV W v (S l) ∧ ∀ x ∈ l, x.length ≤ maxLen := by
  rcases open_strings Tryz.underlying32 Tryz.underlying9 (by kernel_rfl) h with ⟨hcs, _⟩ | ⟨x, len, cap, ss, hcs, _, hl, hm, hz, hx, hcell, hws⟩
  · simp at hcs
    subst hcs
    exact ⟨[], ⟨none, 0, rfl, Nat.le_refl _, by unfold maxLen; omega, fun k hk => absurd hk (by simp [S])⟩, fun x hx => by simp at hx⟩
  · simp at hcs
    subst hcs
    simp only [if_true] at hz
    have hlen : ((ss.take len).map (·.data.toList)).length = len := by rw [List.length_map, List.length_take]; omega
    refine ⟨(ss.take len).map (·.data.toList), ⟨some x, cap, by rw [S_len, hlen], by rw [S_len, hlen]; omega, by omega, fun k hk => ?_⟩, fun y hy => ?_⟩
    · rw [S_len, hlen] at hk
      have hc := hcell k (by omega)
      have h0 := hcell 0 (by omega)
      obtain ⟨b, off, spot⟩ := x
      have hspot : spot = none := by simpa [Addr.add] using World.cell?_spot h0
      subst hspot
      rw [add_addr] at hc
      refine ⟨b, off, rfl, World.block_lt_of_cell? _ _ hc, ?_⟩
      rw [hc]
      simp only [S, List.getElem_map, List.getElem_take]
      rw [List.getD_eq_getElem?_getD, List.getElem?_eq_getElem (by omega)]
      rfl
    · simp only [List.mem_map] at hy
      obtain ⟨z, hz1, rfl⟩ := hy
      have := hws z (List.mem_of_mem_take hz1)
      show z.data.toList.length ≤ maxLen
      rw [Array.length_toList]
      exact this

/-- A slice of results that came in. -/
theorem res_cells {H : Type} {enc : TypeId × Value → H} {W : World} {fuel : Nat} {v : Value} {x : DataW H × List MemPlace}
    (h : DataW.trod enc Tryz.prog W 0 (fun _ => true) true fuel 52 [v] = some x) : ∃ l : List ResT, RowR W v l ∧ ∀ f ∈ l, f.1.length ≤ maxLen := by
  rcases Deep.open_slice_pairs Tryz.underlying52 Tryz.underlying108 (by kernel_rfl) rfl rfl (by kernel_rfl) (by kernel_rfl) h with ⟨hcs, _⟩ | ⟨a, len, cap, m, n, V0, V1, D0, D1, P0, P1, hcs, _, hl, hm, hmm, _, hc⟩
  · simp at hcs
    subst hcs
    exact ⟨[], ⟨none, 0, rfl, rfl, Nat.le_refl _, by unfold maxLen; omega, fun k hk => absurd hk (by simp [RC])⟩, fun f hf => by simp at hf⟩
  · simp at hcs
    subst hcs
    simp only [if_true] at hmm
    have each : ∀ i, i < m → ∃ q : ResT, W.cell? (a.add (i * 2)) = some (.string ⟨q.1.toArray⟩) ∧ W.cell? (a.add (i * 2 + 1)) = some (.int .i64 q.2) ∧ q.1.length ≤ maxLen := by
      intro i hi
      obtain ⟨c0, c1, t0, t1⟩ := hc i hi
      obtain ⟨s0, e0, _, z0⟩ := DataW.trod_string Tryz.underlying9 t0
      obtain ⟨n1, e1, _, _⟩ := DataW.trod_int Tryz.underlying3 t1
      simp at e0 e1
      rw [e0] at c0
      rw [e1] at c1
      exact ⟨(s0.data.toList, n1), by simpa using c0, by simpa using c1, by show s0.data.toList.length ≤ _; rw [Array.length_toList]; exact z0⟩
    obtain ⟨q, hq⟩ := Deep.choose_lt each
    have hlen : ((List.range len).map q).length = len := by simp
    refine ⟨(List.range len).map q, ⟨some a, cap, by rw [hlen], by rw [RC_len], by rw [hlen]; exact hl, hm, fun k hk => ?_⟩, fun f hf => ?_⟩
    · rw [RC_len, hlen] at hk
      obtain ⟨b, off, spot⟩ := a
      have h0 := (hq 0 (by omega)).1
      have hspot : spot = none := by simpa [Addr.add] using World.cell?_spot h0
      subst hspot
      have hi : k / 2 < len := by omega
      have hqi := hq (k / 2) (by omega)
      have hget : ((List.range len).map q)[k / 2]'(by rw [hlen]; exact hi) = q (k / 2) := by simp
      rw [add_addr, add_addr] at hqi
      refine ⟨b, off, rfl, World.block_lt_of_cell? _ _ hqi.1, ?_⟩
      have hat := RC_at (l := (List.range len).map q) (k := k / 2) (by rw [hlen]; exact hi)
      rw [hget] at hat
      have hkl : k < (RC ((List.range len).map q)).length := by rw [RC_len, hlen]; exact hk
      have hgk : (RC ((List.range len).map q))[k]? = some (RC ((List.range len).map q))[k] := List.getElem?_eq_getElem hkl
      rw [← hgk]
      rcases Nat.mod_two_eq_zero_or_one k with e | e
      · have ek : k = k / 2 * 2 := by omega
        have h1 := hat.1
        rw [← ek] at h1
        rw [h1, ← hqi.1]
        congr 2
        omega
      · have ek : k = k / 2 * 2 + 1 := by omega
        have h1 := hat.2
        rw [← ek] at h1
        rw [h1, ← hqi.2.1]
        congr 2
        omega
    · obtain ⟨i, hi, rfl⟩ := List.mem_map.1 hf
      have := hq i (by have := List.mem_range.1 hi; omega)
      exact this.2.2
/-- A struct of three fields, a cell each. -/
theorem three_cells {H : Type} {enc : TypeId × Value → H} {P : Program} {w : World} {base : Nat} {spare : Nat → Bool} {held : Bool} {t : TypeId} {f0 f1 f2 : Field} {n : Nat} {cs : List Value} {x : DataW H × List MemPlace}
    (he : P.underlying t = some (.struct #[f0, f1, f2])) (o0 : f0.offset = 0) (o1 : f1.offset = 1) (o2 : f2.offset = 2) (c0 : P.cellsOf f0.type = 1) (c1 : P.cellsOf f1.type = 1) (c2 : P.cellsOf f2.type = 1)
    (h : DataW.trod enc P w base spare held n t cs = some x) (hl : cs.length = 3) :
    ∃ (v0 v1 v2 : Value) (y0 y1 y2 : DataW H × List MemPlace) (k : Nat), cs = [v0, v1, v2] ∧ DataW.trod enc P w base spare held k f0.type [v0] = some y0 ∧ DataW.trod enc P w base spare held k f1.type [v1] = some y1 ∧ DataW.trod enc P w base spare held k f2.type [v2] = some y2 := by
  obtain ⟨xs, k, hk, hxy, _, hxl, hf⟩ := DataW.trod_struct he h
  match xs, hxl, cs, hl with
  | [y0, y1, y2], _, [v0, v1, v2], _ =>
    have g0 := hf 0 f0 rfl
    have g1 := hf 1 f1 rfl
    have g2 := hf 2 f2 rfl
    simp [o0, o1, o2, c0, c1, c2] at g0 g1 g2
    exact ⟨v0, v1, v2, y0, y1, y2, k, rfl, g0, g1, g2⟩

/-- A list of ops that came in. -/
theorem ops_cells {H : Type} {enc : TypeId × Value → H} {W : World} {fuel : Nat} {v : Value} {x : DataW H × List MemPlace}
    (hf : DataW.trod enc Tryz.prog W 0 (fun _ => true) true fuel 169 [v] = some x) : ∃ l : List OpT, RowO W v l ∧ ∀ f ∈ l, f.2.2.length ≤ maxLen := by
  rcases Deep.open_slice Tryz.underlying169 hf with ⟨hcs, _⟩ | ⟨a, len, cap, m, n, D, Pl, hcs, hb, hl, hm, hmm, _, hx⟩
  · simp at hcs
    subst hcs
    exact ⟨[], ⟨none, 0, rfl, rfl, Nat.le_refl _, by unfold maxLen; omega, fun k hk => absurd hk (by simp [OC])⟩, fun f hf => by simp at hf⟩
  · simp at hcs
    subst hcs
    simp only [if_true] at hmm
    have each : ∀ i, i < m → ∃ q : OpT, W.cell? ((a.add (i * 3)).add 0) = some (.int .i64 q.1) ∧ W.cell? ((a.add (i * 3)).add 1) = some (.int .i64 q.2.1) ∧ W.cell? ((a.add (i * 3)).add 2) = some (.string ⟨q.2.2.toArray⟩) ∧ q.2.2.length ≤ maxLen := by
      intro i hi
      obtain ⟨cs', h1, h2⟩ := hx i hi
      rw [show Tryz.prog.cellsOf 209 = 3 by kernel_rfl] at h1
      obtain ⟨_, hlen, hcell⟩ := World.cells?_some h1
      obtain ⟨v0, v1, v2, y0, y1, y2, k, rfl, g0, g1, g2⟩ := three_cells Tryz.underlying209 rfl rfl rfl (by kernel_rfl) (by kernel_rfl) (by kernel_rfl) h2 hlen
      obtain ⟨n0, e0, _, _⟩ := DataW.trod_int Tryz.underlying3 g0
      obtain ⟨n1, e1, _, _⟩ := DataW.trod_int Tryz.underlying3 g1
      obtain ⟨s2, e2, _, z2⟩ := DataW.trod_string Tryz.underlying9 g2
      simp at e0 e1 e2
      subst e0 e1 e2
      have q0 := hcell 0 (by omega)
      have q1 := hcell 1 (by omega)
      have q2 := hcell 2 (by omega)
      exact ⟨(n0, n1, s2.data.toList), by simpa using q0, by simpa using q1, by simpa using q2, by show s2.data.toList.length ≤ _; rw [Array.length_toList]; exact z2⟩
    obtain ⟨q, hq⟩ := Deep.choose_lt each
    have hlen : ((List.range len).map q).length = len := by simp
    refine ⟨(List.range len).map q, ⟨some a, cap, by rw [hlen], by rw [OC_len], by rw [hlen]; exact hl, hm, fun k hk => ?_⟩, fun f hf => ?_⟩
    · rw [OC_len, hlen] at hk
      obtain ⟨b, off, spot⟩ := a
      have h0 := (hq 0 (by omega)).1
      have hspot : spot = none := by simpa [Addr.add] using World.cell?_spot h0
      subst hspot
      have hi : k / 3 < len := by omega
      have hqi := hq (k / 3) (by omega)
      have hget : ((List.range len).map q)[k / 3]'(by rw [hlen]; exact hi) = q (k / 3) := by simp
      rw [add_addr, add_addr, add_addr, add_addr] at hqi
      refine ⟨b, off, rfl, World.block_lt_of_cell? _ _ hqi.1, ?_⟩
      have hat := OC_at (l := (List.range len).map q) (k := k / 3) (by rw [hlen]; exact hi)
      rw [hget] at hat
      have hm3 : k % 3 = 0 ∨ k % 3 = 1 ∨ k % 3 = 2 := by omega
      have hkl : k < (OC ((List.range len).map q)).length := by rw [OC_len, hlen]; exact hk
      have hgk : (OC ((List.range len).map q))[k]? = some (OC ((List.range len).map q))[k] := List.getElem?_eq_getElem hkl
      rw [← hgk]
      rcases hm3 with e | e | e
      · have ek : k = k / 3 * 3 := by omega
        have h1 := hat.1
        rw [← ek] at h1
        rw [h1, ← hqi.1]
        congr 2
        omega
      · have ek : k = k / 3 * 3 + 1 := by omega
        have h1 := hat.2.1
        rw [← ek] at h1
        rw [h1, ← hqi.2.1]
        congr 2
        omega
      · have ek : k = k / 3 * 3 + 2 := by omega
        have h1 := hat.2.2
        rw [← ek] at h1
        rw [h1, ← hqi.2.2.1]
        congr 2
        omega
    · simp only [List.mem_map, List.mem_range] at hf
      obtain ⟨i, hi, rfl⟩ := hf
      exact (hq i (by omega)).2.2.2

/-- A slice of lists of ops that came in. -/
theorem opss_cells {H : Type} {enc : TypeId × Value → H} {W : World} {fuel : Nat} {v : Value} {x : DataW H × List MemPlace}
    (h : DataW.trod enc Tryz.prog W 0 (fun _ => true) true fuel 49 [v] = some x) : ∃ ls : List (List OpT), RowOO W v ls ∧ ∀ l ∈ ls, ∀ f ∈ l, f.2.2.length ≤ maxLen := by
  rcases Deep.open_slice Tryz.underlying49 h with ⟨hcs, _⟩ | ⟨a, len, cap, m, n, D, Pl, hcs, hb, hl, hm, hmm, _, hx⟩
  · simp at hcs
    subst hcs
    exact ⟨[], ⟨[], rfl, ⟨none, 0, rfl, Nat.le_refl _, by unfold maxLen; omega, fun k hk => absurd hk (by simp)⟩, fun k h1 h2 => absurd h2 (by simp)⟩, by simp⟩
  · simp at hcs
    subst hcs
    simp only [if_true] at hmm
    have each : ∀ i, i < m → ∃ q : Value × List OpT, W.cell? ((a.add (i * 1)).add 0) = some q.1 ∧ RowO W q.1 q.2 ∧ ∀ f ∈ q.2, f.2.2.length ≤ maxLen := by
      intro i hi
      obtain ⟨cs', h1, h2⟩ := hx i hi
      rw [show Tryz.prog.cellsOf 169 = 1 by kernel_rfl] at h1
      obtain ⟨_, hlen, hcell⟩ := World.cells?_some h1
      match cs', hlen with
      | [u], _ =>
        obtain ⟨l, hl, hx3⟩ := ops_cells h2
        have q0 := hcell 0 (by omega)
        exact ⟨(u, l), by simpa using q0, hl, hx3⟩
    obtain ⟨q, hq⟩ := Deep.choose_lt each
    have hlen : ((List.range len).map fun i => (q i).2).length = len := by simp
    have hlen1 : ((List.range len).map fun i => (q i).1).length = len := by simp
    refine ⟨(List.range len).map fun i => (q i).2, ⟨(List.range len).map fun i => (q i).1, by rw [hlen, hlen1], ⟨some a, cap, by rw [hlen1], by rw [hlen1]; exact hl, hm, fun k hk => ?_⟩, fun k h1 h2 => ?_⟩, fun l hl3 f hf3 => ?_⟩
    · rw [hlen1] at hk
      obtain ⟨b, off, spot⟩ := a
      have h0 := (hq 0 (by omega)).1
      have hspot : spot = none := by simpa [Addr.add] using World.cell?_spot h0
      subst hspot
      have hk1 := (hq k (by omega)).1
      rw [add_addr, add_addr, Nat.mul_one, Nat.add_zero] at hk1
      refine ⟨b, off, rfl, World.block_lt_of_cell? _ _ hk1, ?_⟩
      rw [hk1]
      simp
    · have := (hq k (by rw [hlen1] at h1; omega)).2.1
      simpa using this
    · obtain ⟨i, hi, rfl⟩ := List.mem_map.1 hl3
      exact (hq i (by have := List.mem_range.1 hi; omega)).2.2 f hf3
/-- A slice of bools that came in. -/
theorem bools_cells {H : Type} {enc : TypeId × Value → H} {W : World} {fuel : Nat} {v : Value} {x : DataW H × List MemPlace}
    (h : DataW.trod enc Tryz.prog W 0 (fun _ => true) true fuel 27 [v] = some x) : ∃ l : List Bool, RowV W v (BL l) := by
  rcases Deep.open_slice Tryz.underlying27 h with ⟨hcs, _⟩ | ⟨a, len, cap, m, n, D, Pl, hcs, hb, hl, hm, hmm, _, hx⟩
  · simp at hcs
    subst hcs
    exact ⟨[], none, 0, rfl, Nat.le_refl _, by unfold maxLen; omega, fun k hk => absurd hk (by simp [BL])⟩
  · simp at hcs
    subst hcs
    simp only [if_true] at hmm
    have each : ∀ i, i < m → ∃ q : Bool, W.cell? ((a.add (i * 1)).add 0) = some (.bool q) := by
      intro i hi
      obtain ⟨cs', h1, h2⟩ := hx i hi
      rw [show Tryz.prog.cellsOf 4 = 1 by kernel_rfl] at h1
      obtain ⟨_, hlen, hcell⟩ := World.cells?_some h1
      obtain ⟨b, e0, _⟩ := DataW.trod_bool Tryz.underlying4 h2
      subst e0
      have q0 := hcell 0 (by omega)
      exact ⟨b, by simpa using q0⟩
    obtain ⟨q, hq⟩ := Deep.choose_lt each
    have hlen : ((List.range len).map q).length = len := by simp
    refine ⟨(List.range len).map q, some a, cap, by rw [BL_len, hlen], by rw [BL_len, hlen]; exact hl, hm, fun k hk => ?_⟩
    rw [BL_len, hlen] at hk
    obtain ⟨b, off, spot⟩ := a
    have h0 := hq 0 (by omega)
    have hspot : spot = none := by simpa [Addr.add] using World.cell?_spot h0
    subst hspot
    have hk1 := hq k (by omega)
    rw [add_addr, add_addr, Nat.mul_one, Nat.add_zero] at hk1
    refine ⟨b, off, rfl, World.block_lt_of_cell? _ _ hk1, ?_⟩
    rw [hk1, BL_get (by rw [hlen]; exact hk)]
    simp
theorem texts_inU {H : Type} {enc : TypeId × Value → H} {W : World} {a : Option Addr} {len cap : Nat} {d : DataW H} {p : List MemPlace}
    (h : DataW.Trod enc Tryz.prog W 0 (fun _ => true) true 32 (.slice a len cap) d p) : ∃ l : List (List UInt8), RowV W (.slice a len cap) (S l) ∧ ∀ x ∈ l, x.length ≤ maxLen := by
  obtain ⟨fuel, hf⟩ := h
  exact texts_cells (by simpa [Value.cells] using hf)
theorem res_in {H : Type} {enc : TypeId × Value → H} {W : World} {a : Option Addr} {len cap : Nat} {d : DataW H} {p : List MemPlace}
    (h : DataW.Trod enc Tryz.prog W 0 (fun _ => true) true 52 (.slice a len cap) d p) : ∃ l : List ResT, RowR W (.slice a len cap) l ∧ ∀ f ∈ l, f.1.length ≤ maxLen := by
  obtain ⟨fuel, hf⟩ := h
  exact res_cells (by simpa [Value.cells] using hf)
/-- A struct of three fields, the first of two cells, the others of one. -/
theorem four_cells {H : Type} {enc : TypeId × Value → H} {P : Program} {w : World} {base : Nat} {spare : Nat → Bool} {held : Bool} {t : TypeId} {f0 f1 f2 : Field} {n : Nat} {c0 c1 c2 c3 : Value} {x : DataW H × List MemPlace}
    (he : P.underlying t = some (.struct #[f0, f1, f2])) (o0 : f0.offset = 0) (o1 : f1.offset = 2) (o2 : f2.offset = 3) (k0 : P.cellsOf f0.type = 2) (k1 : P.cellsOf f1.type = 1) (k2 : P.cellsOf f2.type = 1)
    (h : DataW.trod enc P w base spare held n t [c0, c1, c2, c3] = some x) :
    ∃ (y0 y1 y2 : DataW H × List MemPlace) (k : Nat), DataW.trod enc P w base spare held k f0.type [c0, c1] = some y0 ∧ DataW.trod enc P w base spare held k f1.type [c2] = some y1 ∧ DataW.trod enc P w base spare held k f2.type [c3] = some y2 := by
  obtain ⟨xs, k, hk, hxy, _, hxl, hf⟩ := DataW.trod_struct he h
  match xs, hxl with
  | [y0, y1, y2], _ =>
    have g0 := hf 0 f0 rfl
    have g1 := hf 1 f1 rfl
    have g2 := hf 2 f2 rfl
    simp [o0, o1, o2, k0, k1, k2] at g0 g1 g2
    exact ⟨y0, y1, y2, k, g0, g1, g2⟩
/-- A struct of two fields, a cell each. -/
theorem two_cells {H : Type} {enc : TypeId × Value → H} {P : Program} {w : World} {base : Nat} {spare : Nat → Bool} {held : Bool} {t : TypeId} {f0 f1 : Field} {n : Nat} {c0 c1 : Value} {x : DataW H × List MemPlace}
    (he : P.underlying t = some (.struct #[f0, f1])) (o0 : f0.offset = 0) (o1 : f1.offset = 1) (k0 : P.cellsOf f0.type = 1) (k1 : P.cellsOf f1.type = 1)
    (h : DataW.trod enc P w base spare held n t [c0, c1] = some x) :
    ∃ (y0 y1 : DataW H × List MemPlace) (k : Nat), DataW.trod enc P w base spare held k f0.type [c0] = some y0 ∧ DataW.trod enc P w base spare held k f1.type [c1] = some y1 := by
  obtain ⟨xs, k, hk, hxy, _, hxl, hf⟩ := DataW.trod_struct he h
  match xs, hxl with
  | [y0, y1], _ =>
    have g0 := hf 0 f0 rfl
    have g1 := hf 1 f1 rfl
    simp [o0, o1, k0, k1] at g0 g1
    exact ⟨y0, y1, k, g0, g1⟩
set_option maxRecDepth 100000 in
/-- A plan that came in. -/
theorem plan_in {H : Type} {enc : TypeId × Value → H} {W : World} {base : Nat} {v : Value} {d : DataW H} {p : List MemPlace} (hv : Value.okWide Tryz.prog W .any base 51 v)
    (h : DataW.Trod enc Tryz.prog W 0 (fun _ => true) true 51 v d p) : ∃ ls l bs rs, PlanV W v ls l bs rs ∧ ∀ l ∈ rs, ∀ f ∈ l, f.2.2.length ≤ maxLen := by
  obtain ⟨cs, rfl, hsz⟩ := okWide_struct Tryz.underlying51 hv
  obtain ⟨c0, c1, c2, c3, rfl⟩ := Joins.array4 (hsz.trans (by kernel_rfl))
  obtain ⟨fuel, hf⟩ := h
  obtain ⟨y0, y1, y2, k, h0, h1, h2⟩ := four_cells Tryz.underlying51 rfl rfl rfl (by kernel_rfl) (by kernel_rfl) (by kernel_rfl) (by simpa [Value.cells] using hf)
  obtain ⟨z0, z1, k', g0, g1⟩ := two_cells Tryz.underlying48 rfl rfl (by kernel_rfl) (by kernel_rfl) h0
  obtain ⟨ls, r0⟩ := lists_cells g0
  obtain ⟨l, r1⟩ := ints_cells g1
  obtain ⟨bs, r2⟩ := bools_cells h1
  obtain ⟨rs, r3, x3⟩ := opss_cells h2
  exact ⟨ls, l, bs, rs, ⟨c0, c1, c2, c3, rfl, r0, r1, r2, r3⟩, x3⟩
end Go.Proofs.YtngldlconipnnaaGreatDoor

/- What the rows of chapters 7 and 8 with listed tables share: a world in which the listed tables lie, for the witness. -/
namespace Go.Proofs.YtngldlconipnnaaGreatDoor
open Go.ChangeShapes Go.WideShapes Go.ChangeAt Go.RowKit Pth

/-- The cells of a table as the row lists it. -/
def litCell {H : Type} : DataW H → Value
  | .lit (.int k n) => .int k n
  | _ => .int .u8 0
def tabCells {H : Type} : DataW H → Array Value
  | .agg l => (l.map litCell).toArray
  | _ => #[]
def refill (cs : Array Value) : Obj → Obj
  | .cells _ t fr => .cells cs t fr
  | o => o
/-- The settled world with the three tables laid. -/
noncomputable def laidWorld (os : Os) : World :=
  { World.holding Tryz.prog os ⟨#[], #[], []⟩ with heap := (((World.holding Tryz.prog os ⟨#[], #[], []⟩).heap.modify 1 (refill (tabCells (H := Unit) Rows.laid_math_bits_deBruijn32tab))).modify 2 (refill (tabCells (H := Unit) Rows.laid_math_bits_deBruijn64tab))).modify 0 (refill (tabCells (H := Unit) Rows.laid_internal_strconv_uint64pow10)) }

end Go.Proofs.YtngldlconipnnaaGreatDoor

/- Walks: the laws over a plan and lists whose answer is a list, given contracts of both programs. -/
namespace Go.Proofs.YtngldlconipnnaaGreatDoor
open Go.RowKit Pth

set_option maxRecDepth 20000 in
set_option maxHeartbeats 16000000 in
theorem exactAgainCut_of (ls : List (List Int)) (l : List Int) (bs : List Bool) (rs : List (List OpT)) (m1 : List ResT) (m2 : List (List UInt8)) (R : List ResT) (n : Int) (ok : Bool) (v u1 u2 : Value) (w : World) (hst : PlanV w v ls l bs rs) (hx : ∀ l ∈ rs, ∀ f ∈ l, f.2.2.length ≤ maxLen) (hm1 : RowR w u1 m1) (hx1 : ∀ f ∈ m1, f.1.length ≤ maxLen) (hm2 : RowV w u2 (S m2)) (hx2 : ∀ x ∈ m2, x.length ≤ maxLen)
    (hL : R.length ≤ 1000000)
    (hsp : ∀ W u y1 y2, PlanV W u ls l bs rs → RowR W y1 m1 → RowV W y2 (S m2) → Calls Tryz.prog 38 #[u, y1, y2] W (ResNOk R n ok W))
    (him : ∀ W u y1 y2, PlanV W u ls l bs rs → RowR W y1 m1 → RowV W y2 (S m2) → Calls Tryz.prog 39 #[u, y1, y2] W (ResNOk R n ok W)) :
    Calls Tryz.prog 5 #[v, u1, u2] w (YesW w) := by
  have HST := Lib.hid hst
  have HSP := Lib.hid hsp
  have HIM := Lib.hid him
  clear hsp him
  obtain ⟨nv, ov, sv, rv, rfl, h1, h2, h3, h4⟩ := hst
  obtain ⟨as0, cs, rfl, hs1, hs2, _⟩ := h3.boolsW
  obtain ⟨an, cn, rfl, hn1, hn2, _⟩ := h1.lists
  obtain ⟨ao, co, rfl, ho1, ho2, _⟩ := h2.ints
  obtain ⟨ar, cr, rfl, hr1, hr2, _⟩ := h4.lists
  clear h1 h2 h3 h4
  have HM1 := Lib.hid hm1
  have HX1 := Lib.hid hx1
  obtain ⟨ma1, mc1, rfl, hma1, hmb1, _⟩ := hm1.res
  clear hm1 hx1
  have HM2 := Lib.hid hm2
  have HX2 := Lib.hid hx2
  obtain ⟨ma2, mc2, rfl, hma2, hmb2, _⟩ := hm2.texts
  clear hm2 hx2
  unfold maxLen at hs2 hn2 ho2 hr2 hmb1 hmb2
  obtain ⟨wa, hwa⟩ : ∃ wa, wa = w.alloc (.cells #[.slice an ls.length cn, .slice ao l.length co, .slice as0 bs.length cs, .slice ar rs.length cr] 51) := ⟨_, rfl⟩
  have hsz : wa.heap.size = w.heap.size + 1 := by rw [hwa]; simp
  have P0 : Hid (Blk4 wa w.heap.size 51 (.slice an ls.length cn) (.slice ao l.length co) (.slice as0 bs.length cs) (.slice ar rs.length cr)) := by rw [hwa]; exact Blk4.new
  have HA : Hid (Below w.heap.size w wa) := by rw [hwa]; exact (Below.refl w.heap.size w).alloc (Nat.le_refl _) _
  have hlt0 : w.heap.size < wa.heap.size := by omega
  obtain ⟨c0, c1, c2, c3⟩ := P0.out.cells
  have HWA := Lib.hid hwa
  have HS := Lib.hid (szPlan_any ls l bs rs 1048576 _ wa (HST.out.below HA.out) hx (by omega))
  have HPV : Hid (∀ W, Below wa.heap.size wa W → PlanV W (.agg #[.slice an ls.length cn, .slice ao l.length co, .slice as0 bs.length cs, .slice ar rs.length cr]) ls l bs rs) := fun W h => HST.out.below (bth HA.out h (Nat.le_refl _))
  have HMV1 : Hid (∀ W, Below wa.heap.size wa W → RowR W (.slice ma1 m1.length mc1) m1) := fun W h => HM1.out.below (bth HA.out h (Nat.le_refl _))
  have HMV2 : Hid (∀ W, Below wa.heap.size wa W → RowV W (.slice ma2 m2.length mc2) (S m2)) := fun W h => HM2.out.below (bth HA.out h (Nat.le_refl _))
  clear hwa hx
  go_enter Tryz.func5, Tryz.ntmps5
  go_wp2_with fail
  rw [← HWA.out]
  refine HS.out.mono ?_
  rintro e w1 ⟨r0, rfl, hle0, hr0, hb1⟩
  have K0 := Lib.hid hb1
  clear hb1 HS c0 c1 c2 c3
  by_cases h0 : r0 < 0
  · clear hr0 hle0
    go_wp2_with fail
    go_ret
    exact ⟨rfl, bth HA.out K0.out (Nat.le_refl _)⟩
  have hz : planZ ls l bs rs ≤ 1100000 := by have := hr0 (by omega); omega
  have hz2 : planZ ls l bs rs ≤ 2000000 := by omega
  obtain ⟨n0, rfl⟩ : ∃ n0 : Nat, r0 = n0 := ⟨r0.toNat, by omega⟩
  have hn0 : n0 ≤ 2000000 := by omega
  have HR0 : Hid (n0 + planZ ls l bs rs ≤ 1048576) := by have := hr0 (by omega); show _ ≤ _; omega
  clear hr0
  go_wp2_with fail
  refine (szResultS_any m1 n0 _ w1 (HMV1.out w1 K0.out) HX1.out hn0).mono ?_
  rintro e x1 ⟨r1, rfl, hle1, hr1, hb1⟩
  have KX1 := Lib.hid (bth K0.out hb1 (Nat.le_refl _))
  clear hb1
  by_cases hc1 : r1 < 0
  · clear hr1
    go_wp2_with fail
    go_ret
    exact ⟨rfl, bth HA.out KX1.out (Nat.le_refl _)⟩
  have hml1 : m1.length ≤ 1100000 := by have := (hr1 (by omega)).1; omega
  obtain ⟨n1, rfl⟩ : ∃ n1 : Nat, r1 = n1 := ⟨r1.toNat, by omega⟩
  have hn1 : n1 ≤ 2000000 := by omega
  have HR1 : Hid (n1 + (planZ ls l bs rs + m1.length) ≤ 1048576) := by have := (hr1 (by omega)).1; have := HR0.out; show _ ≤ _; omega
  clear hr1
  go_wp2_with fail
  refine (szStringS_le m2 n1 _ x1 (HMV2.out x1 KX1.out) HX2.out hn1).mono ?_
  rintro e x2 ⟨r2, rfl, hle2, hr2, hw2⟩
  obtain rfl := hw2
  have KX2 := KX1
  by_cases hc2 : r2 < 0
  · clear hr2
    go_wp2_with fail
    go_ret
    exact ⟨rfl, bth HA.out KX2.out (Nat.le_refl _)⟩
  have hml2 : m2.length ≤ 1100000 := by have := (hr2 (by omega)).1; omega
  obtain ⟨n2, rfl⟩ : ∃ n2 : Nat, r2 = n2 := ⟨r2.toNat, by omega⟩
  have hn2 : n2 ≤ 2000000 := by omega
  have HR2 : Hid (n2 + (planZ ls l bs rs + m1.length + m2.length) ≤ 1048576) := by have := (hr2 (by omega)).1; have := HR1.out; show _ ≤ _; omega
  clear hr2
  obtain ⟨c0, c1, c2, c3⟩ := (P0.out.below KX2.out hlt0).cells
  have HTO := Lib.hid (fun W (hb : PlanV W _ ls l bs rs) => toPlan_any ls l bs rs (.agg #[.slice an ls.length cn, .slice ao l.length co, .slice as0 bs.length cs, .slice ar rs.length cr]) W hb hz2)
  have HTI1 := Lib.hid (fun W (hb : RowR W _ m1) => toResultS_any m1 (.slice ma1 m1.length mc1) W hb (by omega))
  have HEI1 : Hid (∀ W x y, RowR W x m1 → RowR W y m1 → Calls Tryz.prog 29 #[x, y] W fun e w' => e = .returned (.bool true) ∧ Below W.heap.size W w') := fun W x y h1 h2 => by
    have := eqResultS_any m1 m1 x y W h1 h2 (by omega)
    rwa [decide_eq_true (rfl : m1 = m1)] at this
  have HTI2 := Lib.hid (fun W (hb : RowV W _ (S m2)) => toStringS_any m2 (.slice ma2 m2.length mc2) W hb (by omega))
  have HEI2 : Hid (∀ W x y, RowV W x (S m2) → RowV W y (S m2) → Calls Tryz.prog 31 #[x, y] W fun e w' => e = .returned (.bool true) ∧ Below W.heap.size W w') := fun W x y h1 h2 => by
    have := eqStringS_any m2 m2 x y W h1 h2 (by omega)
    rwa [decide_eq_true (rfl : m2 = m2)] at this
  have HE : Hid (∀ W x y, PlanV W x ls l bs rs → PlanV W y ls l bs rs → Calls Tryz.prog 30 #[x, y] W fun e w' => e = .returned (.bool true) ∧ Below W.heap.size W w') := fun W x y h1 h2 => eqPlan_same ls l bs rs x y W h1 h2 hz2
  have hne : (ok != ok) = false := by cases ok <;> rfl
  have hnn : (n != n) = false := by simp
  have HEQ : Hid (∀ W x y, RowR W x R → RowR W y R → Calls Tryz.prog 29 #[x, y] W fun e w' => e = .returned (.bool true) ∧ Below W.heap.size W w') := fun W x y h1 h2 => by
    have := eqResultS_any R R x y W h1 h2 (by omega)
    rwa [decide_eq_true (rfl : R = R)] at this
  have HMI : Hid (∀ B u W, World.ownsRow W B 89 2 u R.length (RC R) → Calls Tryz.prog 34 #[u, .int .i64 1] W fun e w' => e = .returned (.int .i64 ((1 : Int) + (R.length : Int) * 2)) ∧ w'.ownsRow B 89 2 u R.length (RC (marksR 1 R.length)) ∧ W.grownBy w' u.ownBlock) := fun B u W h => markResultS_any R 1 B u W h (by omega) (by omega) (by omega)
  have HHI : Hid (∀ u W, RowR W u (marksR 1 R.length) → Calls Tryz.prog 37 #[u, .int .i64 1] W fun e w' => e = .returned (.int .i64 ((1 : Int) + (R.length : Int) * 2)) ∧ Below W.heap.size W w') := fun u W h => heldResultS_any 1 R.length u W h (by omega) (by omega) (by omega)
  have hk2 : decide ((1 : Int) + (R.length : Int) * 2 < 0) = false := decide_eq_false (by omega)
  have hqq : ((1 : Int) + (R.length : Int) * 2 != (1 : Int) + (R.length : Int) * 2) = false := by simp
  have hz4 : planZ ls l bs rs ≤ 1048576 := by have := HR0.out; omega
  have HMG := Lib.hid (fun B u (W0 W : World) (h : PlanO B W0 u ls l bs rs) (hb : Below W0.heap.size W0 W) (hB : B ≤ W0.heap.size) => markPlan_any ls l bs rs B u W0 W h hb hB hz4)
  have hkk0 : (1 + markZ ls l bs rs) + 3 * (m1.length + m2.length) ≤ 3500000 := by have := HR2.out; unfold markZ totalG; unfold planZ at this; omega
  generalize hkz : 1 + markZ ls l bs rs = k0 at HMG hkk0
  have hkz1 : 1 ≤ k0 := by omega
  clear hkz hz4
  have HMM1 := Lib.hid (fun B u (W : World) (h : W.ownsRow B 89 2 u m1.length (RC m1)) => markResultS_any m1 k0 B u W h (by omega) (by omega) (by omega))
  obtain ⟨k1, hke1⟩ : ∃ k1 : Nat, k1 = k0 + m1.length * 2 := ⟨_, rfl⟩
  have ek1 : (k0 : Int) + (m1.length : Int) * 2 = (k1 : Int) := by omega
  have HEK1 := Lib.hid ek1
  have HMM2 := Lib.hid (fun B u (W : World) (h : W.ownsRow B 9 1 u m2.length (S m2)) => markStringS_any m2 k1 B u W h (by omega) (by omega) (by omega))
  obtain ⟨k2, hke2⟩ : ∃ k2 : Nat, k2 = k1 + m2.length := ⟨_, rfl⟩
  have ek2 : (k1 : Int) + (m2.length : Int) = (k2 : Int) := by omega
  have HEK2 := Lib.hid ek2
  have hkd : decide ((k2 : Int) < 0) = false := decide_eq_false (by omega)
  clear hkk0 hke2 ek2 hke1 ek1
  -- the reference's answer
  go_wp2_with fail
  refine (HTO.out x1 (HPV.out x1 KX2.out)).mono ?_
  rintro e w2 ⟨v2, rfl, ho2', hb2⟩
  have K2 := Lib.hid (bth KX2.out hb2 (Nat.le_refl _))
  have HG2 := Lib.hid ho2'.view
  clear hb2 ho2' c0 c1 c2 c3
  go_wp2_with fail
  refine (HTI1.out w2 (HMV1.out w2 K2.out)).mono ?_
  rintro e p1 ⟨y1, rfl, hoy1, hbp1⟩
  have KP1 := Lib.hid (bth K2.out hbp1 (Nat.le_refl _))
  have HGP1 := Lib.hid (HG2.out.below hbp1)
  have HYP1_1 := Lib.hid (RowR.of_own hoy1)
  clear hoy1 hbp1
  go_wp2_with fail
  refine (HTI2.out p1 (HMV2.out p1 KP1.out)).mono ?_
  rintro e p2 ⟨y2, rfl, hoy2, hbp2⟩
  have KP2 := Lib.hid (bth KP1.out hbp2 (Nat.le_refl _))
  have HGP2 := Lib.hid (HGP1.out.below hbp2)
  have HYP1_2 := Lib.hid (HYP1_1.out.below hbp2)
  have HYP2_2 := Lib.hid (RowV.of_own hoy2)
  clear hoy2 hbp2
  go_wp2_with fail
  refine (HSP.out p2 v2 y1 y2 HGP2.out HYP1_2.out HYP2_2.out).mono ?_
  rintro e w3 ⟨v3, rfl, hw3, hb3⟩
  have K3 := Lib.hid (bth KP2.out hb3 (Nat.le_refl _))
  have HW := Lib.hid hw3
  have sa3 := K3.out.size
  clear hb3 hw3
  obtain ⟨c0, c1, c2, c3⟩ := (P0.out.below K3.out hlt0).cells
  -- copies of the arguments
  go_wp2_with fail
  refine (HTO.out w3 (HPV.out w3 K3.out)).mono ?_
  rintro e w4 ⟨v4, rfl, ho4, hb4⟩
  have s34 := hb4.size
  have HO4 := Lib.hid ho4
  obtain ⟨bn, dn, bo, do', bb, db, br, dr, rfl⟩ := ho4.slices
  obtain ⟨wb, hwb⟩ : ∃ wb, wb = w4.alloc (.cells #[.slice bn ls.length dn, .slice bo l.length do', .slice bb bs.length db, .slice br rs.length dr] 30) := ⟨_, rfl⟩
  have X4 : Hid (Blk4 wb w4.heap.size 30 (.slice bn ls.length dn) (.slice bo l.length do') (.slice bb bs.length db) (.slice br rs.length dr)) := by rw [hwb]; exact Blk4.new
  have hAB : Below w4.heap.size w4 wb := by rw [hwb]; exact (Below.refl w4.heap.size w4).alloc (Nat.le_refl _) _
  have hsb : wb.heap.size = w4.heap.size + 1 := by rw [hwb]; simp
  have D4 := Lib.hid (Below.refl wb.heap.size wb)
  have A4 := Lib.hid (bth hb4 hAB (Nat.le_refl _))
  have E4 := Lib.hid hAB
  have KW4 := Lib.hid (bth (bth K3.out hb4 (Nat.le_refl _)) hAB (Nat.le_refl _))
  have HWB := Lib.hid hwb
  clear hb4 ho4 c0 c1 c2 c3 hwb hAB
  go_wp2_with fail
  rw [← HWB.out]

  refine (HTI1.out wb (HMV1.out wb KW4.out)).mono ?_
  rintro e q1 ⟨x1, rfl, hox1, hbq1⟩
  have sq1 := hbq1.size
  have EQ1 := Lib.hid (bth E4.out hbq1 (Nat.le_refl _))
  have DQ1 := Lib.hid (bth D4.out hbq1 (Nat.le_refl _))
  have AQ1 := Lib.hid (bth A4.out hbq1 (Nat.le_refl _))
  have KQ1 := Lib.hid (bth KW4.out hbq1 (Nat.le_refl _))
  have hxl1 : Hid (∀ b, x1.ownBlock = some b → wb.heap.size ≤ b ∧ b < q1.heap.size) := fun b h => hox1.lt b h
  have HX1_1 := Lib.hid hox1
  clear hox1 hbq1
  go_wp2_with fail
  refine (HTI2.out q1 (HMV2.out q1 KQ1.out)).mono ?_
  rintro e q2 ⟨x2, rfl, hox2, hbq2⟩
  have sq2 := hbq2.size
  have EQ2 := Lib.hid (bth EQ1.out hbq2 (Nat.le_refl _))
  have DQ2 := Lib.hid (bth DQ1.out hbq2 (Nat.le_refl _))
  have AQ2 := Lib.hid (bth AQ1.out hbq2 (Nat.le_refl _))
  have KQ2 := Lib.hid (bth KQ1.out hbq2 (Nat.le_refl _))
  have hxl2 : Hid (∀ b, x2.ownBlock = some b → q1.heap.size ≤ b ∧ b < q2.heap.size) := fun b h => hox2.lt b h
  have HX1_2 := Lib.hid (own_belowG HX1_1.out hbq2)
  have HX2_2 := Lib.hid hox2
  clear hox2 hbq2
  obtain ⟨x00, x01, x02, x03⟩ := (X4.out.below DQ2.out (by omega)).cells
  -- the program's answer
  go_wp2_with fail
  refine (HIM.out q2 _ x1 x2 (HO4.out.view.below EQ2.out) (RowR.of_own HX1_2.out) (RowV.of_own HX2_2.out)).mono ?_
  rintro e w6 ⟨v6, rfl, hg6, hb6⟩
  have s6 := hb6.size
  have E6 := Lib.hid (bth EQ2.out hb6 (Nat.le_refl _))
  have D6 := Lib.hid (bth DQ2.out hb6 (Nat.le_refl _))
  have A6 := Lib.hid (bth AQ2.out hb6 (Nat.le_refl _))
  have K6 := Lib.hid (bth KQ2.out hb6 (Nat.le_refl _))
  have HX1_6 := Lib.hid (own_belowG HX1_2.out hb6)
  have HX2_6 := Lib.hid (own_below HX2_2.out hb6)
  have HG6 := Lib.hid hg6
  obtain ⟨g1, e1, rfl⟩ := own_sliceG hg6
  obtain ⟨g3, e3, hv3⟩ := own_sliceG HW.out
  subst hv3
  clear hb6 x00 x01 x02 x03 hg6
  go_wp2_with fail
  refine (HEQ.out w6 _ _ (RowR.of_own HG6.out) (RowR.of_own (own_belowG HW.out A6.out))).mono ?_
  rintro e w7 ⟨rfl, hb7⟩
  have s7 := hb7.size
  have E7 := Lib.hid (bth E6.out hb7 (Nat.le_refl _))
  have D7 := Lib.hid (bth D6.out hb7 (Nat.le_refl _))
  have A7 := Lib.hid (bth A6.out hb7 (Nat.le_refl _))
  have K7 := Lib.hid (bth K6.out hb7 (Nat.le_refl _))
  have HG7 := Lib.hid (own_belowG HG6.out hb7)
  have HX1_7 := Lib.hid (own_belowG HX1_6.out hb7)
  have HX2_7 := Lib.hid (own_below HX2_6.out hb7)
  clear hb7 HG6
  have hlt7 : w.heap.size < w7.heap.size := by omega
  have hlt8 : w4.heap.size < w7.heap.size := by omega
  have PD : Hid (Blk4 w7.drew w.heap.size 51 (.slice an ls.length cn) (.slice ao l.length co) (.slice as0 bs.length cs) (.slice ar rs.length cr)) := P0.out.below (Below.drew K7.out) hlt0
  have XD : Hid (Blk4 w7.drew w4.heap.size 30 (.slice bn ls.length dn) (.slice bo l.length do') (.slice bb bs.length db) (.slice br rs.length dr)) := X4.out.below (Below.drew D7.out) (by omega)
  have ks := And.intro PD.out.cells XD.out.cells
  have HX7 : Hid (PlanV w7.drew (.agg #[.slice bn ls.length dn, .slice bo l.length do', .slice bb bs.length db, .slice br rs.length dr]) ls l bs rs) := HO4.out.view.below (Below.drew E7.out)
  have HST7 : Hid (PlanV w7.drew (.agg #[.slice an ls.length cn, .slice ao l.length co, .slice as0 bs.length cs, .slice ar rs.length cr]) ls l bs rs) := HPV.out w7.drew (Below.drew K7.out)
  go_wp2_with fail
  -- the copy is as it was
  go_region_held3 (fun w' => (w'.cell? ⟨w.heap.size, 0, none⟩ = some (.slice an ls.length cn) ∧ w'.cell? ⟨w.heap.size, 1, none⟩ = some (.slice ao l.length co) ∧ w'.cell? ⟨w.heap.size, 2, none⟩ = some (.slice as0 bs.length cs) ∧ w'.cell? ⟨w.heap.size, 3, none⟩ = some (.slice ar rs.length cr)) ∧ (w'.cell? ⟨w4.heap.size, 0, none⟩ = some (.slice bn ls.length dn) ∧ w'.cell? ⟨w4.heap.size, 1, none⟩ = some (.slice bo l.length do') ∧ w'.cell? ⟨w4.heap.size, 2, none⟩ = some (.slice bb bs.length db) ∧ w'.cell? ⟨w4.heap.size, 3, none⟩ = some (.slice br rs.length dr))) (first | exact ks)
    (first
      | (go_at_call 24; refine (HTO.out _ (by exact HST7.out)).mono ?_; rintro e w7b ⟨v7, rfl, ho7, hb7⟩
         have ks := And.intro (PD.out.below hb7 hlt7).cells (XD.out.below hb7 hlt8).cells
         have HO7 := Lib.hid ho7.view
         have HXB := Lib.hid (PlanV.below (by exact HX7.out) hb7)
         have C7 := Lib.hid hb7
         clear ho7 hb7)
      | (go_at_call 30; refine (HE.out _ _ _ (by exact HXB.out) (by exact HO7.out)).mono ?_; rintro e w8 ⟨rfl, hb8⟩
         have C8 := Lib.hid (bth C7.out hb8 (Nat.le_refl _))
         have ks := And.intro (PD.out.below C8.out hlt7).cells (XD.out.below C8.out hlt8).cells
         clear hb8))
  all_goals
    have s8 : w7.heap.size ≤ w8.heap.size := C8.out.size
    have K8 := Lib.hid (bth (Below.drew K7.out) C8.out (Nat.le_refl _))
    have E8 := Lib.hid (bth (Below.drew E7.out) C8.out (Nat.le_refl _))
    have D8 := Lib.hid (bth (Below.drew D7.out) C8.out (Nat.le_refl _))
    have A8 := Lib.hid (bth (Below.drew A7.out) C8.out (Nat.le_refl _))
    have HG8 := Lib.hid (own_belowG (w := w7.drew) (show w7.drew.ownsRow q2.heap.size 89 2 _ _ _ from HG7.out) C8.out)
    have HX1_8 := Lib.hid (own_belowG (w := w7.drew) (show w7.drew.ownsRow wb.heap.size 89 2 _ _ _ from HX1_7.out) C8.out)
    have HX2_8 := Lib.hid (own_below (w := w7.drew) (show w7.drew.ownsRow q1.heap.size 9 1 _ _ _ from HX2_7.out) C8.out)
    clear ks PD XD HX7 HST7 HO7 HXB C7 C8 HG7
    go_wp2_with fail
    refine (HTI1.out w8 (HMV1.out w8 K8.out)).mono ?_
    rintro e r1 ⟨z1, rfl, hoz1, hbr1⟩
    have sr1 := hbr1.size
    have KR1 := Lib.hid (bth K8.out hbr1 (Nat.le_refl _))
    have ER1 := Lib.hid (bth E8.out hbr1 (Nat.le_refl _))
    have DR1 := Lib.hid (bth D8.out hbr1 (Nat.le_refl _))
    have AR1 := Lib.hid (bth A8.out hbr1 (Nat.le_refl _))
    have HGR1 := Lib.hid (own_belowG HG8.out hbr1)
    have HX1_R1 := Lib.hid (own_belowG HX1_8.out hbr1)
    have HX2_R1 := Lib.hid (own_below HX2_8.out hbr1)
    have HZ1 := Lib.hid (RowR.of_own hoz1)
    clear hoz1 hbr1
    go_wp2_with fail
    refine (HEI1.out r1 _ _ (RowR.of_own HX1_R1.out) HZ1.out).mono ?_
    rintro e s1 ⟨rfl, hbs1⟩
    have ss1 := hbs1.size
    have KS1 := Lib.hid (bth KR1.out hbs1 (Nat.le_refl _))
    have ES1 := Lib.hid (bth ER1.out hbs1 (Nat.le_refl _))
    have DS1 := Lib.hid (bth DR1.out hbs1 (Nat.le_refl _))
    have AS1 := Lib.hid (bth AR1.out hbs1 (Nat.le_refl _))
    have HGS1 := Lib.hid (own_belowG HGR1.out hbs1)
    have HX1_S1 := Lib.hid (own_belowG HX1_R1.out hbs1)
    have HX2_S1 := Lib.hid (own_below HX2_R1.out hbs1)
    clear hbs1 HZ1
    go_wp2_with fail
    refine (HTI2.out s1 (HMV2.out s1 KS1.out)).mono ?_
    rintro e r2 ⟨z2, rfl, hoz2, hbr2⟩
    have sr2 := hbr2.size
    have KR2 := Lib.hid (bth KS1.out hbr2 (Nat.le_refl _))
    have ER2 := Lib.hid (bth ES1.out hbr2 (Nat.le_refl _))
    have DR2 := Lib.hid (bth DS1.out hbr2 (Nat.le_refl _))
    have AR2 := Lib.hid (bth AS1.out hbr2 (Nat.le_refl _))
    have HGR2 := Lib.hid (own_belowG HGS1.out hbr2)
    have HX1_R2 := Lib.hid (own_belowG HX1_S1.out hbr2)
    have HX2_R2 := Lib.hid (own_below HX2_S1.out hbr2)
    have HZ2 := Lib.hid (RowV.of_own hoz2)
    clear hoz2 hbr2
    go_wp2_with fail
    refine (HEI2.out r2 _ _ (RowV.of_own HX2_R2.out) HZ2.out).mono ?_
    rintro e s2 ⟨rfl, hbs2⟩
    have ss2 := hbs2.size
    have KS2 := Lib.hid (bth KR2.out hbs2 (Nat.le_refl _))
    have ES2 := Lib.hid (bth ER2.out hbs2 (Nat.le_refl _))
    have DS2 := Lib.hid (bth DR2.out hbs2 (Nat.le_refl _))
    have AS2 := Lib.hid (bth AR2.out hbs2 (Nat.le_refl _))
    have HGS2 := Lib.hid (own_belowG HGR2.out hbs2)
    have HX1_S2 := Lib.hid (own_belowG HX1_R2.out hbs2)
    have HX2_S2 := Lib.hid (own_below HX2_R2.out hbs2)
    clear hbs2 HZ2
    obtain ⟨y0, y1', y2, y3⟩ := (X4.out.below DS2.out (by omega)).cells
    -- marks in the copies
    go_wp2_with fail
    refine (HMG.out w3.heap.size _ w4 s2 HO4.out ES2.out s34).mono ?_
    rintro e w9 ⟨rfl, hg9⟩
    have s9 := hg9.below.size
    have A9 := Lib.hid (AS2.out.trans hg9.below)
    have K9 := Lib.hid (KS2.out.trans (hg9.below.mono sa3))
    have HG9 := Lib.hid (hg9.own HGS2.out (by omega))
    have HX1_9 := Lib.hid (hg9.own HX1_S2.out (by omega))
    have HX2_9 := Lib.hid (hg9.own HX2_S2.out (by omega))
    clear hg9 y0 y1' y2 y3
    go_wp2_with fail
    refine (HMM1.out wb.heap.size _ w9 HX1_9.out).mono ?_
    rintro e t1 ⟨rfl, _, hgt1⟩
    have st1 := hgt1.size
    have hbt1 := below_ownG HX1_9.out hgt1 (by omega)
    have AT1 := Lib.hid (A9.out.trans (hbt1.mono (by omega)))
    have KT1 := Lib.hid (K9.out.trans (hbt1.mono (by omega)))
    have HGT1 := Lib.hid (own_apartG HG9.out hgt1 (fun b h1 h2 => by have := (hxl1.out b h1).2; have := (HG9.out.lt b h2).1; omega))
    have HX2_T1 := Lib.hid (own_apartG HX2_9.out hgt1 (fun b h1 h2 => by have := (hxl1.out b h1).2; have := (HX2_9.out.lt b h2).1; omega))
    clear hgt1 hbt1
    rw [HEK1.out]
    go_wp2_with fail
    refine (HMM2.out q1.heap.size _ t1 HX2_T1.out).mono ?_
    rintro e t2 ⟨rfl, _, hgt2⟩
    have st2 := hgt2.size
    have hbt2 := below_ownG HX2_T1.out hgt2 (by omega)
    have AT2 := Lib.hid (AT1.out.trans (hbt2.mono (by omega)))
    have KT2 := Lib.hid (KT1.out.trans (hbt2.mono (by omega)))
    have HGT2 := Lib.hid (own_apartG HGT1.out hgt2 (fun b h1 h2 => by have := (hxl2.out b h1).2; have := (HGT1.out.lt b h2).1; omega))
    clear hgt2 hbt2
    rw [HEK2.out]
    go_wp2_with fail
    refine (HEQ.out t2 _ _ (RowR.of_own HGT2.out) (RowR.of_own (own_belowG HW.out AT2.out))).mono ?_
    rintro e w10 ⟨rfl, hb10⟩
    have s10 := hb10.size
    have A10 := Lib.hid (bth AT2.out hb10 (Nat.le_refl _))
    have K10 := Lib.hid (bth KT2.out hb10 (Nat.le_refl _))
    have HG10 := Lib.hid (own_belowG HGT2.out hb10)
    clear hb10
    -- marks in the answer
    go_wp2_with fail
    refine (HMI.out q2.heap.size _ w10 HG10.out).mono ?_
    rintro e w11 ⟨rfl, ho11, hg11⟩
    have hbb := below_ownG HG10.out hg11 (by omega)
    have s11 := hg11.size
    have A11 := Lib.hid (A10.out.trans (hbb.mono (by omega)))
    have K11 := Lib.hid (K10.out.trans (hbb.mono (by omega)))
    have HM11 := Lib.hid ho11
    clear ho11 hg11 hbb HG10
    go_wp2_with fail
    refine (HHI.out _ w11 (by exact heldRow_R HM11.out)).mono ?_
    rintro e w12 ⟨rfl, hb12⟩
    have A12 := Lib.hid (bth A11.out hb12 (Nat.le_refl _))
    have K12 := Lib.hid (bth K11.out hb12 (Nat.le_refl _))
    have HM12 := Lib.hid (own_belowG HM11.out hb12)
    clear hb12 HM11
    obtain ⟨c0, c1, c2, c3⟩ := (P0.out.below K12.out hlt0).cells
    -- asked again
    go_wp2_with fail
    refine (HTO.out w12 (HPV.out w12 K12.out)).mono ?_
    rintro e w13 ⟨v13, rfl, ho13, hb13⟩
    have A13 := Lib.hid (bth A12.out hb13 (Nat.le_refl _))
    have K13 := Lib.hid (bth K12.out hb13 (Nat.le_refl _))
    have HM13 := Lib.hid (own_belowG HM12.out hb13)
    have HGZ0 := Lib.hid ho13.view
    clear hb13 ho13 c0 c1 c2 c3 HM12
    go_wp2_with fail
    refine (HTI1.out w13 (HMV1.out w13 K13.out)).mono ?_
    rintro e z1 ⟨yz1, rfl, hoz1, hbz1⟩
    have AZ1 := Lib.hid (bth A13.out hbz1 (Nat.le_refl _))
    have KZ1 := Lib.hid (bth K13.out hbz1 (Nat.le_refl _))
    have HMZ1 := Lib.hid (own_belowG HM13.out hbz1)
    have HGZ1 := Lib.hid (HGZ0.out.below hbz1)
    have HYZ1_1 := Lib.hid (RowR.of_own hoz1)
    clear hoz1 hbz1
    go_wp2_with fail
    refine (HTI2.out z1 (HMV2.out z1 KZ1.out)).mono ?_
    rintro e z2 ⟨yz2, rfl, hoz2, hbz2⟩
    have AZ2 := Lib.hid (bth AZ1.out hbz2 (Nat.le_refl _))
    have KZ2 := Lib.hid (bth KZ1.out hbz2 (Nat.le_refl _))
    have HMZ2 := Lib.hid (own_belowG HMZ1.out hbz2)
    have HGZ2 := Lib.hid (HGZ1.out.below hbz2)
    have HYZ1_2 := Lib.hid (HYZ1_1.out.below hbz2)
    have HYZ2_2 := Lib.hid (RowV.of_own hoz2)
    clear hoz2 hbz2
    go_wp2_with fail
    refine (HIM.out z2 v13 yz1 yz2 HGZ2.out HYZ1_2.out HYZ2_2.out).mono ?_
    rintro e w14 ⟨v14, rfl, ho14, hb14⟩
    have A14 := Lib.hid (bth AZ2.out hb14 (Nat.le_refl _))
    have K14 := Lib.hid (bth KZ2.out hb14 (Nat.le_refl _))
    have HM14 := Lib.hid (own_belowG HMZ2.out hb14)
    have HV14 := Lib.hid (RowR.of_own ho14)
    obtain ⟨g14, e14, rfl⟩ := own_sliceG ho14
    clear hb14 ho14
    go_wp2_with fail
    refine (HEQ.out w14 _ _ HV14.out (RowR.of_own (own_belowG HW.out A14.out))).mono ?_
    rintro e w15 ⟨rfl, hb15⟩
    have K15 := Lib.hid (bth K14.out hb15 (Nat.le_refl _))
    have HM15 := Lib.hid (own_belowG HM14.out hb15)
    clear hb15 HM14 HV14
    go_wp2_with fail
    refine (HHI.out _ w15 (by exact heldRow_R HM15.out)).mono ?_
    rintro e w16 ⟨rfl, hb16⟩
    have K16 := Lib.hid (bth K15.out hb16 (Nat.le_refl _))
    clear hb16
    go_wp2_with fail
    go_ret
    exact ⟨rfl, bth HA.out K16.out (Nat.le_refl _)⟩

end Go.Proofs.YtngldlconipnnaaGreatDoor

/- What is put behind an empty literal: new memory, if it is something. -/
namespace Go.Proofs.YtngldlconipnnaaGreatDoor
open Go.RowKit Pth

/-- What an append to the empty literal at block g leaves. -/
def LitTold (e size : Nat) (w : World) (g m : Nat) (ys : List Value) (v' : Value) (w' : World) : Prop :=
  (m = 0 ∧ v' = .slice (some ⟨g, 0, none⟩) 0 0 ∧ w' = w) ∨ (0 < m ∧ w'.ownsRow w.heap.size e size v' m ys)

theorem run_app_lit {t e : TypeId} {z : Value} {size bytes : Nat} (E : ElemG t e z size bytes) (w : World) (g : Nat) (ty : TypeId) (m : Nat) (ys : List Value) (A : Option Addr) (c : Nat) (hrow : RowG size w (.slice A m c) m ys) (hlen : m ≤ 1000000) :
    ∃ v' w', (Builtin.append_ #[t, t] ty #[.slice (some ⟨g, 0, none⟩) 0 0, .slice A m c]).run Tryz.prog w = .ok v' w' ∧ Below w.heap.size w w' ∧ LitTold e size w g m ys v' w' := by
  obtain ⟨i0, hi, hz0, hz1, hz2⟩ := info_parts E.info
  obtain ⟨A', c', hv, h0, h1, h2, hat⟩ := hrow
  injection hv with hA _ _
  subst hA
  rcases m with _ | m
  · refine ⟨_, w, ?_, Below.refl _ _, .inl ⟨rfl, rfl, rfl⟩⟩
    rcases A with _ | ad
    · simp [Builtin.append_, run_underlying E.under, sizeOf, typeInfo, hi, Builtin.lenOf, Builtin.firstCells, storeCells]
    · simp [Builtin.append_, run_underlying E.under, sizeOf, typeInfo, hi, Builtin.lenOf, Builtin.firstCells, storeCells, loadCells, loadCellsFrom]
  · have hpos : 0 < ys.length := by
      have := E.pos
      rw [h0, Nat.add_mul]
      omega
    obtain ⟨g2, o2, rfl, _, _⟩ := hat 0 hpos
    have hnews : ∀ j u, ys[j]? = some u → w.cell? ((⟨g2, o2, none⟩ : Addr).add j) = some u := by
      intro j u hu
      obtain ⟨hj, hu⟩ := List.getElem?_eq_some_iff.1 hu
      obtain ⟨g', o', he, _, hc⟩ := hat j hj
      obtain ⟨rfl, rfl⟩ := addr_inj he
      rw [add_addr, hc, hu]
    subst hz1
    subst hz2
    have hr := run_append_grow (P := Tryz.prog) w t ty e i0 z E.under hi hz0 ⟨g, 0, none⟩ 0 0 [] (by simp) (by simp) ⟨g2, o2, none⟩ (m + 1) c ys h0 hnews (by omega) (by omega) (growslice_fits (by omega) (by have := Nat.mul_le_mul hlen E.small; rw [Nat.zero_add]; omega))
    rw [Nat.zero_add] at hr
    have hge := grownCap_ge w (m + 1) 0 e
    refine ⟨_, _, hr, ?_, .inr ⟨by omega, ⟨h0, .inr ⟨w.heap.size, _, _, rfl, Nat.le_refl _, heap_alloc_new w.drew _, ?_, ?_, ?_, ?_⟩⟩⟩⟩
    · exact (Below.drew (Below.refl _ w)).alloc (by simp) _
    · exact hge
    · exact grownCap_le_maxLen w _ _ e (by unfold maxLen; omega)
    · rw [Array.size_append, Array.size_append, size_zeroCells, E.cells, List.size_toArray, List.size_toArray, h0, List.length_nil, Nat.zero_add, ← Nat.add_mul, Nat.add_sub_cancel' hge]
    · rw [← h0]
      simp

theorem step_lit {t e : TypeId} {z : Value} {size bytes : Nat} (E : ElemG t e z size bytes) {ops : Array Oper} {o : Oper} {a : Act} {K : Act → World → Prop} {Q : Exit → Act → World → Prop} {F : Prop} {w : World} (hgd : o.guard = none) (s x : Operand)
    (ho : o.op = .call { callee := .builtin .append, args := #[s, x], argTypes := #[t, t] }) (g m : Nat) (ys : List Value) (u : Value) (hs : a.eval s = .slice (some ⟨g, 0, none⟩) 0 0) (hx : a.eval x = u) (hrow : RowG size w u m ys) (hlen : m ≤ 1000000)
    (h : ∀ v' w', Below w.heap.size w w' → LitTold e size w g m ys v' w' → K (a.put o.dst v') w') :
    if Region.wanted o (yielded ops a.tmps) = true then Oper.wp Tryz.prog o a w K Q else F := by
  have hw : Region.wanted o (yielded ops a.tmps) = true := by simp [Region.wanted, hgd]
  rw [if_pos hw]
  obtain ⟨A, c, hu, _⟩ := id hrow
  subst hu
  obtain ⟨v', w', hrun, h2, h3⟩ := run_app_lit E w g o.type m ys A c hrow hlen
  unfold Oper.wp execOp
  simp only [ho, resolve, invoke, builtin, Sem.run_bind, Sem.run_pure, Result.andThen_ok, List.map_toArray, List.map_cons, List.map_nil, hs, hx, hrun]
  exact h v' w' h2 h3

end Go.Proofs.YtngldlconipnnaaGreatDoor

/- Walks: those that need a task. -/
namespace Go.Proofs.YtngldlconipnnaaGreatDoor
open Go.RowKit Pth

/-- Those of the first k that need a task. -/
def usersK (ls : List (List Int)) (t : Int) (k : Nat) : List Int := (upto k).filter (fun i => hasL (needsAt ls i) t)
theorem usersK_yes {ls : List (List Int)} {t : Int} {k : Nat} (hk : k < ls.length) (h : hasL ls[k] t = true) : usersK ls t (k + 1) = usersK ls t k ++ [(k : Int)] := by
  unfold usersK
  rw [upto_succ, List.filter_append]
  simp [needsAt_get hk, h]
theorem usersK_no {ls : List (List Int)} {t : Int} {k : Nat} (hk : k < ls.length) (h : hasL ls[k] t = false) : usersK ls t (k + 1) = usersK ls t k := by
  unfold usersK
  rw [upto_succ, List.filter_append]
  simp [needsAt_get hk, h]
theorem usersK_len (ls : List (List Int)) (t : Int) (k : Nat) : (usersK ls t k).length ≤ k := by
  have := List.length_filter_le (fun i => hasL (needsAt ls i) t) (upto k)
  rw [upto_len] at this
  exact this
def usersL (ls : List (List Int)) (t : Int) : List Int := usersK ls t ls.length
theorem mem_users {ls : List (List Int)} {t x : Int} : x ∈ usersL ls t ↔ (0 ≤ x ∧ x < (ls.length : Int)) ∧ t ∈ needsAt ls x := by
  unfold usersL usersK
  rw [List.mem_filter, mem_upto, hasL, decide_eq_true_iff]

theorem none_ownZ (B e : Nat) (w : World) : w.ownsRow B e 1 (.slice none 0 0) ([] : List Int).length (I []) := ⟨rfl, .inl ⟨rfl, rfl⟩⟩
theorem own_Z {w : World} {B e : Nat} {v : Value} {l : List Int} (h : w.ownsRow B e 1 v l.length (I l)) : w.ownsRow B e 1 v (I l).length (I l) := by rw [I_len]; exact h
theorem own_Z2 {w : World} {B e : Nat} {v : Value} {l : List Int} {x : Int} (h : w.ownsRow B e 1 v (I l ++ [Value.int .i64 x]).length (I l ++ [Value.int .i64 x])) : w.ownsRow B e 1 v (l ++ [x]).length (I (l ++ [x])) := by
  rw [I_append, ← I_len (l ++ [x]), I_append]; exact h

set_option maxRecDepth 20000 in
set_option maxHeartbeats 2000000 in
theorem l5Users_any (ls : List (List Int)) (l : List Int) (t : Int) (v : Value) (w : World) (hst : GraphV w v ls l) (hn : ls.length ≤ 10) :
    Calls Tryz.prog 217 #[v, .int .i64 t] w (IntsPost w.heap.size (usersL ls t) w) := by
  obtain ⟨nv, ov, rfl, h1, h2⟩ := hst
  obtain ⟨an, cn, rfl, hn1, hn2, hat⟩ := h1.lists
  obtain ⟨ao, co, rfl, ho1, ho2, _⟩ := h2.ints
  clear h1 h2
  unfold maxLen at hn2 ho2
  obtain ⟨wa, hwa⟩ : ∃ wa, wa = w.alloc (.cells #[.slice an ls.length cn, .slice ao l.length co] 26) := ⟨_, rfl⟩
  have HA : Hid (Below w.heap.size w wa) := by rw [hwa]; exact (Below.refl w.heap.size w).alloc (Nat.le_refl _) _
  have HWA := Lib.hid hwa
  clear hwa
  go_enter Tryz.func217, Tryz.ntmps217
  go_wp2_with fail
  rw [← HWA.out]
  go_loopw [5, 11] (fun q i wr => ∃ k : Nat, k ≤ ls.length ∧ i = .int .i64 k ∧ Hid (Below w.heap.size w wr) ∧ Hid (wr.ownsRow w.heap.size 3 1 q (usersK ls t k).length (I (usersK ls t k)))) (fun _ i _ => ls.length - (intOf i).toNat)
  case atStart => exact ⟨0, Nat.zero_le _, rfl, HA.out, none_ownZ _ _ _⟩
  case round =>
    obtain ⟨k, hk, rfl, HB, HN⟩ := hrel
    have hbs := HB.out.size
    have hcl := usersK_len ls t k
    by_cases hlt : k < ls.length
    · obtain ⟨g, o, a2, c2, rfl, hg, hcell0, hrk⟩ := hat k hlt
      have hcell : wr.cell? ⟨g, o + k, none⟩ = some (.slice a2 ls[k].length c2) := by rw [HB.out.cell (p := ⟨g, o + k, none⟩) hg]; exact hcell0
      have CH := l1Has_any ls[k] t _ wr (hrk.below HB.out)
      clear hat hcell0 hrk
      rcases hh : hasL ls[k] t with _ | _
      · have HE := Lib.hid (usersK_no hlt hh)
        rw [hh] at CH
        have HC := Lib.hid CH
        clear CH hh
        generalize ls[k].length = n1 at *
        go_wp2_with fail
        refine HC.out.mono ?_
        rintro e w1 ⟨rfl, rfl⟩
        go_wp2_with fail
        go_roundw
        case rel => exact ⟨k + 1, by omega, by go_num, HB, by rw [HE.out]; exact HN.out⟩
        case measure => simp [intOf]; omega
      · have HE := Lib.hid (usersK_yes hlt hh)
        rw [hh] at CH
        have HC := Lib.hid CH
        have HNA := Lib.hid (own_Z HN.out)
        have hIl : (I (usersK ls t k)).length ≤ 1000000 := by rw [I_len]; omega
        clear CH hh HN
        generalize ls[k].length = n1 at *
        generalize usersK ls t k = m at *
        go_wp2_with fail
        refine HC.out.mono ?_
        rintro e w1 ⟨rfl, rfl⟩
        go_wp2_with (at_builtin; refine wpAppOne elemI rfl _ _ rfl w.heap.size _ (I m) rfl HNA.out _ rfl rfl rfl hIl HB.out.size ?_; intro v7 w7 hown7 hg7; have HN7 := Lib.hid (own_Z2 hown7); have HB7 := Lib.hid (HB.out.trans (below_own HNA.out hg7 HB.out.size)); clear hown7 hg7)
        go_roundw
        case rel => exact ⟨k + 1, by omega, by go_num, HB7, by rw [HE.out]; exact HN7.out⟩
        case measure => simp [intOf]; omega
    · obtain rfl : k = ls.length := by omega
      clear hat
      go_wp2_with fail
      go_ret
      exact ⟨_, rfl, HN.out, HB.out⟩

/-- A list of the call's own, and whether it is told. -/
def ListOk (m : List Int) (b : Bool) (w : World) (e : Ending) (w' : World) : Prop := ∃ v', e = .returned (.tuple #[v', .bool b]) ∧ w'.ownsRow w.heap.size 3 1 v' m.length (I m) ∧ Below w.heap.size w w'
noncomputable def usersA (ls : List (List Int)) (l : List Int) (t : Int) : List Int := if taskG ls l t then usersL ls t else []
theorem usersA_no {ls : List (List Int)} {l : List Int} {t : Int} (h : taskG ls l t = false) : usersA ls l t = [] := by unfold usersA; rw [h]; rfl
theorem usersA_yes {ls : List (List Int)} {l : List Int} {t : Int} (h : taskG ls l t = true) : usersA ls l t = usersL ls t := by unfold usersA; rw [h]; rfl
theorem usersA_short (ls : List (List Int)) (l : List Int) (t : Int) : (usersA ls l t).length ≤ 1000000 := by
  rcases h : taskG ls l t with _ | _
  · rw [usersA_no h]; simp
  · rw [usersA_yes h]
    have h1 := (taskG_yes h).1.high
    have h2 := usersK_len ls t ls.length
    unfold usersL
    omega

end Go.Proofs.YtngldlconipnnaaGreatDoor

/- Walks: new graphs. -/
namespace Go.Proofs.YtngldlconipnnaaGreatDoor
open Go.RowKit Pth

/-- A graph of the call's own, and whether it is told. -/
def GraphOk (ls : List (List Int)) (l : List Int) (b : Bool) (w : World) (e : Ending) (w' : World) : Prop := ∃ v', e = .returned (.tuple #[v', .bool b]) ∧ GraphO w.heap.size w' v' ls l ∧ Below w.heap.size w w'
theorem GraphO.none (B : Nat) (w : World) : GraphO B w (.agg #[.slice none 0 0, .slice none 0 0]) [] [] :=
  ⟨_, _, [], rfl, rfl, ⟨rfl, .inl ⟨rfl, rfl⟩⟩, fun p hp => by
    simp only [List.zip_nil_left, List.nil_append, List.mem_singleton] at hp
    subst hp
    exact ⟨rfl, .inl ⟨rfl, rfl⟩⟩, by simp⟩

/-- What a new list's block holds. -/
theorem make_alloc {t e : TypeId} {z : Value} {bytes : Nat} (E : Elem t e z bytes) (hz : z.cells = #[z]) (n : Nat) (hn : n ≤ 2000000) :
    ∃ cs : Array Value, cs.toList = List.replicate n z ∧ ∀ w : World, (Instr.makeSlice t (.int .i64 (n : Int)) (.int .i64 (n : Int))).run Tryz.prog w = .ok (.slice (some ⟨w.heap.size, 0, none⟩) n n) (w.alloc (.cells cs e)) := by
  obtain ⟨i0, hi, hz0, hz1, hz2⟩ := info_parts E.info
  refine ⟨madeCells z.cells (n * i0.size), by rw [hz, hz1, Nat.mul_one, toList_madeCells_one], fun w => ?_⟩
  have hb : ((i0.bytes : Int)) * (n : Int) ≤ 281474976710656 := by
    have h : i0.bytes * n ≤ 281474976710656 := by rw [hz2]; exact Nat.le_trans (Nat.mul_le_mul E.small hn) (by decide)
    have h' : ((i0.bytes * n : Nat) : Int) ≤ 281474976710656 := by omega
    rwa [Int.natCast_mul] at h'
  have hr := run_make (P := Tryz.prog) w t e i0 z E.under hi hz0 .i64 .i64 n n (by omega) (Int.le_refl _) hb (by omega)
  simp only [Int.toNat_natCast] at hr
  exact hr
theorem own_of_heap {w : World} {B e n g : Nat} {cs : Array Value} {xs : List Value} (hh : w.heap[g]? = some (.cells cs e (0, 0))) (hg : B ≤ g) (hx : cs.toList = xs) (hl : xs.length = n) (hn : n ≤ maxLen) : w.ownsRow B e 1 (.slice (some ⟨g, 0, none⟩) n n) n xs := by
  subst hx
  have hs : cs.size = n := by rw [Array.length_toList] at hl; exact hl
  refine ⟨by rw [hl, Nat.mul_one], .inr ⟨g, n, cs, rfl, hg, hh, Nat.le_refl _, hn, by omega, ?_⟩⟩
  rw [Nat.mul_one, ← hl, List.take_length]

/-- Four blocks laid one behind the other. -/
theorem four_new (w : World) (A X Y Z : Array Value) (a x y z : TypeId) :
    let W := ((((w.alloc (.cells A a)).alloc (.cells X x)).alloc (.cells Y y)).alloc (.cells Z z)).drew
    W.heap[w.heap.size]? = some (.cells A a (0, 0)) ∧ W.heap[w.heap.size + 1]? = some (.cells X x (0, 0)) ∧ W.heap[w.heap.size + 1 + 1]? = some (.cells Y y (0, 0)) ∧ W.heap[w.heap.size + 1 + 1 + 1]? = some (.cells Z z (0, 0)) ∧ Below w.heap.size w W := by
  have e1 : (w.alloc (.cells A a)).heap.size = w.heap.size + 1 := by simp
  have e2 : ((w.alloc (.cells A a)).alloc (.cells X x)).heap.size = w.heap.size + 1 + 1 := by simp
  have e3 : (((w.alloc (.cells A a)).alloc (.cells X x)).alloc (.cells Y y)).heap.size = w.heap.size + 1 + 1 + 1 := by simp
  have h0 := heap_alloc_new w (.cells A a)
  have h1 := heap_alloc_new (w.alloc (.cells A a)) (.cells X x)
  have h2 := heap_alloc_new ((w.alloc (.cells A a)).alloc (.cells X x)) (.cells Y y)
  have h3 := heap_alloc_new (((w.alloc (.cells A a)).alloc (.cells X x)).alloc (.cells Y y)) (.cells Z z)
  rw [e1] at h1
  rw [e2] at h2
  rw [e3] at h3
  have o1 := Below.heap_alloc (w.alloc (.cells A a)) (.cells X x)
  have o2 := Below.heap_alloc ((w.alloc (.cells A a)).alloc (.cells X x)) (.cells Y y)
  have o3 := Below.heap_alloc (((w.alloc (.cells A a)).alloc (.cells X x)).alloc (.cells Y y)) (.cells Z z)
  refine ⟨?_, ?_, ?_, h3, ?_⟩
  · exact (o3 _ (by omega)).trans ((o2 _ (by omega)).trans ((o1 _ (by omega)).trans h0))
  · exact (o3 _ (by omega)).trans ((o2 _ (by omega)).trans h1)
  · exact (o3 _ (by omega)).trans h2
  · exact Below.drew (((((Below.refl w.heap.size w).alloc (Nat.le_refl _) _).alloc (by omega) _).alloc (by omega) _).alloc (by omega) _)

theorem own_setNe {w : World} {B e n : Nat} {v : Value} {xs : List Value} (h : w.ownsRow B e 1 v n xs) {p : Addr} (hp : v.ownBlock ≠ some p.block) (u : Value) : (w.setCell p u).ownsRow B e 1 v n xs := by
  refine ⟨h.1, ?_⟩
  rcases h.2 with h0 | ⟨g, cap, cur, hv, hg, hh, r⟩
  · exact .inl h0
  · exact .inr ⟨g, cap, cur, hv, hg, (Below.heap_setCell w p u g (fun e => hp (by rw [hv, ← e]; rfl))).trans hh, r⟩
theorem Blk2.setNe {w : World} {b t : Nat} {x y : Value} (h : Blk2 w b t x y) {p : Addr} (hp : b ≠ p.block) (u : Value) : Blk2 (w.setCell p u) b t x y := (Below.heap_setCell w p u b hp).trans h
/-- The blocks of a new graph. -/
structure NewAt (w : World) (csN csI : Array Value) (n b g1 g2 : Nat) (wx : World) : Prop where
  hb : w.heap.size < b
  hg1 : w.heap.size < g1
  hg2 : w.heap.size < g2
  res : Blk2 wx w.heap.size 26 (.slice none 0 0) (.slice none 0 0)
  blk : Blk2 wx b 26 (.slice (some ⟨g1, 0, none⟩) n n) (.slice (some ⟨g2, 0, none⟩) n n)
  needs : wx.heap[g1]? = some (.cells csN 24 (0, 0))
  order : wx.heap[g2]? = some (.cells csI 3 (0, 0))
  below : Below w.heap.size w wx
theorem blk_ne {w : World} {b t n B e : Nat} {x y : Value} {v : Value} {xs : List Value} (h : Blk2 w b t x y) (ho : w.ownsRow B e 1 v n xs) (he : e ≠ t) : ∀ k, v.ownBlock = some k → b ≠ k := by
  intro k hk hbk
  subst hbk
  rcases ho.2 with ⟨hv, _⟩ | ⟨g, cap, cur, hv, _, hg, _⟩
  · rw [hv] at hk; simp [Value.ownBlock] at hk
  · rw [hv] at hk
    simp only [Value.ownBlock, Option.some.injEq] at hk
    subst hk
    unfold Blk2 at h
    rw [h] at hg
    simp at hg
    exact he hg.2.symm
theorem Blk2.beside {w w' : World} {b t : Nat} {x y : Value} {r : Option Nat} (h : Blk2 w b t x y) (hg : w.grownBy w' r) (hr : r ≠ some b) : Blk2 w' b t x y := (hg.block b (lt_of_block h) (fun e => hr e.symm)).trans h
theorem nil_lists (B : Nat) (w : World) (n : Nat) : Lists B w ((List.replicate n (Value.slice none 0 0)).zip (List.replicate n [])) := by
  rw [List.zip_replicate']
  refine ⟨fun p hp => ?_, ?_⟩
  · rw [List.eq_of_mem_replicate hp]; exact ⟨rfl, .inl ⟨rfl, rfl⟩⟩
  · rw [List.pairwise_replicate]
    exact .inr (fun b h => by simp [Value.ownBlock] at h)
theorem Lists.more {B : Nat} {w : World} {L : List (Value × List Int)} {v : Value} {l : List Int} (h : Lists B w L) (hown : w.ownsRow B 3 1 v l.length (I l)) (ha : ∀ p ∈ L, Apart p (v, l)) : Lists B w (L ++ [(v, l)]) := by
  refine ⟨fun p hp => ?_, ?_⟩
  · rw [List.mem_append, List.mem_singleton] at hp
    rcases hp with hp | rfl
    · exact h.1 p hp
    · exact hown
  · rw [List.pairwise_append]
    refine ⟨h.2, by simp, fun p hp q hq => ?_⟩
    rw [List.mem_singleton] at hq
    subst hq
    exact ha p hp

set_option maxRecDepth 20000 in
set_option maxHeartbeats 2000000 in
theorem specNew_no (n : Int) (w : World) (h : ¬ (1 ≤ n ∧ n ≤ 10)) :
    Calls Tryz.prog 152 #[.int .i64 n] w (GraphOk [] [] false w) := by
  have e1 : (decide ((1 : Int) ≤ n) && decide (n ≤ 10)) = false := by
    rw [Bool.eq_false_iff]; intro h'; rw [Bool.and_eq_true, decide_eq_true_iff, decide_eq_true_iff] at h'; exact h h'
  have HI := fun W => l1In_any n 1 10 W
  rw [e1] at HI
  have HC := Lib.hid HI
  clear HI e1 h
  go_enter Tryz.func152, Tryz.ntmps152
  go_wp2_with fail
  refine (HC.out _).mono ?_
  rintro e w1 ⟨rfl, rfl⟩
  go_wp2_with fail
  refine bodyPost_ret (results_cell2 rfl rfl (load_store2 (x := .slice none 0 0) (y := .slice none 0 0) (by simp) (by simp))) rfl ?_
  exact ⟨_, rfl, GraphO.none _ _, (Below.refl w.heap.size w).alloc (Nat.le_refl _) _⟩

set_option maxRecDepth 20000 in
set_option maxHeartbeats 2000000 in
theorem specNew_yes (n : Nat) (w : World) (h1 : 1 ≤ n) (h2 : n ≤ 10) :
    Calls Tryz.prog 152 #[.int .i64 (n : Int)] w (GraphOk (List.replicate n []) (upto n) true w) := by
  have e1 : (decide ((1 : Int) ≤ (n : Int)) && decide ((n : Int) ≤ 10)) = true := by simp; omega
  have HI := fun W => l1In_any (n : Int) 1 10 W
  rw [e1] at HI
  have HC := Lib.hid HI
  obtain ⟨csN, hcN, mN⟩ := make_alloc elemN rfl n (by omega)
  have HCN := Lib.hid hcN
  clear HI e1 hcN
  go_enter Tryz.func152, Tryz.ntmps152
  go_wp2_with fail
  refine (HC.out _).mono ?_
  rintro e w1 ⟨rfl, rfl⟩
  go_wp2_with fail
  have h3 : Hid (Blk2 (((w.alloc (.cells #[.slice none 0 0, .slice none 0 0] 26)).alloc (.cells csN 24)).alloc (.cells #[.slice (some ⟨w.heap.size + 1, 0, none⟩) n n, .slice none 0 0] 26)) (w.heap.size + 1 + 1) 26 (.slice (some ⟨w.heap.size + 1, 0, none⟩) n n) (.slice none 0 0) ∧
      Blk2 (((w.alloc (.cells #[.slice none 0 0, .slice none 0 0] 26)).alloc (.cells csN 24)).alloc (.cells #[.slice (some ⟨w.heap.size + 1, 0, none⟩) n n, .slice none 0 0] 26)) w.heap.size 26 (.slice none 0 0) (.slice none 0 0) ∧
      (((w.alloc (.cells #[.slice none 0 0, .slice none 0 0] 26)).alloc (.cells csN 24)).alloc (.cells #[.slice (some ⟨w.heap.size + 1, 0, none⟩) n n, .slice none 0 0] 26)).ownsRow (w.heap.size + 1) 24 1 (.slice (some ⟨w.heap.size + 1, 0, none⟩) n n) n (List.replicate n (.slice none 0 0)) ∧
      Below w.heap.size w (((w.alloc (.cells #[.slice none 0 0, .slice none 0 0] 26)).alloc (.cells csN 24)).alloc (.cells #[.slice (some ⟨w.heap.size + 1, 0, none⟩) n n, .slice none 0 0] 26))) := by
    obtain ⟨k0, k1, k2, k3, kb⟩ := four_new w #[.slice none 0 0, .slice none 0 0] csN #[.slice (some ⟨w.heap.size + 1, 0, none⟩) n n, .slice none 0 0] #[] 26 24 26 0
    have e3 : (((w.alloc (.cells #[.slice none 0 0, .slice none 0 0] 26)).alloc (.cells csN 24)).alloc (.cells #[.slice (some ⟨w.heap.size + 1, 0, none⟩) n n, .slice none 0 0] 26)).heap.size = w.heap.size + 1 + 1 + 1 := by simp
    have o3 := Below.heap_alloc (((w.alloc (.cells #[.slice none 0 0, .slice none 0 0] 26)).alloc (.cells csN 24)).alloc (.cells #[.slice (some ⟨w.heap.size + 1, 0, none⟩) n n, .slice none 0 0] 26)) (.cells #[] 0)
    refine ⟨(o3 _ (by omega)).symm.trans k2, (o3 _ (by omega)).symm.trans k0, own_of_heap ((o3 _ (by omega)).symm.trans k1) (Nat.le_refl _) HCN.out (by simp) (by unfold maxLen; omega), ?_⟩
    exact (((Below.refl w.heap.size w).alloc (Nat.le_refl _) _).alloc (by simp) _).alloc (by simp; omega) _
  have e3 : w.heap.size + 1 + 1 + 1 ≤ (((w.alloc (.cells #[.slice none 0 0, .slice none 0 0] 26)).alloc (.cells csN 24)).alloc (.cells #[.slice (some ⟨w.heap.size + 1, 0, none⟩) n n, .slice none 0 0] 26)).heap.size := by simp
  clear mN HCN HC
  generalize (((w.alloc (.cells #[.slice none 0 0, .slice none 0 0] 26)).alloc (.cells csN 24)).alloc (.cells #[.slice (some ⟨w.heap.size + 1, 0, none⟩) n n, .slice none 0 0] 26)) = wb at *
  go_loopw [5] (fun i wr => ∃ (k : Nat) (qv : Value), k ≤ n ∧ i = .int .i64 k ∧ Hid (wr.ownsRow (w.heap.size + 1 + 1 + 1) 3 1 qv (upto k).length (I (upto k))) ∧ Hid (wr.ownsRow (w.heap.size + 1) 24 1 (.slice (some ⟨w.heap.size + 1, 0, none⟩) n n) n (List.replicate n (.slice none 0 0))) ∧ Hid (Blk2 wr (w.heap.size + 1 + 1) 26 (.slice (some ⟨w.heap.size + 1, 0, none⟩) n n) qv) ∧ Hid (Blk2 wr w.heap.size 26 (.slice none 0 0) (.slice none 0 0)) ∧ Hid (Below w.heap.size w wr) ∧ w.heap.size + 1 + 1 + 1 ≤ wr.heap.size) (fun i _ => n - (intOf i).toNat)
  case atStart => exact ⟨0, _, Nat.zero_le _, rfl, none_ownZ _ _ _, h3.out.2.2.1, h3.out.1, h3.out.2.1, h3.out.2.2.2, e3⟩
  case round =>
    clear h3 e3
    obtain ⟨k, qv, hk, rfl, HO, HR, HP, HQ, HB, hz⟩ := hrel
    obtain ⟨qa, qc, rfl⟩ := own_slice HO.out
    rw [upto_len] at HO HP
    have p0 := HP.out.cells.1
    have p1 := HP.out.cells.2
    by_cases hlt : k < n
    · have HNA : Hid (wr.ownsRow (w.heap.size + 1 + 1 + 1) 3 1 (.slice qa k qc) (I (upto k)).length (I (upto k))) := by rw [I_len, upto_len]; exact HO.out
      have hIl : (I (upto k)).length ≤ 1000000 := by rw [I_len, upto_len]; omega
      have hq : ∀ i, (Value.slice qa k qc).ownBlock = some i → w.heap.size + 1 + 1 + 1 ≤ i := fun i hi => (HO.out.lt i hi).1
      have HQB := Lib.hid hq
      have HUS := Lib.hid (upto_succ k)
      clear HO hq
      go_wp2_with (at_builtin; refine wpAppOne elemI rfl _ _ rfl (w.heap.size + 1 + 1 + 1) _ (I (upto k)) rfl HNA.out _ rfl rfl rfl hIl hz ?_; intro v7 w7 hown7 hg7; have HO7 := Lib.hid (own_Z2 hown7); have HP7 := Lib.hid (HP.out.beside hg7 (fun e => by have := HQB.out _ e; omega)); have HQ7 := Lib.hid (HQ.out.beside hg7 (fun e => by have := HQB.out _ e; omega)); have HR7 := Lib.hid (own_apartI HR.out hg7 (fun i hi hi' => by have h1 := HQB.out _ hi; have h2 : w.heap.size + 1 = i := Option.some.inj hi'; omega)); have HB7 := Lib.hid (HB.out.trans ((Below.refl w.heap.size wr).grown hg7 HB.out.size (fun i hi => by have := HQB.out _ hi; omega))); have hz7 := Nat.le_trans hz hg7.size; obtain ⟨ya, yc, rfl⟩ := own_slice HO7.out; rw [← HUS.out] at HO7; have r1 := HP7.out.cells.2; have f1 := HP7.out.soft 1; clear hown7 hg7)
      have HO9 : Hid (w7.ownsRow (w.heap.size + 1 + 1 + 1) 3 1 (.slice ya ((upto k).length + 1) yc) (upto (k + 1)).length (I (upto (k + 1)))) := by
        have h := HO7.out
        have hle : (upto (k + 1)).length = (upto k).length + 1 := by rw [upto_len, upto_len]
        rw [hle] at h ⊢
        exact h
      have HO8 := Lib.hid (own_setI HO9.out (p := ⟨w.heap.size + 1 + 1, 1, none⟩) (Nat.lt_succ_self _) (.slice ya ((upto k).length + 1) yc))
      have HR8 := Lib.hid (own_setNe HR7.out (p := ⟨w.heap.size + 1 + 1, 1, none⟩) (fun e => by have h2 : w.heap.size + 1 = w.heap.size + 1 + 1 := Option.some.inj e; omega) (.slice ya ((upto k).length + 1) yc))
      have HP8 := Lib.hid (HP7.out.set1 (.slice ya ((upto k).length + 1) yc))
      have HQ8 := Lib.hid (HQ7.out.setNe (p := ⟨w.heap.size + 1 + 1, 1, none⟩) (by show w.heap.size ≠ w.heap.size + 1 + 1; omega) (.slice ya ((upto k).length + 1) yc))
      have HB8 := Lib.hid (HB7.out.setCell (p := ⟨w.heap.size + 1 + 1, 1, none⟩) (by show w.heap.size ≤ w.heap.size + 1 + 1; omega) (.slice ya ((upto k).length + 1) yc))
      have hz8 : w.heap.size + 1 + 1 + 1 ≤ (w7.setCell ⟨w.heap.size + 1 + 1, 1, none⟩ (.slice ya ((upto k).length + 1) yc)).heap.size := by simpa using hz7
      go_roundw
      case rel => exact ⟨k + 1, _, by omega, by go_num, HO8, HR8, HP8, HQ8, HB8, hz8⟩
      case measure => simp [intOf]; omega
    · obtain rfl : k = n := by omega
      have q0 := HQ.out.cells.1
      have q1 := HQ.out.cells.2
      have f0 := HQ.out.soft 0
      have f1 := HQ.out.soft 1
      have HZ := Lib.hid ((HQ.out.set0 (.slice (some ⟨w.heap.size + 1, 0, none⟩) k k)).set1 (.slice qa k qc))
      go_wp2_with fail
      refine bodyPost_ret (results_cell2 rfl rfl (load_store2 HZ.out.cells.1 HZ.out.cells.2)) rfl ?_
      have hz : w.heap.size < w.heap.size + 1 := Nat.lt_succ_self _
      have r1 := own_setI (own_setI HR.out (p := ⟨w.heap.size, 0, none⟩) hz (.slice (some ⟨w.heap.size + 1, 0, none⟩) k k)) (p := ⟨w.heap.size, 1, none⟩) hz (.slice qa k qc)
      have r2 := own_setI (own_setI HO.out (p := ⟨w.heap.size, 0, none⟩) (by show w.heap.size < w.heap.size + 1 + 1 + 1; omega) (.slice (some ⟨w.heap.size + 1, 0, none⟩) k k)) (p := ⟨w.heap.size, 1, none⟩) (by show w.heap.size < w.heap.size + 1 + 1 + 1; omega) (.slice qa k qc)
      refine ⟨_, rfl, ⟨_, _, List.replicate k (.slice none 0 0), rfl, by simp, by rw [List.length_replicate]; exact own_base r1 (Nat.le_succ _), (nil_lists _ _ k).more (by rw [upto_len]; exact own_base r2 (by omega)) (fun p hp i hi => ?_)⟩, (HB.out.setCell (p := ⟨w.heap.size, 0, none⟩) (Nat.le_refl _) _).setCell (p := ⟨w.heap.size, 1, none⟩) (Nat.le_refl _) _⟩
      rw [List.zip_replicate'] at hp
      rw [List.eq_of_mem_replicate hp] at hi
      simp [Value.ownBlock] at hi
end Go.Proofs.YtngldlconipnnaaGreatDoor

/- A queue of numbers in memory of the call's own: cut at its front, put behind. -/
namespace Go.Proofs.YtngldlconipnnaaGreatDoor
open Go.RowKit Pth

/-- A queue in block g. -/
structure OwnQ (B g : Nat) (w : World) (v : Value) (xs : List Int) : Prop where
  hB : B ≤ g
  lies : ∃ o cap cur, v = .slice (some ⟨g, o, none⟩) xs.length cap ∧ w.heap[g]? = some (.cells cur 3 (0, 0)) ∧ xs.length ≤ cap ∧ cap ≤ maxLen ∧ o + cap ≤ cur.size ∧ ∀ j (hj : j < xs.length), w.cell? ⟨g, o + j, none⟩ = some (.int .i64 xs[j])
theorem OwnQ.row {B g : Nat} {w : World} {v : Value} {xs : List Int} (h : OwnQ B g w v xs) : RowV w v (I xs) := by
  obtain ⟨o, cap, cur, hv, hh, h1, h2, h3, hc⟩ := h.lies
  refine ⟨_, cap, by rw [hv, I_len], by rw [I_len]; exact h1, h2, fun k hk => ⟨g, o, rfl, lt_of_block hh, ?_⟩⟩
  rw [I_len] at hk
  rw [hc k hk]
  simp [I]
theorem OwnQ.keep {B g : Nat} {w w' : World} {v : Value} {xs : List Int} (h : OwnQ B g w v xs) (hg : w'.heap[g]? = w.heap[g]?) : OwnQ B g w' v xs := by
  obtain ⟨o, cap, cur, hv, hh, h1, h2, h3, hc⟩ := h.lies
  have hh' := hg.trans hh
  refine ⟨h.hB, o, cap, cur, hv, hh', h1, h2, h3, fun j hj => ?_⟩
  have := hc j hj
  rw [cell_of_row w g (o + j) cur _ (0, 0) hh] at this
  rw [cell_of_row w' g (o + j) cur _ (0, 0) hh']
  exact this
theorem OwnQ.lt {B g : Nat} {w : World} {v : Value} {xs : List Int} (h : OwnQ B g w v xs) : g < w.heap.size := by
  obtain ⟨o, cap, cur, hv, hh, _⟩ := h.lies
  exact lt_of_block hh
theorem OwnQ.below {B g : Nat} {w w' : World} {v : Value} {xs : List Int} (h : OwnQ B g w v xs) (hb : Below w.heap.size w w') : OwnQ B g w' v xs := h.keep (hb.block g h.lt)
/-- Without its first. -/
theorem OwnQ.pop {B g : Nat} {w : World} {v : Value} {x : Int} {xs : List Int} (h : OwnQ B g w v (x :: xs)) :
    ∃ a cap v', v = .slice a (xs.length + 1) cap ∧ (∀ W, (Instr.slice 24 (.slice a (xs.length + 1) cap) (some (.int .i64 1)) none none).run Tryz.prog W = .ok v' W) ∧ OwnQ B g w v' xs := by
  obtain ⟨o, cap, cur, hv, hh, h1, h2, h3, hc⟩ := h.lies
  rw [List.length_cons] at hv h1
  refine ⟨_, cap, _, hv, fun W => run_cutI (some ⟨g, o, none⟩) (xs.length + 1) cap 1 (by omega) h1 W, h.hB, ?_⟩
  have rest : ∀ j (hj : j < xs.length), w.cell? ⟨g, o + 1 + j, none⟩ = some (.int .i64 xs[j]) := by
    intro j hj
    have := hc (j + 1) (by simp; omega)
    rw [show o + 1 + j = o + (j + 1) by omega, this]
    simp
  by_cases hcap : cap = 1
  · refine ⟨o, 0, cur, ?_, hh, by omega, by unfold maxLen; omega, by omega, fun j hj => by omega⟩
    have : xs.length = 0 := by omega
    rw [if_pos hcap, hcap, this]
  · refine ⟨o + 1, cap - 1, cur, ?_, hh, by omega, by omega, by omega, rest⟩
    rw [if_neg hcap]
    simp [add_addr]
/-- One put behind. -/
theorem OwnQ.push {B g : Nat} {w : World} {v : Value} {xs : List Int} (h : OwnQ B g w v xs) (k : Int) (hl : xs.length ≤ 1000) (ty : TypeId) :
    ∃ v' w' g', (Builtin.append_ #[24, 24] ty #[v, .slice (some ⟨w.heap.size, 0, none⟩) 1 1]).run Tryz.prog (w.alloc (.cells #[.int .i64 k] 3)) = .ok v' w' ∧ OwnQ B g' w' v' (xs ++ [k]) ∧ w.grownBy w' (some g) ∧ (g' = g ∨ w.heap.size < g') := by
  obtain ⟨i0, hi, hz0, hz1, hz2⟩ := info_parts elemI.info
  have hgs := h.lt
  obtain ⟨o, cap, cur, hv, hh, h1, h2, h3, hc⟩ := h.lies
  have hB := h.hB
  subst hv
  have hnews : ∀ j u, [Value.int .i64 k][j]? = some u → (w.alloc (.cells #[.int .i64 k] 3)).cell? ((⟨w.heap.size, 0, none⟩ : Addr).add j) = some u := one_new w _ _
  have hone : ∀ u ∈ [Value.int .i64 k], u.oneCell' = true := by intro u hu; simp at hu; subst hu; rfl
  have hha : (w.alloc (.cells #[.int .i64 k] 3)).heap[g]? = some (.cells cur 3 (0, 0)) := (Below.heap_alloc w _ g hgs).trans hh
  have hca : ∀ j (hj : j < xs.length), (w.alloc (.cells #[.int .i64 k] 3)).cell? ⟨g, o + j, none⟩ = some (.int .i64 xs[j]) := fun j hj => (World.cell?_alloc_lt w _ _ hgs).trans (hc j hj)
  by_cases hroom : xs.length + 1 ≤ cap
  · have hr := run_append_room_cells (P := Tryz.prog) (w.alloc (.cells #[.int .i64 k] 3)) 24 ty 3 i0 elemI.under hi g o xs.length cap ⟨w.heap.size, 0, none⟩ 1 1 [.int .i64 k] (by rw [hz1]; rfl) hnews hone hroom
      (fun j hj => by
        have : j = 0 := by simp at hj; omega
        subst this
        rw [hz1, Nat.mul_one, Nat.add_zero, cell_of_row _ g _ cur _ (0, 0) hha, Array.getElem?_eq_getElem (by omega)]; rfl)
      (fun j hj => frozen_of_row _ g _ cur _ hha)
    have e1 : (w.alloc (.cells #[.int .i64 k] 3)).setCells g (o + xs.length * i0.size) [.int .i64 k] = (w.alloc (.cells #[.int .i64 k] 3)).setCell ⟨g, o + xs.length, none⟩ (.int .i64 k) := by rw [hz1, Nat.mul_one]; rfl
    rw [e1] at hr
    have hset := heap_setCell_same (w.alloc (.cells #[.int .i64 k] 3)) g (o + xs.length) cur 3 (.int .i64 k) hha
    refine ⟨_, _, g, hr, ⟨hB, o, cap, _, by rw [List.length_append]; rfl, hset, by simp; omega, h2, by simpa using h3, fun j hj => ?_⟩, ⟨rfl, rfl, rfl, by simp, fun i hi hne => ?_⟩, .inl rfl⟩
    · rw [cell_of_row _ g _ _ _ (0, 0) hset]
      rw [List.length_append, List.length_singleton] at hj
      by_cases hjl : j < xs.length
      · have := hca j hjl
        rw [cell_of_row _ g _ cur _ (0, 0) hha] at this
        rw [List.getElem_append_left hjl, ← this]
        rw [Array.getElem?_setIfInBounds_ne (by omega)]
      · have hje : j = xs.length := by omega
        subst hje
        rw [Array.getElem?_setIfInBounds_self_of_lt (by omega)]
        simp
    · rw [Below.heap_setCell _ _ _ _ (fun e => hne (by rw [e]))]
      exact Below.heap_alloc w _ i hi
  · obtain ⟨v', w', hr, hown, hg⟩ := run_append_arg_grows (P := Tryz.prog) (w.alloc (.cells #[.int .i64 k] 3)) 24 ty 3 i0 (.int .i64 0) 1 8 elemI.under hi hz0 hz1 hz2 rfl (by decide) ⟨g, o, none⟩ xs.length cap (I xs) (by rw [I_len, Nat.mul_one])
      (fun j u hj => by
        obtain ⟨hj1, hj2⟩ := List.getElem?_eq_some_iff.1 hj
        rw [I_len] at hj1
        rw [add_addr, hca j hj1, ← hj2, I_get hj1])
      ⟨w.heap.size, 0, none⟩ 1 1 [.int .i64 k] rfl hnews (by omega) (by unfold maxLen; omega) (by omega)
    have hcat : I xs ++ [Value.int .i64 k] = I (xs ++ [k]) := by rw [I_append]; rfl
    rw [hcat] at hown
    rcases hown.2 with ⟨_, h0⟩ | ⟨g', cap', cur', hv', hBg, hh', hn', hm', hs', ht'⟩
    · omega
    · have hsz : w.heap.size < g' := by simp at hBg; omega
      refine ⟨v', w', g', hr, ⟨by omega, 0, cap', cur', by rw [hv', List.length_append]; rfl, hh', by rw [List.length_append]; exact hn', hm', by omega, fun j hj => ?_⟩, ⟨hg.os, hg.tape, hg.output, Nat.le_trans (by simp) hg.size, fun i hi hne => (hg.block i (by simp; omega) (by simp)).trans (Below.heap_alloc w _ i hi)⟩, .inr hsz⟩
      subst hv'
      have := hown.cellAt j (by rw [List.length_append] at hj; simpa using hj)
      rw [Nat.zero_add, this, List.getElem?_eq_getElem (by rw [I_len]; exact hj), I_get hj]
end Go.Proofs.YtngldlconipnnaaGreatDoor

/- Walks: copies of graphs. -/
namespace Go.Proofs.YtngldlconipnnaaGreatDoor
open Go.RowKit Pth

/-- All of a list copied into a new one. -/
theorem copy_all (l : List Int) (a : Option Addr) (cap : Nat) (W : World) (g : Nat) (cs : Array Value) (hrow : RowV W (.slice a l.length cap) (I l)) (hg : W.heap[g]? = some (.cells cs 3 (0, 0))) (hcs : cs.size = l.length) (hl : l.length ≤ 2000000) (B : Nat) (hB : B ≤ g) (_hBW : B ≤ W.heap.size) :
    ∃ W', (∀ ty, (Builtin.copy_ #[24, 24] ty #[.slice (some ⟨g, 0, none⟩) l.length l.length, .slice a l.length cap]).run Tryz.prog W = .ok (goInt l.length) W') ∧ W'.ownsRow B 3 1 (.slice (some ⟨g, 0, none⟩) l.length l.length) l.length (I l) ∧ W.grownBy W' (some g) := by
  obtain ⟨a', c', he, h1, h2, hat⟩ := hrow.ints
  injection he with he1 _ he3
  subst he1 he3
  by_cases h0 : l.length = 0
  · have hl0 : l = [] := List.eq_nil_of_length_eq_zero h0
    subst hl0
    refine ⟨W, fun ty => run_copy_none (P := Tryz.prog) W 24 24 ty 3 _ _ _ _ _ _ Tryz.underlying24 (by kernel_rfl) rfl, ?_, grown_refl _ _⟩
    exact own_of_heap hg hB (by have : cs.size = 0 := hcs; rw [Array.eq_empty_of_size_eq_zero this]; rfl) rfl (by unfold maxLen; omega)
  · obtain ⟨g0, o0, rfl, hg0, _⟩ := hat 0 (by omega)
    have hsrc : ∀ j u, (I l)[j]? = some u → W.cell? ((⟨g0, o0, none⟩ : Addr).add j) = some u := by
      intro j u hj
      obtain ⟨hj1, hj2⟩ := List.getElem?_eq_some_iff.1 hj
      rw [I_len] at hj1
      obtain ⟨g', o', he, hg', hc⟩ := hat j hj1
      obtain ⟨rfl, rfl⟩ := addr_inj he
      rw [add_addr, hc, ← hj2, I_get hj1]
    have hrun := fun ty => run_copy_row (P := Tryz.prog) W 24 24 ty 3 g 0 l.length l.length ⟨g0, o0, none⟩ l.length cap cs 3 (I l) Tryz.underlying24 (by kernel_rfl) hg (by rw [I_len]; simp) hsrc (by rw [I_len, hcs]; omega) (I_one l)
    rw [I_len] at hrun
    refine ⟨_, hrun, ?_, ?_⟩
    · have hn := setRow_heap W g _ (cs.toList.take 0 ++ I l ++ cs.toList.drop (0 + l.length)).toArray _ _ hg
      have he : (cs.toList.take 0 ++ I l ++ cs.toList.drop (0 + l.length)) = I l := by
        rw [List.take_zero, List.nil_append, List.drop_of_length_le (by rw [Array.length_toList]; omega), List.append_nil]
      rw [he] at hn ⊢
      exact own_of_heap hn hB (by simp) (I_len l) (by unfold maxLen; omega)
    · exact ⟨rfl, rfl, rfl, by simp [World.setRow], fun k _ hk => setRow_other W g k _ (fun e => hk (by rw [e]))⟩

end Go.Proofs.YtngldlconipnnaaGreatDoor
