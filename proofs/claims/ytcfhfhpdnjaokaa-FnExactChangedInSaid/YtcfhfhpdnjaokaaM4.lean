/- Texts of one claim, joined in their order. -/
import Derived.Lib.SlicesCompact
import Derived.Shelf.Small.Bits
import Derived.Shelf.Small.Wraps
import Derived.Shelf.Strconv.Itoa0
import Derived.Shelf.Sort.Plain
import Derived.Ground.Names2Prog
import Derived.Shelf.Slices.SearchI
import Derived.Shelf.Slices.In.SortNone
import Derived.Test.YtcfhfhpdnjaokaaProg
import Derived.Lib.OwnBridge
import Derived.Sort.OwnSortedInts
import Derived.Test.YtcfhfhpdnjaokaaRows
import Derived.WalkKit
import Derived.Deep.Quiet
import Derived.StillTail
import Derived.BigQuiet
import Derived.Test.YtcfhfhpdnjaokaaM2
import Derived.Test.YtcfhfhpdnjaokaaM3
import Derived.Test.YtcfhfhpdnjaokaaM1

/- What the rows of chapter 7 share: how texts, ops, bools, results and plans that came in read. -/
namespace Go.Proofs.Ytcfhfhpdnjaokaa
open Go.ChangeShapes Go.WideShapes Go.ChangeAt Go.RowKit Pth

/-- A slice of texts that came in. -/
theorem texts_cells {H : Type} {enc : TypeId × Value → H} {W : World} {fuel : Nat} {v : Value} {x : DataW H × List MemPlace}
    (h : DataW.trod enc Try.prog W 0 (fun _ => true) true fuel 30 [v] = some x) : ∃ l : List (List UInt8), RowV W v (S l) ∧ ∀ x ∈ l, x.length ≤ maxLen := by
  rcases open_strings Try.underlying30 Try.underlying9 (by kernel_rfl) h with ⟨hcs, _⟩ | ⟨x, len, cap, ss, hcs, _, hl, hm, hz, hx, hcell, hws⟩
  · simp at hcs
    subst hcs
    exact ⟨[], ⟨none, 0, rfl, Nat.le_refl _, by unfold maxLen; omega, fun k hk => absurd hk (by simp [S])⟩, fun x hx => by simp at hx⟩
  · simp at hcs
    subst hcs
    simp only [if_true] at hz
    have hlen : ((ss.take len).map (·.data.toList)).length = len := by rw [List.length_map, List.length_take]; omega
    refine ⟨(ss.take len).map (·.data.toList), ⟨some x, cap, by rw [S_len, hlen], by rw [S_len, hlen]; omega, by omega, fun k hk => ?_⟩, fun y hy => ?_⟩
    · rw [S_len, hlen] at hk
      have hc := hcell k (by omega)
      have h0 := hcell 0 (by omega)
      obtain ⟨b, off, spot⟩ := x
      have hspot : spot = none := by simpa [Addr.add] using World.cell?_spot h0
      subst hspot
      rw [add_addr] at hc
      refine ⟨b, off, rfl, World.block_lt_of_cell? _ _ hc, ?_⟩
      rw [hc]
      simp only [S, List.getElem_map, List.getElem_take]
      rw [List.getD_eq_getElem?_getD, List.getElem?_eq_getElem (by omega)]
      rfl
    · simp only [List.mem_map] at hy
      obtain ⟨z, hz1, rfl⟩ := hy
      have := hws z (List.mem_of_mem_take hz1)
      show z.data.toList.length ≤ maxLen
      rw [Array.length_toList]
      exact this

/-- A struct of three fields, a cell each. -/
theorem three_cells {H : Type} {enc : TypeId × Value → H} {P : Program} {w : World} {base : Nat} {spare : Nat → Bool} {held : Bool} {t : TypeId} {f0 f1 f2 : Field} {n : Nat} {cs : List Value} {x : DataW H × List MemPlace}
    (he : P.underlying t = some (.struct #[f0, f1, f2])) (o0 : f0.offset = 0) (o1 : f1.offset = 1) (o2 : f2.offset = 2) (c0 : P.cellsOf f0.type = 1) (c1 : P.cellsOf f1.type = 1) (c2 : P.cellsOf f2.type = 1)
    (h : DataW.trod enc P w base spare held n t cs = some x) (hl : cs.length = 3) :
    ∃ (v0 v1 v2 : Value) (y0 y1 y2 : DataW H × List MemPlace) (k : Nat), cs = [v0, v1, v2] ∧ DataW.trod enc P w base spare held k f0.type [v0] = some y0 ∧ DataW.trod enc P w base spare held k f1.type [v1] = some y1 ∧ DataW.trod enc P w base spare held k f2.type [v2] = some y2 := by
  obtain ⟨xs, k, hk, hxy, _, hxl, hf⟩ := DataW.trod_struct he h
  match xs, hxl, cs, hl with
  | [y0, y1, y2], _, [v0, v1, v2], _ =>
    have g0 := hf 0 f0 rfl
    have g1 := hf 1 f1 rfl
    have g2 := hf 2 f2 rfl
    simp [o0, o1, o2, c0, c1, c2] at g0 g1 g2
    exact ⟨v0, v1, v2, y0, y1, y2, k, rfl, g0, g1, g2⟩

/-- A list of ops that came in. -/
theorem ops_cells {H : Type} {enc : TypeId × Value → H} {W : World} {fuel : Nat} {v : Value} {x : DataW H × List MemPlace}
    (hf : DataW.trod enc Try.prog W 0 (fun _ => true) true fuel 64 [v] = some x) : ∃ l : List OpT, RowO W v l ∧ ∀ f ∈ l, f.2.2.length ≤ maxLen := by
  rcases Deep.open_slice Try.underlying64 hf with ⟨hcs, _⟩ | ⟨a, len, cap, m, n, D, Pl, hcs, hb, hl, hm, hmm, _, hx⟩
  · simp at hcs
    subst hcs
    exact ⟨[], ⟨none, 0, rfl, rfl, Nat.le_refl _, by unfold maxLen; omega, fun k hk => absurd hk (by simp [OC])⟩, fun f hf => by simp at hf⟩
  · simp at hcs
    subst hcs
    simp only [if_true] at hmm
    have each : ∀ i, i < m → ∃ q : OpT, W.cell? ((a.add (i * 3)).add 0) = some (.int .i64 q.1) ∧ W.cell? ((a.add (i * 3)).add 1) = some (.int .i64 q.2.1) ∧ W.cell? ((a.add (i * 3)).add 2) = some (.string ⟨q.2.2.toArray⟩) ∧ q.2.2.length ≤ maxLen := by
      intro i hi
      obtain ⟨cs', h1, h2⟩ := hx i hi
      rw [show Try.prog.cellsOf 78 = 3 by kernel_rfl] at h1
      obtain ⟨_, hlen, hcell⟩ := World.cells?_some h1
      obtain ⟨v0, v1, v2, y0, y1, y2, k, rfl, g0, g1, g2⟩ := three_cells Try.underlying78 rfl rfl rfl (by kernel_rfl) (by kernel_rfl) (by kernel_rfl) h2 hlen
      obtain ⟨n0, e0, _, _⟩ := DataW.trod_int Try.underlying3 g0
      obtain ⟨n1, e1, _, _⟩ := DataW.trod_int Try.underlying3 g1
      obtain ⟨s2, e2, _, z2⟩ := DataW.trod_string Try.underlying9 g2
      simp at e0 e1 e2
      subst e0 e1 e2
      have q0 := hcell 0 (by omega)
      have q1 := hcell 1 (by omega)
      have q2 := hcell 2 (by omega)
      exact ⟨(n0, n1, s2.data.toList), by simpa using q0, by simpa using q1, by simpa using q2, by show s2.data.toList.length ≤ _; rw [Array.length_toList]; exact z2⟩
    obtain ⟨q, hq⟩ := Deep.choose_lt each
    have hlen : ((List.range len).map q).length = len := by simp
    refine ⟨(List.range len).map q, ⟨some a, cap, by rw [hlen], by rw [OC_len], by rw [hlen]; exact hl, hm, fun k hk => ?_⟩, fun f hf => ?_⟩
    · rw [OC_len, hlen] at hk
      obtain ⟨b, off, spot⟩ := a
      have h0 := (hq 0 (by omega)).1
      have hspot : spot = none := by simpa [Addr.add] using World.cell?_spot h0
      subst hspot
      have hi : k / 3 < len := by omega
      have hqi := hq (k / 3) (by omega)
      have hget : ((List.range len).map q)[k / 3]'(by rw [hlen]; exact hi) = q (k / 3) := by simp
      rw [add_addr, add_addr, add_addr, add_addr] at hqi
      refine ⟨b, off, rfl, World.block_lt_of_cell? _ _ hqi.1, ?_⟩
      have hat := OC_at (l := (List.range len).map q) (k := k / 3) (by rw [hlen]; exact hi)
      rw [hget] at hat
      have hm3 : k % 3 = 0 ∨ k % 3 = 1 ∨ k % 3 = 2 := by omega
      have hkl : k < (OC ((List.range len).map q)).length := by rw [OC_len, hlen]; exact hk
      have hgk : (OC ((List.range len).map q))[k]? = some (OC ((List.range len).map q))[k] := List.getElem?_eq_getElem hkl
      rw [← hgk]
      rcases hm3 with e | e | e
      · have ek : k = k / 3 * 3 := by omega
        have h1 := hat.1
        rw [← ek] at h1
        rw [h1, ← hqi.1]
        congr 2
        omega
      · have ek : k = k / 3 * 3 + 1 := by omega
        have h1 := hat.2.1
        rw [← ek] at h1
        rw [h1, ← hqi.2.1]
        congr 2
        omega
      · have ek : k = k / 3 * 3 + 2 := by omega
        have h1 := hat.2.2
        rw [← ek] at h1
        rw [h1, ← hqi.2.2.1]
        congr 2
        omega
    · simp only [List.mem_map, List.mem_range] at hf
      obtain ⟨i, hi, rfl⟩ := hf
      exact (hq i (by omega)).2.2.2

/-- A slice of lists of ops that came in. -/
theorem opss_cells {H : Type} {enc : TypeId × Value → H} {W : World} {fuel : Nat} {v : Value} {x : DataW H × List MemPlace}
    (h : DataW.trod enc Try.prog W 0 (fun _ => true) true fuel 27 [v] = some x) : ∃ ls : List (List OpT), RowOO W v ls ∧ ∀ l ∈ ls, ∀ f ∈ l, f.2.2.length ≤ maxLen := by
  rcases Deep.open_slice Try.underlying27 h with ⟨hcs, _⟩ | ⟨a, len, cap, m, n, D, Pl, hcs, hb, hl, hm, hmm, _, hx⟩
  · simp at hcs
    subst hcs
    exact ⟨[], ⟨[], rfl, ⟨none, 0, rfl, Nat.le_refl _, by unfold maxLen; omega, fun k hk => absurd hk (by simp)⟩, fun k h1 h2 => absurd h2 (by simp)⟩, by simp⟩
  · simp at hcs
    subst hcs
    simp only [if_true] at hmm
    have each : ∀ i, i < m → ∃ q : Value × List OpT, W.cell? ((a.add (i * 1)).add 0) = some q.1 ∧ RowO W q.1 q.2 ∧ ∀ f ∈ q.2, f.2.2.length ≤ maxLen := by
      intro i hi
      obtain ⟨cs', h1, h2⟩ := hx i hi
      rw [show Try.prog.cellsOf 64 = 1 by kernel_rfl] at h1
      obtain ⟨_, hlen, hcell⟩ := World.cells?_some h1
      match cs', hlen with
      | [u], _ =>
        obtain ⟨l, hl, hx3⟩ := ops_cells h2
        have q0 := hcell 0 (by omega)
        exact ⟨(u, l), by simpa using q0, hl, hx3⟩
    obtain ⟨q, hq⟩ := Deep.choose_lt each
    have hlen : ((List.range len).map fun i => (q i).2).length = len := by simp
    have hlen1 : ((List.range len).map fun i => (q i).1).length = len := by simp
    refine ⟨(List.range len).map fun i => (q i).2, ⟨(List.range len).map fun i => (q i).1, by rw [hlen, hlen1], ⟨some a, cap, by rw [hlen1], by rw [hlen1]; exact hl, hm, fun k hk => ?_⟩, fun k h1 h2 => ?_⟩, fun l hl3 f hf3 => ?_⟩
    · rw [hlen1] at hk
      obtain ⟨b, off, spot⟩ := a
      have h0 := (hq 0 (by omega)).1
      have hspot : spot = none := by simpa [Addr.add] using World.cell?_spot h0
      subst hspot
      have hk1 := (hq k (by omega)).1
      rw [add_addr, add_addr, Nat.mul_one, Nat.add_zero] at hk1
      refine ⟨b, off, rfl, World.block_lt_of_cell? _ _ hk1, ?_⟩
      rw [hk1]
      simp
    · have := (hq k (by rw [hlen1] at h1; omega)).2.1
      simpa using this
    · obtain ⟨i, hi, rfl⟩ := List.mem_map.1 hl3
      exact (hq i (by have := List.mem_range.1 hi; omega)).2.2 f hf3
/-- A slice of bools that came in. -/
theorem bools_cells {H : Type} {enc : TypeId × Value → H} {W : World} {fuel : Nat} {v : Value} {x : DataW H × List MemPlace}
    (h : DataW.trod enc Try.prog W 0 (fun _ => true) true fuel 26 [v] = some x) : ∃ l : List Bool, RowV W v (BL l) := by
  rcases Deep.open_slice Try.underlying26 h with ⟨hcs, _⟩ | ⟨a, len, cap, m, n, D, Pl, hcs, hb, hl, hm, hmm, _, hx⟩
  · simp at hcs
    subst hcs
    exact ⟨[], none, 0, rfl, Nat.le_refl _, by unfold maxLen; omega, fun k hk => absurd hk (by simp [BL])⟩
  · simp at hcs
    subst hcs
    simp only [if_true] at hmm
    have each : ∀ i, i < m → ∃ q : Bool, W.cell? ((a.add (i * 1)).add 0) = some (.bool q) := by
      intro i hi
      obtain ⟨cs', h1, h2⟩ := hx i hi
      rw [show Try.prog.cellsOf 4 = 1 by kernel_rfl] at h1
      obtain ⟨_, hlen, hcell⟩ := World.cells?_some h1
      obtain ⟨b, e0, _⟩ := DataW.trod_bool Try.underlying4 h2
      subst e0
      have q0 := hcell 0 (by omega)
      exact ⟨b, by simpa using q0⟩
    obtain ⟨q, hq⟩ := Deep.choose_lt each
    have hlen : ((List.range len).map q).length = len := by simp
    refine ⟨(List.range len).map q, some a, cap, by rw [BL_len, hlen], by rw [BL_len, hlen]; exact hl, hm, fun k hk => ?_⟩
    rw [BL_len, hlen] at hk
    obtain ⟨b, off, spot⟩ := a
    have h0 := hq 0 (by omega)
    have hspot : spot = none := by simpa [Addr.add] using World.cell?_spot h0
    subst hspot
    have hk1 := hq k (by omega)
    rw [add_addr, add_addr, Nat.mul_one, Nat.add_zero] at hk1
    refine ⟨b, off, rfl, World.block_lt_of_cell? _ _ hk1, ?_⟩
    rw [hk1, BL_get (by rw [hlen]; exact hk)]
    simp
theorem texts_inU {H : Type} {enc : TypeId × Value → H} {W : World} {a : Option Addr} {len cap : Nat} {d : DataW H} {p : List MemPlace}
    (h : DataW.Trod enc Try.prog W 0 (fun _ => true) true 30 (.slice a len cap) d p) : ∃ l : List (List UInt8), RowV W (.slice a len cap) (S l) ∧ ∀ x ∈ l, x.length ≤ maxLen := by
  obtain ⟨fuel, hf⟩ := h
  exact texts_cells (by simpa [Value.cells] using hf)
/-- A struct of three fields, the first of two cells, the others of one. -/
theorem four_cells {H : Type} {enc : TypeId × Value → H} {P : Program} {w : World} {base : Nat} {spare : Nat → Bool} {held : Bool} {t : TypeId} {f0 f1 f2 : Field} {n : Nat} {c0 c1 c2 c3 : Value} {x : DataW H × List MemPlace}
    (he : P.underlying t = some (.struct #[f0, f1, f2])) (o0 : f0.offset = 0) (o1 : f1.offset = 2) (o2 : f2.offset = 3) (k0 : P.cellsOf f0.type = 2) (k1 : P.cellsOf f1.type = 1) (k2 : P.cellsOf f2.type = 1)
    (h : DataW.trod enc P w base spare held n t [c0, c1, c2, c3] = some x) :
    ∃ (y0 y1 y2 : DataW H × List MemPlace) (k : Nat), DataW.trod enc P w base spare held k f0.type [c0, c1] = some y0 ∧ DataW.trod enc P w base spare held k f1.type [c2] = some y1 ∧ DataW.trod enc P w base spare held k f2.type [c3] = some y2 := by
  obtain ⟨xs, k, hk, hxy, _, hxl, hf⟩ := DataW.trod_struct he h
  match xs, hxl with
  | [y0, y1, y2], _ =>
    have g0 := hf 0 f0 rfl
    have g1 := hf 1 f1 rfl
    have g2 := hf 2 f2 rfl
    simp [o0, o1, o2, k0, k1, k2] at g0 g1 g2
    exact ⟨y0, y1, y2, k, g0, g1, g2⟩
/-- A struct of two fields, a cell each. -/
theorem two_cells {H : Type} {enc : TypeId × Value → H} {P : Program} {w : World} {base : Nat} {spare : Nat → Bool} {held : Bool} {t : TypeId} {f0 f1 : Field} {n : Nat} {c0 c1 : Value} {x : DataW H × List MemPlace}
    (he : P.underlying t = some (.struct #[f0, f1])) (o0 : f0.offset = 0) (o1 : f1.offset = 1) (k0 : P.cellsOf f0.type = 1) (k1 : P.cellsOf f1.type = 1)
    (h : DataW.trod enc P w base spare held n t [c0, c1] = some x) :
    ∃ (y0 y1 : DataW H × List MemPlace) (k : Nat), DataW.trod enc P w base spare held k f0.type [c0] = some y0 ∧ DataW.trod enc P w base spare held k f1.type [c1] = some y1 := by
  obtain ⟨xs, k, hk, hxy, _, hxl, hf⟩ := DataW.trod_struct he h
  match xs, hxl with
  | [y0, y1], _ =>
    have g0 := hf 0 f0 rfl
    have g1 := hf 1 f1 rfl
    simp [o0, o1, k0, k1] at g0 g1
    exact ⟨y0, y1, k, g0, g1⟩
set_option maxRecDepth 100000 in
/-- A plan that came in. -/
theorem plan_in {H : Type} {enc : TypeId × Value → H} {W : World} {base : Nat} {v : Value} {d : DataW H} {p : List MemPlace} (hv : Value.okWide Try.prog W .any base 29 v)
    (h : DataW.Trod enc Try.prog W 0 (fun _ => true) true 29 v d p) : ∃ ls l bs rs, PlanV W v ls l bs rs ∧ ∀ l ∈ rs, ∀ f ∈ l, f.2.2.length ≤ maxLen := by
  obtain ⟨cs, rfl, hsz⟩ := okWide_struct Try.underlying29 hv
  obtain ⟨c0, c1, c2, c3, rfl⟩ := Joins.array4 (hsz.trans (by kernel_rfl))
  obtain ⟨fuel, hf⟩ := h
  obtain ⟨y0, y1, y2, k, h0, h1, h2⟩ := four_cells Try.underlying29 rfl rfl rfl (by kernel_rfl) (by kernel_rfl) (by kernel_rfl) (by simpa [Value.cells] using hf)
  obtain ⟨z0, z1, k', g0, g1⟩ := two_cells Try.underlying25 rfl rfl (by kernel_rfl) (by kernel_rfl) h0
  obtain ⟨ls, r0⟩ := lists_cells g0
  obtain ⟨l, r1⟩ := ints_cells g1
  obtain ⟨bs, r2⟩ := bools_cells h1
  obtain ⟨rs, r3, x3⟩ := opss_cells h2
  exact ⟨ls, l, bs, rs, ⟨c0, c1, c2, c3, rfl, r0, r1, r2, r3⟩, x3⟩
end Go.Proofs.Ytcfhfhpdnjaokaa

/- Walks: copies of plans. -/
namespace Go.Proofs.Ytcfhfhpdnjaokaa
open Go.RowKit Pth

theorem results_cellP {fn : Func} {p : Tmp} {ty : TypeId} (h : fn.results = #[.cell p ty]) {tmps : Array Value} {w : World} {ad : Addr} {v : Value} (hp : tmps.getD p undef = .pointer (some ad)) (hl : (loadVar ty ad).run Try.prog w = .ok v w) :
    (results fn tmps).run Try.prog w = .ok v w := by
  have hp' : tmps[p]?.getD undef = .pointer (some ad) := by simpa using hp
  simp only [results, h]
  simp [hp', asAddr, hl]

set_option maxRecDepth 20000 in
set_option maxHeartbeats 4000000 in
theorem toPlan_any (ls : List (List Int)) (l : List Int) (bs : List Bool) (rs : List (List OpT)) (v : Value) (w : World) (hp : PlanV w v ls l bs rs) (hz : planZ ls l bs rs ≤ 2000000) :
    Calls Try.prog 7 #[v] w fun e w' => ∃ v', e = .returned v' ∧ PlanO w.heap.size w' v' ls l bs rs ∧ Below w.heap.size w w' := by
  obtain ⟨nv, ov, sv, rv, rfl, h1, h2, h3, h4⟩ := hp
  unfold planZ at hz
  have H1 := Lib.hid h1
  have H2 := Lib.hid h2
  have H3 := Lib.hid h3
  have H4 := Lib.hid h4
  obtain ⟨as0, cs, rfl, hs1, hs2, _⟩ := h3.boolsW
  obtain ⟨an, cn, rfl, hn1, hn2, _⟩ := h1.lists
  obtain ⟨ao, co, rfl, ho1, ho2, _⟩ := h2.ints
  obtain ⟨ar, cr, rfl, hr1, hr2, _⟩ := h4.lists
  clear h1 h2 h3 h4
  unfold maxLen at hs2 hn2 ho2 hr2
  obtain ⟨wp, hwp⟩ : ∃ wp, wp = w.alloc (.cells #[.slice an ls.length cn, .slice ao l.length co, .slice as0 bs.length cs, .slice ar rs.length cr] 29) := ⟨_, rfl⟩
  obtain ⟨wq, hwq⟩ : ∃ wq, wq = wp.alloc (.cells #[.slice none 0 0, .slice none 0 0, .slice none 0 0, .slice none 0 0] 38) := ⟨_, rfl⟩
  obtain ⟨wa, hwa⟩ : ∃ wa, wa = wq.alloc (.cells #[.slice none 0 0, .slice none 0 0, .slice none 0 0, .slice none 0 0] 38) := ⟨_, rfl⟩
  have ep : wp.heap.size = w.heap.size + 1 := by rw [hwp]; simp
  have eq : wq.heap.size = w.heap.size + 2 := by rw [hwq]; simp [ep]
  have eq' : wq.heap.size = w.heap.size + 1 + 1 := by omega
  have ea : wa.heap.size = w.heap.size + 3 := by rw [hwa]; simp [eq]
  have P0 : Hid (Blk4 wa w.heap.size 29 (.slice an ls.length cn) (.slice ao l.length co) (.slice as0 bs.length cs) (.slice ar rs.length cr)) := by
    rw [hwa, hwq, hwp]; exact (Blk4.new.old _).old _
  have R0 : Hid (Blk4 wa (w.heap.size + 1) 38 (.slice none 0 0) (.slice none 0 0) (.slice none 0 0) (.slice none 0 0)) := by
    rw [hwa, hwq, ← ep]; exact Blk4.new.old _
  have O0 : Hid (Blk4 wa (w.heap.size + 1 + 1) 38 (.slice none 0 0) (.slice none 0 0) (.slice none 0 0) (.slice none 0 0)) := by
    rw [hwa, ← eq']; exact Blk4.new
  have HA : Hid (Below w.heap.size w wa) := by
    rw [hwa, hwq, hwp]; exact (((Below.refl w.heap.size w).alloc (Nat.le_refl _) _).alloc (by simp) _).alloc (by simp; omega) _
  have HWA : Hid (((w.alloc (.cells #[.slice an ls.length cn, .slice ao l.length co, .slice as0 bs.length cs, .slice ar rs.length cr] 29)).alloc (.cells #[.slice none 0 0, .slice none 0 0, .slice none 0 0, .slice none 0 0] 38)).alloc (.cells #[.slice none 0 0, .slice none 0 0, .slice none 0 0, .slice none 0 0] 38) = wa) := by rw [hwa, hwq, hwp]; rfl
  have HG : Hid (GraphV wa (.agg #[.slice an ls.length cn, .slice ao l.length co]) ls l) := ⟨_, _, rfl, H1.out.below HA.out, H2.out.below HA.out⟩
  clear hwa hwq hwp ep eq eq'
  go_enter Try.func7, Try.ntmps7
  go_wp2_with fail
  rw [HWA.out]
  refine (toGraph_any ls l _ wa HG.out (by omega)).mono ?_
  rintro e w1 ⟨v1, rfl, hg1, hb1⟩
  obtain ⟨b1, d1, b2, d2, rfl⟩ := hg1.slices
  have P1 := Lib.hid (P0.out.below hb1 (by omega))
  have R1 := Lib.hid (R0.out.below hb1 (by omega))
  have O1 := O0.out.below hb1 (by omega)
  have HA1 := Lib.hid (HA.out.trans (hb1.mono HA.out.size))
  have hs1' := hb1.size
  have HG1 := Lib.hid hg1
  have c2 := P1.out.cells.2.2.1
  obtain ⟨o0, o1, _, _⟩ := O1.cells
  have f0 := O1.soft 0
  have f1 := O1.soft 1
  have O2 := Lib.hid ((O1.set0 (.slice b1 ls.length d1)).set1 (.slice b2 l.length d2))
  clear hb1 hg1 O1
  go_wp2_with fail
  clear o0 o1 f0 f1 c2
  -- the graph's two cells
  have n1 : w.heap.size + 1 + 1 < wa.heap.size := by omega
  have n0 : w.heap.size ≤ w.heap.size + 1 + 1 := by omega
  have n2 : w.heap.size ≠ w.heap.size + 1 + 1 := by omega
  have n3 : w.heap.size + 1 ≠ w.heap.size + 1 + 1 := by omega
  have HG2 := Lib.hid ((HG1.out.set (p := ⟨w.heap.size + 1 + 1, 0, none⟩) n1 (.slice b1 ls.length d1)).set (p := ⟨w.heap.size + 1 + 1, 1, none⟩) n1 (.slice b2 l.length d2))
  have HA2 := Lib.hid ((HA1.out.setCell (p := ⟨w.heap.size + 1 + 1, 0, none⟩) n0 (.slice b1 ls.length d1)).setCell (p := ⟨w.heap.size + 1 + 1, 1, none⟩) n0 (.slice b2 l.length d2))
  have P2 := Lib.hid ((P1.out.other (p := ⟨w.heap.size + 1 + 1, 0, none⟩) n2 (.slice b1 ls.length d1)).other (p := ⟨w.heap.size + 1 + 1, 1, none⟩) n2 (.slice b2 l.length d2))
  have R2 := Lib.hid ((R1.out.other (p := ⟨w.heap.size + 1 + 1, 0, none⟩) n3 (.slice b1 ls.length d1)).other (p := ⟨w.heap.size + 1 + 1, 1, none⟩) n3 (.slice b2 l.length d2))
  have hs2' : wa.heap.size ≤ ((w1.setCell ⟨w.heap.size + 1 + 1, 0, none⟩ (.slice b1 ls.length d1)).setCell ⟨w.heap.size + 1 + 1, 1, none⟩ (.slice b2 l.length d2)).heap.size := by simp; omega
  clear HG1 HA1 P1 R1
  generalize (w1.setCell ⟨w.heap.size + 1 + 1, 0, none⟩ (.slice b1 ls.length d1)).setCell ⟨w.heap.size + 1 + 1, 1, none⟩ (.slice b2 l.length d2) = x1 at *
  refine (toBoolS_any bs _ x1 (H3.out.below HA2.out) (by omega)).mono ?_
  rintro e w3 ⟨v3, rfl, hn3, hb3⟩
  obtain ⟨b3, d3, rfl⟩ := own_slice hn3
  have O3 := O2.out.below hb3 (by omega)
  have o2 := O3.cells.2.2.1
  have f2 := O3.soft 2
  have hs3 := hb3.size
  have c3 := (P2.out.below hb3 (by omega)).cells.2.2.2
  have HG3 := Lib.hid ((HG2.out.below hb3).set (p := ⟨w.heap.size + 1 + 1, 2, none⟩) n1 (.slice b3 bs.length d3))
  have HN3 := Lib.hid (own_setI (own_base hn3 hs2') (p := ⟨w.heap.size + 1 + 1, 2, none⟩) n1 (.slice b3 bs.length d3))
  have HA3 := Lib.hid ((HA2.out.trans (hb3.mono HA2.out.size)).setCell (p := ⟨w.heap.size + 1 + 1, 2, none⟩) n0 (.slice b3 bs.length d3))
  have P3 := Lib.hid ((P2.out.below hb3 (by omega)).other (p := ⟨w.heap.size + 1 + 1, 2, none⟩) n2 (.slice b3 bs.length d3))
  have R3 := Lib.hid ((R2.out.below hb3 (by omega)).other (p := ⟨w.heap.size + 1 + 1, 2, none⟩) n3 (.slice b3 bs.length d3))
  have Q3 := Lib.hid (O3.set2 (.slice b3 bs.length d3))
  have hs3' : wa.heap.size ≤ (w3.setCell ⟨w.heap.size + 1 + 1, 2, none⟩ (.slice b3 bs.length d3)).heap.size := by simp; omega
  clear hn3 hb3 O3 HG2 HA2 P2 R2 O2
  go_wp2_with fail
  clear o2 f2 c3
  generalize w3.setCell ⟨w.heap.size + 1 + 1, 2, none⟩ (.slice b3 bs.length d3) = x3 at *
  refine (toOpSS_any rs _ x3 (H4.out.below HA3.out) (by omega)).mono ?_
  rintro e w4 ⟨v4, so, rfl, hn4, hb4⟩
  obtain ⟨b4, d4, rfl⟩ := own_slice hn4.2.1
  have O4 := Q3.out.below hb4 (by omega)
  have o3 := O4.cells.2.2.2
  have f3 := O4.soft 3
  have hs4 := hb4.size
  have HG4 := Lib.hid ((HG3.out.below hb4).set (p := ⟨w.heap.size + 1 + 1, 3, none⟩) n1 (.slice b4 rs.length d4))
  have HN4 := Lib.hid (own_setI (own_below HN3.out hb4) (p := ⟨w.heap.size + 1 + 1, 3, none⟩) n1 (.slice b4 rs.length d4))
  have HR4 := Lib.hid ((hn4.base hs3').set (p := ⟨w.heap.size + 1 + 1, 3, none⟩) n1 (.slice b4 rs.length d4))
  have HA4 := Lib.hid ((HA3.out.trans (hb4.mono HA3.out.size)).setCell (p := ⟨w.heap.size + 1 + 1, 3, none⟩) n0 (.slice b4 rs.length d4))
  have R4 := Lib.hid ((R3.out.below hb4 (by omega)).other (p := ⟨w.heap.size + 1 + 1, 3, none⟩) n3 (.slice b4 rs.length d4))
  have Q4 := Lib.hid (O4.set3 (.slice b4 rs.length d4))
  obtain ⟨k0, k1, k2, k3⟩ := R4.out.cells
  have z0 := R4.out.soft 0
  have z1 := R4.out.soft 1
  have z2 := R4.out.soft 2
  have z3 := R4.out.soft 3
  obtain ⟨q0, q1, q2, q3⟩ := Q4.out.cells
  clear hn4 hb4 O4 HG3 HN3 HA3 P3 R3 Q3
  go_wp2_with fail
  have Z := (((R4.out.set0 (.slice b1 ls.length d1)).set1 (.slice b2 l.length d2)).set2 (.slice b3 bs.length d3)).set3 (.slice b4 rs.length d4)
  refine bodyPost_ret (results_cellP rfl rfl (load_plan Z)) rfl ?_
  have e1 : w.heap.size ≤ wa.heap.size := by omega
  have e2 : w.heap.size + 1 < wa.heap.size := by omega
  have e3 : w.heap.size ≤ w.heap.size + 1 := by omega
  refine ⟨_, rfl, ⟨_, _, _, _, so, rfl, ?_, ?_, ?_⟩, ?_⟩
  · exact ((((HG4.out.set (p := ⟨w.heap.size + 1, 0, none⟩) e2 _).set (p := ⟨w.heap.size + 1, 1, none⟩) e2 _).set (p := ⟨w.heap.size + 1, 2, none⟩) e2 _).set (p := ⟨w.heap.size + 1, 3, none⟩) e2 _).base e1
  · exact own_base (own_setI (own_setI (own_setI (own_setI HN4.out (p := ⟨w.heap.size + 1, 0, none⟩) e2 _) (p := ⟨w.heap.size + 1, 1, none⟩) e2 _) (p := ⟨w.heap.size + 1, 2, none⟩) e2 _) (p := ⟨w.heap.size + 1, 3, none⟩) e2 _) e1
  · exact ((((HR4.out.set (p := ⟨w.heap.size + 1, 0, none⟩) e2 _).set (p := ⟨w.heap.size + 1, 1, none⟩) e2 _).set (p := ⟨w.heap.size + 1, 2, none⟩) e2 _).set (p := ⟨w.heap.size + 1, 3, none⟩) e2 _).base e1
  · exact (((HA4.out.setCell (p := ⟨w.heap.size + 1, 0, none⟩) e3 _).setCell (p := ⟨w.heap.size + 1, 1, none⟩) e3 _).setCell (p := ⟨w.heap.size + 1, 2, none⟩) e3 _).setCell (p := ⟨w.heap.size + 1, 3, none⟩) e3 _

theorem PlanO.slices {B : Nat} {w : World} {v : Value} {ls : List (List Int)} {l : List Int} {bs : List Bool} {rs : List (List OpT)} (h : PlanO B w v ls l bs rs) :
    ∃ a c a2 c2 a3 c3 a4 c4, v = .agg #[.slice a ls.length c, .slice a2 l.length c2, .slice a3 bs.length c3, .slice a4 rs.length c4] := by
  obtain ⟨nv, ov, sv, rv, so, hv, h1, h2, h3⟩ := h
  obtain ⟨a, c, a2, c2, he⟩ := h1.slices
  simp only [Value.agg.injEq, Array.mk.injEq, List.cons.injEq, and_true] at he
  obtain ⟨rfl, rfl⟩ := he
  obtain ⟨a3, c3, rfl⟩ := own_slice h2
  obtain ⟨a4, c4, rfl⟩ := own_slice h3.2.1
  exact ⟨a, c, a2, c2, a3, c3, a4, c4, hv⟩
end Go.Proofs.Ytcfhfhpdnjaokaa

/- Walks: the laws' helpers on lists of results: how much they hold, copies, whether they are the same. -/
namespace Go.Proofs.Ytcfhfhpdnjaokaa
open Go.RowKit Pth

def noRes : ResT := ([], 0)
theorem RC_zero (n : Nat) : RC (List.replicate n noRes) = (madeCells #[.string ByteArray.empty, .int .i64 0] (n * 2)).toList := by
  apply List.ext_getElem?
  intro j
  by_cases hj : j < n * 2
  · have hd : j / 2 < n := by omega
    obtain ⟨q0, q1⟩ := RC_at (l := List.replicate n noRes) (k := j / 2) (by simpa using hd)
    have hm : j % 2 = 0 ∨ j % 2 = 1 := by omega
    rcases hm with h | h
    · rw [show j = j / 2 * 2 by omega, q0]
      simp [madeCells, noRes, hd]; rfl
    · rw [show j = j / 2 * 2 + 1 by omega, q1]
      have e : (j / 2 * 2 + 1) % 2 = 1 := by omega
      have e2 : j / 2 * 2 + 1 < n * 2 := by omega
      simp [madeCells, noRes, e, e2]
  · rw [List.getElem?_eq_none (by rw [RC_len]; simp; omega)]
    simp [madeCells, hj]
theorem set_two (a : List ResT) (k : Nat) (ha : a.length = k) (p : ResT) (rest : List ResT) (x : ResT) :
    ((RC a ++ RC (p :: rest)).set (k * 2) (.string ⟨x.1.toArray⟩)).set (k * 2 + 1) (.int .i64 x.2) = RC (a ++ [x]) ++ RC rest := by
  have hl : (RC a).length = k * 2 := by rw [RC_len, ha]
  rw [List.set_append_right _ _ (by omega), hl, Nat.sub_self, List.set_append_right _ _ (by omega), hl, show k * 2 + 1 - k * 2 = 1 by omega, RC_append]
  simp [RC, resC]
theorem get_two (a : List ResT) (k : Nat) (ha : a.length = k) (p : ResT) (rest : List ResT) :
    (RC a ++ RC (p :: rest))[k * 2]? = some (.string ⟨p.1.toArray⟩) ∧ (RC a ++ RC (p :: rest))[k * 2 + 1]? = some (.int .i64 p.2) := by
  have hl : (RC a).length = k * 2 := by rw [RC_len, ha]
  rw [List.getElem?_append_right (by omega), hl, Nat.sub_self, List.getElem?_append_right (by omega), hl, show k * 2 + 1 - k * 2 = 1 by omega]
  exact ⟨rfl, rfl⟩

/-- The results that are marks, from k on. -/
def marksR (k : Nat) (n : Nat) : List ResT := (List.range n).map (fun (i : Nat) => (markT (k + i * 2), ((k + i * 2 + 1 : Nat) : Int)))
theorem marksR_len (k n : Nat) : (marksR k n).length = n := by simp [marksR]
theorem marksR_snoc (k n : Nat) : marksR k (n + 1) = marksR k n ++ [(markT (k + n * 2), ((k + n * 2 + 1 : Nat) : Int))] := by simp [marksR, List.range_succ]
theorem set_bodyR (a : List ResT) (k : Nat) (ha : a.length = k) (x t : List UInt8) (q : Int) (rest : List ResT) :
    (RC a ++ RC ((t, q) :: rest)).set (k * 2) (.string ⟨x.toArray⟩) = RC a ++ RC ((x, q) :: rest) := by
  have hl : (RC a).length = k * 2 := by rw [RC_len, ha]
  rw [List.set_append_right _ _ (by omega), hl, Nat.sub_self]
  rfl
theorem set_stateR (a : List ResT) (k : Nat) (ha : a.length = k) (t : List UInt8) (x q : Int) (rest : List ResT) :
    (RC a ++ RC ((t, q) :: rest)).set (k * 2 + 1) (.int .i64 x) = RC (a ++ [(t, x)]) ++ RC rest := by
  have hl : (RC a).length = k * 2 := by rw [RC_len, ha]
  rw [List.set_append_right _ _ (by omega), hl, show k * 2 + 1 - k * 2 = 1 by omega, RC_append]
  simp [RC, resC]
theorem mark_r (j : Nat) (i : Int) (h : (j : Int) = i) (hk1 : j ≤ 8000000) (h1 : 1 ≤ j) (w : World) : Calls Try.prog 33 #[.int .i64 i] w fun e w' => e = .returned (.string ⟨(markT j).toArray⟩) ∧ Below w.heap.size w w' := by
  subst h
  exact markText_any j w hk1 h1

end Go.Proofs.Ytcfhfhpdnjaokaa

/- Walks: digests of both programs; the reference's good recipes. -/
namespace Go.Proofs.Ytcfhfhpdnjaokaa
open Go.RowKit Pth

/-- A number and whether it was told. -/
def IntPost (x : Int) (b : Bool) (w : World) (e : Ending) (w' : World) : Prop := e = .returned (.tuple #[.int .i64 x, .bool b]) ∧ w = w'
theorem bytes_at {s : ByteArray} {k : Nat} (hk : k < s.size) : s.data.toList[k]'(by simpa using hk) = s[k] := rfl

/-- A bool is handed back; what lay there lies there. -/
def BoolPost (b : Bool) (w : World) (e : Ending) (w' : World) : Prop := e = .returned (.bool b) ∧ Below w.heap.size w w'
theorem in_l {n lo hi : Int} {b : Bool} (h : (decide (lo ≤ n) && decide (n ≤ hi)) = b) (w : World) : Calls Try.prog 58 #[.int .i64 n, .int .i64 lo, .int .i64 hi] w fun e w' => e = .returned (.bool b) ∧ w = w' := by
  have := l1In_any n lo hi w; rwa [h] at this
theorem nil_b {t : List UInt8} {b : Bool} (h : decide (t = []) = b) : (t == []) = b := by
  subst h; cases t <;> rfl

set_option maxRecDepth 20000 in
set_option maxHeartbeats 2000000 in
theorem l4Op_any (o : OpT) (ins : Int) (w : World) (h0 : 0 ≤ ins) (h1 : ins ≤ 10) (hx : o.2.2.length ≤ maxLen) :
    Calls Try.prog 62 #[opV o, .int .i64 ins] w (BoolPost (opOk ins o) w) := by
  obtain ⟨k, n, t⟩ := o
  unfold opV
  simp only at hx ⊢
  unfold maxLen at hx
  have HB := Lib.hid ((Below.refl w.heap.size w).alloc (Nat.le_refl _) (.cells #[.int .i64 k, .int .i64 n, .string ⟨t.toArray⟩] 81))
  by_cases k1 : k = 1
  · subst k1
    obtain ⟨b1, hb1⟩ : ∃ b, (decide (0 ≤ n) && decide (n ≤ ins - 1)) = b := ⟨_, rfl⟩
    obtain ⟨b2, hb2⟩ : ∃ b, decide (t = []) = b := ⟨_, rfl⟩
    have HT : Hid (opOk ins (1, n, t) = (b1 && b2)) := by rw [opOk_cat, hb1, hb2]; rfl
    have HC := Lib.hid (fun W => in_l hb1 W)
    have hn := nil_b hb2
    clear hb1 hb2
    rcases b1 with _ | _
    · go_enter Try.func62, Try.ntmps62
      go_wp2_with fail
      refine (HC.out _).mono ?_
      rintro e w1 ⟨rfl, rfl⟩
      go_wp2_with fail
      go_ret
      exact ⟨ret_bool HT.out.symm, HB.out⟩
    · go_enter Try.func62, Try.ntmps62
      go_wp2_with fail
      refine (HC.out _).mono ?_
      rintro e w1 ⟨rfl, rfl⟩
      go_wp2_with fail
      go_ret
      exact ⟨ret_bool HT.out.symm, HB.out⟩
  have e1 : (k == 1) = false := by simpa using k1
  by_cases k2 : k = 2
  · subst k2
    obtain ⟨b1, hb1⟩ : ∃ b, decide (n = 0) = b := ⟨_, rfl⟩
    obtain ⟨b2, hb2⟩ : ∃ b, decide (t.length ≤ 10) = b := ⟨_, rfl⟩
    have HT : Hid (opOk ins (2, n, t) = (b1 && b2)) := by rw [opOk_text, hb1, hb2]; rfl
    have hn1 : (n == 0) = b1 := hb1
    have hn2 : decide ((t.length : Int) ≤ 10) = b2 := by rw [← hb2]; exact decide_eq_decide.2 (by omega)
    clear hb1 hb2 e1 k1
    rcases b1 with _ | _ <;> rcases b2 with _ | _ <;>
      (go_enter Try.func62, Try.ntmps62
       go_wp2_with fail
       go_ret
       exact ⟨ret_bool HT.out.symm, HB.out⟩)
  have e2 : (k == 2) = false := by simpa using k2
  by_cases k5 : k = 5
  · subst k5
    obtain ⟨b1, hb1⟩ : ∃ b, (decide (0 ≤ n) && decide (n ≤ 40)) = b := ⟨_, rfl⟩
    obtain ⟨b2, hb2⟩ : ∃ b, decide (t = []) = b := ⟨_, rfl⟩
    have HT : Hid (opOk ins (5, n, t) = (b1 && b2)) := by rw [opOk_drop, hb1, hb2]; rfl
    have HC := Lib.hid (fun W => in_l hb1 W)
    have hn := nil_b hb2
    clear hb1 hb2 e1 k1 e2 k2
    rcases b1 with _ | _
    · go_enter Try.func62, Try.ntmps62
      go_wp2_with fail
      refine (HC.out _).mono ?_
      rintro e w1 ⟨rfl, rfl⟩
      go_wp2_with fail
      go_ret
      exact ⟨ret_bool HT.out.symm, HB.out⟩
    · go_enter Try.func62, Try.ntmps62
      go_wp2_with fail
      refine (HC.out _).mono ?_
      rintro e w1 ⟨rfl, rfl⟩
      go_wp2_with fail
      go_ret
      exact ⟨ret_bool HT.out.symm, HB.out⟩
  have e5 : (k == 5) = false := by simpa using k5
  by_cases k3 : k = 3 ∨ k = 4 ∨ k = 6 ∨ k = 7
  · obtain ⟨b1, hb1⟩ : ∃ b, decide (n = 0) = b := ⟨_, rfl⟩
    obtain ⟨b2, hb2⟩ : ∃ b, decide (t = []) = b := ⟨_, rfl⟩
    have HT : Hid (opOk ins (k, n, t) = (b1 && b2)) := by rw [opOk_bare k3, hb1, hb2]; rfl
    have hn1 : (n == 0) = b1 := hb1
    have hn := nil_b hb2
    clear hb1 hb2 k1 k2 k5 e1 e2 e5
    rcases k3 with rfl | rfl | rfl | rfl <;> rcases b1 with _ | _ <;>
      (go_enter Try.func62, Try.ntmps62
       go_wp2_with fail
       go_ret
       exact ⟨ret_bool HT.out.symm, HB.out⟩)
  · have k3' : k ≠ 3 ∧ k ≠ 4 ∧ k ≠ 6 ∧ k ≠ 7 := by omega
    have HT := Lib.hid (opOk_none (ins := ins) (n := n) (t := t) k1 k2 k3'.1 k3'.2.1 k5 k3'.2.2.1 k3'.2.2.2)
    have e3 : (k == 3) = false := by simpa using k3'.1
    have e4 : (k == 4) = false := by simpa using k3'.2.1
    have e6 : (k == 6) = false := by simpa using k3'.2.2.1
    have e7 : (k == 7) = false := by simpa using k3'.2.2.2
    clear k1 k2 k5 k3 k3'
    go_enter Try.func62, Try.ntmps62
    go_wp2_with fail
    go_ret
    exact ⟨ret_bool HT.out.symm, HB.out⟩

end Go.Proofs.Ytcfhfhpdnjaokaa

/- Walks: the reference's good recipes, what they read, their texts. -/
namespace Go.Proofs.Ytcfhfhpdnjaokaa
open Go.RowKit Pth

theorem l4Op_b {o : OpT} {ins : Int} {b : Bool} (h : opOk ins o = b) (h0 : 0 ≤ ins) (h1 : ins ≤ 10) (hx : o.2.2.length ≤ maxLen) (w : World) : Calls Try.prog 62 #[opV o, .int .i64 ins] w (BoolPost b w) := by
  have := l4Op_any o ins w h0 h1 hx; rwa [h] at this

set_option maxRecDepth 20000 in
set_option maxHeartbeats 2000000 in
theorem specGoodR_any (r : List OpT) (ins : Int) (v : Value) (w : World) (hrow : RowO w v r) (hx : ∀ f ∈ r, f.2.2.length ≤ maxLen) :
    Calls Try.prog 51 #[v, .int .i64 ins] w (BoolPost (goodR r ins) w) := by
  obtain ⟨a, cap, rfl, hc1, hc2, hat⟩ := hrow.ops
  clear hrow
  unfold maxLen at hc2
  by_cases hi : 0 ≤ ins ∧ ins ≤ 10
  · have HC0 := Lib.hid (fun W => in_l (n := ins) (lo := 0) (hi := 10) (b := true) (by simp [hi.1, hi.2]) W)
    by_cases h8 : 8 < r.length
    · have HT := Lib.hid (goodR_long (ins := ins) h8)
      have hd : decide ((r.length : Int) > 8) = true := decide_eq_true (by omega)
      clear hat hx
      go_enter Try.func51, Try.ntmps51
      go_wp2_with fail
      refine (HC0.out _).mono ?_
      rintro e w1 ⟨rfl, rfl⟩
      go_wp2_with fail
      go_ret
      exact ⟨ret_bool HT.out.symm, Below.refl _ _⟩
    · have hd : decide ((r.length : Int) > 8) = false := decide_eq_false (by omega)
      obtain ⟨hi0, hi1⟩ := hi
      go_enter Try.func51, Try.ntmps51
      go_wp2_with fail
      refine (HC0.out _).mono ?_
      rintro e w1 ⟨rfl, rfl⟩
      go_wp2_with fail
      go_loopw [17] (fun i wr => ∃ k : Nat, k ≤ r.length ∧ i = .int .i64 k ∧ Hid (Below w.heap.size w wr) ∧ Hid ((r.take k).all (opOk ins) = true)) (fun i _ => r.length - (intOf i).toNat)
      case atStart => exact ⟨0, Nat.zero_le _, rfl, Below.refl _ _, by simp [Hid]⟩
      case round =>
        obtain ⟨k, hk, rfl, HB, HO⟩ := hrel
        have hbs := HB.out.size
        by_cases hlt : k < r.length
        · obtain ⟨g, o, rfl, hg, hcell1, hcell2, hcell3⟩ := hat k hlt
          have s1 := (HB.out.cell (p := ⟨g, o + k * 3, none⟩) hg).trans hcell1
          have s2 := (HB.out.cell (p := ⟨g, o + k * 3 + 1, none⟩) hg).trans hcell2
          have s3 := (HB.out.cell (p := ⟨g, o + k * 3 + 2, none⟩) hg).trans hcell3
          have HBA := Lib.hid (HB.out.alloc hbs (.cells #[.int .i64 r[k].1, .int .i64 r[k].2.1, .string ⟨r[k].2.2.toArray⟩] 81))
          have hxl := hx r[k] (List.getElem_mem hlt)
          obtain ⟨b, hbE⟩ : ∃ b, opOk ins r[k] = b := ⟨_, rfl⟩
          have HC := Lib.hid (fun W => l4Op_b hbE hi0 hi1 hxl W)
          have HS : Hid (if b then (r.take (k + 1)).all (opOk ins) = true else goodR r ins = false) := by
            unfold Hid
            rcases b with _ | _
            · exact goodR_bad hlt hbE
            · exact all_next hlt HO.out hbE
          clear hcell1 hcell2 hcell3 hat HO hx hxl hbE
          generalize r[k] = x at s1 s2 s3 HC HBA
          obtain ⟨x1, x2, x3⟩ := x
          unfold opV at HC
          simp only at s1 s2 s3 HC HBA
          go_wp2_with fail
          refine (HC.out _).mono ?_
          rintro e w1 ⟨rfl, hb1⟩
          have HB1 := Lib.hid (HBA.out.trans (hb1.mono HBA.out.size))
          clear hb1 HC
          rcases b with _ | _
          · go_wp2_with fail
            go_ret
            exact ⟨ret_bool (by have := HS.out; simpa using this.symm), HB1.out⟩
          · go_wp2_with fail
            go_roundw
            case rel => exact ⟨k + 1, by omega, by go_num, HB1, by have := HS.out; simpa [Hid] using this⟩
            case measure => simp [intOf]; omega
        · have HT := Lib.hid (goodR_end hi0 hi1 (by omega) (by omega : r.length ≤ k) HO.out)
          clear HO hat hx
          go_wp2_with fail
          go_ret
          exact ⟨ret_bool HT.out.symm, HB.out⟩
  · have HC0 := Lib.hid (fun W => in_l (n := ins) (lo := 0) (hi := 10) (b := false) (by
      rcases Int.lt_or_le ins 0 with h | h
      · simp; omega
      · simp; omega) W)
    have HT := Lib.hid (goodR_ins (r := r) hi)
    clear hat hx
    go_enter Try.func51, Try.ntmps51
    go_wp2_with fail
    refine (HC0.out _).mono ?_
    rintro e w1 ⟨rfl, rfl⟩
    go_wp2_with fail
    go_ret
    exact ⟨ret_bool HT.out.symm, Below.refl _ _⟩

theorem specGood_b {r : List OpT} {ins : Int} {b : Bool} (h : goodR r ins = b) (v : Value) (w : World) (hrow : RowO w v r) (hx : ∀ f ∈ r, f.2.2.length ≤ maxLen) : Calls Try.prog 51 #[v, .int .i64 ins] w (BoolPost b w) := by
  have := specGoodR_any r ins v w hrow hx; rwa [h] at this

/-- Numbers and whether they stand are handed back, the numbers in memory of the call's own. -/
def IntsOk (l : List Int) (ok : Bool) (w : World) (e : Ending) (w' : World) : Prop :=
  ∃ v, e = .returned (.tuple #[v, .bool ok]) ∧ w'.ownsRow w.heap.size 3 1 v l.length (I l) ∧ Below w.heap.size w w'
/-- A text and whether it stands. -/
def TextOk (t : List UInt8) (ok : Bool) (w : World) (e : Ending) (w' : World) : Prop := e = .returned (.tuple #[.string ⟨t.toArray⟩, .bool ok]) ∧ Below w.heap.size w w'
theorem none_own (w : World) (B e : Nat) : w.ownsRow B e 1 (.slice none 0 0) 0 [] := ⟨rfl, .inl ⟨rfl, rfl⟩⟩
theorem read1_cat {out : List Int} {o : OpT} (h : (o.1 == 1) = true) : read1 out o = putL out o.2.1 := by
  rw [read1, if_pos (by simpa using h)]
theorem read1_not {out : List Int} {o : OpT} (h : (o.1 == 1) = false) : read1 out o = out := by
  rw [read1, if_neg (by simpa using h)]
theorem fold_len (r : List OpT) (out : List Int) : (r.foldl read1 out).length ≤ out.length + r.length := by
  induction r generalizing out with
  | nil => simp
  | cons o t ih =>
    have h1 := ih (read1 out o)
    have h2 : (read1 out o).length ≤ out.length + 1 := by
      unfold read1
      split
      · exact put_len _ _
      · omega
    simp only [List.foldl_cons, List.length_cons] at h1 ⊢
    omega

end Go.Proofs.Ytcfhfhpdnjaokaa

/- Plain mathematics: what is sorted and has no two alike any more; no program. -/
namespace Go.Proofs.Ytcfhfhpdnjaokaa
namespace Pth
open Go.Lib

def sortI (l : List Int) : List Int := l.mergeSort fun x y => decide (x ≤ y)
theorem sortI_perm (l : List Int) : (sortI l).Perm l := List.mergeSort_perm _ _
theorem sortI_sorted (l : List Int) : (sortI l).Pairwise (· ≤ ·) := by
  have := List.pairwise_mergeSort (le := fun a b : Int => decide (a ≤ b)) (fun a b c h1 h2 => by simp only [decide_eq_true_eq] at *; omega) (fun a b => by simp only [Bool.or_eq_true, decide_eq_true_eq]; omega) l
  exact this.imp (fun h => by simpa using h)
theorem get_bang {l : List Int} {j : Nat} (hj : j < l.length) : l.toArray[j]! = l[j] := by
  simp [hj]
theorem mem_compact {l : List Int} {x : Int} : x ∈ compact l ↔ x ∈ l := by
  unfold compact compactUpTo
  constructor
  · intro h
    obtain ⟨j, hj, rfl⟩ := List.mem_map.1 h
    have hj' := List.mem_range.1 (List.mem_filter.1 hj).1
    rw [get_bang hj']
    exact List.getElem_mem hj'
  · intro h
    have key : ∀ j : Nat, (hj : j < l.length) → l[j] = x → x ∈ ((List.range l.length).filter (keeps l.toArray)).map (l.toArray[·]!) := by
      intro j
      induction j with
      | zero =>
        intro hj hx
        refine List.mem_map.2 ⟨0, List.mem_filter.2 ⟨List.mem_range.2 hj, by simp [keeps]⟩, by rw [get_bang hj]; exact hx⟩
      | succ j ih =>
        intro hj hx
        by_cases he : l[j] = x
        · exact ih (by omega) he
        · refine List.mem_map.2 ⟨j + 1, List.mem_filter.2 ⟨List.mem_range.2 hj, ?_⟩, by rw [get_bang hj]; exact hx⟩
          apply keeps_pos
          rw [get_bang hj, Nat.add_sub_cancel, get_bang (by omega : j < l.length), hx]
          exact fun h => he h.symm
    obtain ⟨j, hj, hx⟩ := List.mem_iff_getElem.1 h
    exact key j hj hx
theorem compact_rise {l : List Int} (h : l.Pairwise (· ≤ ·)) : Rise (compact l) := by
  unfold compact compactUpTo Rise
  rw [List.pairwise_map]
  refine List.Pairwise.imp_of_mem (R := fun a b => a < b) ?_ (List.pairwise_lt_range.filter _)
  intro i j hi hj hlt
  have hi' := List.mem_range.1 (List.mem_filter.1 hi).1
  have hj' := List.mem_range.1 (List.mem_filter.1 hj).1
  have hk := (List.mem_filter.1 hj).2
  rw [get_bang hi', get_bang hj']
  have hne : l[j] ≠ l[j - 1] := by
    simp only [keeps, decide_eq_true_eq] at hk
    rcases hk with h0 | h0
    · omega
    · rwa [get_bang hj', get_bang (by omega : j - 1 < l.length)] at h0
  have h1 : l[j - 1] ≤ l[j] := List.pairwise_iff_getElem.1 h (j - 1) j (by omega) hj' (by omega)
  have h2 : l[i] ≤ l[j - 1] := by
    by_cases e : i = j - 1
    · subst e; exact Int.le_refl _
    · exact List.pairwise_iff_getElem.1 h i (j - 1) hi' (by omega) (by omega)
  omega
theorem compact_reads (r : List OpT) : compact (sortI (catsL r)) = readsL r :=
  reads_is (compact_rise (sortI_sorted _)) (fun x => by rw [mem_compact]; exact (sortI_perm _).mem_iff)

end Pth
end Go.Proofs.Ytcfhfhpdnjaokaa

/- The library's contracts that the walks use, at this program: each an application of the shelf's; each structure's fields are facts of the loaded program. -/
namespace Go.Proofs
open Go.Shelf Go.RowKit Go.Sort
def Try.lays189_ren : Go.Shelf.Ren := ⟨fun | 189 => 44 | 125 => 56 | 257 => 55 | 128 => 75 | 129 => 76 | 294 => 66 | 295 => 67 | 296 => 68 | 297 => 69 | 298 => 70 | 299 => 71 | 216 => 72 | 300 => 73 | 301 => 74 | 328 => 79 | 329 => 80 | 330 => 81 | 331 => 82 | 332 => 83 | 215 => 84 | 343 => 85 | n => n, fun | 28 => 23 | 3 => 3 | 46 => 85 | 0 => 0 | 51 => 104 | 53 => 106 | 4 => 4 | 183 => 97 | 182 => 96 | 131 => 101 | 5 => 5 | 9 => 9 | 218 => 113 | 222 => 117 | 228 => 130 | 229 => 131 | n => n, fun | n => n⟩
theorem Try.lays189 : Go.Proofs.Lays.n189 Try.prog Try.lays189_ren := {
  mixed := by kernel_rfl
  f125 := Try.func56.trans (congrArg some (by kernel_rfl))
  f128 := Try.func75.trans (congrArg some (by kernel_rfl))
  f129 := Try.func76.trans (congrArg some (by kernel_rfl))
  f189 := Try.func44.trans (congrArg some (by kernel_rfl))
  f215 := Try.func84.trans (congrArg some (by kernel_rfl))
  f216 := Try.func72.trans (congrArg some (by kernel_rfl))
  f257 := Try.func55.trans (congrArg some (by kernel_rfl))
  f294 := Try.func66.trans (congrArg some (by kernel_rfl))
  f295 := Try.func67.trans (congrArg some (by kernel_rfl))
  f296 := Try.func68.trans (congrArg some (by kernel_rfl))
  f297 := Try.func69.trans (congrArg some (by kernel_rfl))
  f298 := Try.func70.trans (congrArg some (by kernel_rfl))
  f299 := Try.func71.trans (congrArg some (by kernel_rfl))
  f300 := Try.func73.trans (congrArg some (by kernel_rfl))
  f301 := Try.func74.trans (congrArg some (by kernel_rfl))
  f328 := Try.func79.trans (congrArg some (by kernel_rfl))
  f329 := Try.func80.trans (congrArg some (by kernel_rfl))
  f330 := Try.func81.trans (congrArg some (by kernel_rfl))
  f331 := Try.func82.trans (congrArg some (by kernel_rfl))
  f332 := Try.func83.trans (congrArg some (by kernel_rfl))
  f343 := Try.func85.trans (congrArg some (by kernel_rfl))
  t0 := Try.underlying0
  a0 := Try.isAgg0
  z0 := Try.sizeOf0
  v0 := Try.zeroValue0
  t3 := Try.underlying3
  a3 := Try.isAgg3
  z3 := Try.sizeOf3
  v3 := Try.zeroValue3
  t4 := Try.underlying4
  a4 := Try.isAgg4
  z4 := Try.sizeOf4
  v4 := Try.zeroValue4
  t5 := Try.underlying5
  a5 := Try.isAgg5
  z5 := Try.sizeOf5
  v5 := Try.zeroValue5
  t9 := Try.underlying9
  a9 := Try.isAgg9
  z9 := Try.sizeOf9
  v9 := Try.zeroValue9
  t28 := Try.underlying23
  a28 := Try.isAgg23
  z28 := Try.sizeOf23
  v28 := Try.zeroValue23
  t46 := Try.underlying85
  a46 := Try.isAgg85
  z46 := Try.sizeOf85
  v46 := Try.zeroValue85
  t51 := Try.underlying104
  a51 := Try.isAgg104
  z51 := Try.sizeOf104
  v51 := Try.zeroValue104
  t53 := Try.underlying106
  a53 := Try.isAgg106
  z53 := Try.sizeOf106
  v53 := Try.zeroValue106
  t131 := Try.underlying101
  a131 := Try.isAgg101
  z131 := Try.sizeOf101
  v131 := Try.zeroValue101
  t182 := Try.underlying96
  a182 := Try.isAgg96
  z182 := Try.sizeOf96
  v182 := Try.zeroValue96
  t183 := Try.underlying97
  a183 := Try.isAgg97
  z183 := Try.sizeOf97
  v183 := Try.zeroValue97
  t218 := Try.underlying113
  a218 := Try.isAgg113
  z218 := Try.sizeOf113
  v218 := Try.zeroValue113
  t222 := Try.underlying117
  a222 := Try.isAgg117
  z222 := Try.sizeOf117
  v222 := Try.zeroValue117
  t228 := Try.underlying130
  a228 := Try.isAgg130
  z228 := Try.sizeOf130
  v228 := Try.zeroValue130
  t229 := Try.underlying131
  a229 := Try.isAgg131
  z229 := Try.sizeOf131
  v229 := Try.zeroValue131 }
theorem Try.slices_Sort_int (blk off cap : Nat) (zs : List Int) (w : World) (hH : Holds (Value.int .i64) w blk off zs.toArray) (hblk : blk < w.heap.size) (hsz : zs.length < 4611686018427387904) :
    Calls Try.prog 44 #[.slice (some ⟨blk, off, none⟩) zs.length cap] w fun e w' =>
      e = .returned (.tuple #[]) ∧ ∃ n os, w' = grow (putRow (Value.int .i64) (Sort.ahead w n) blk off (zs.mergeSort fun x y => decide (x ≤ y)).toArray) os := Any.slices_Sort_int Try.lays189 blk off cap zs w hH hblk hsz
theorem Try.slices_Sort_int_none (p : Option Addr) (cap : Nat) (w : World) :
    Calls Try.prog 44 #[.slice p 0 cap] w fun e w' => e = .returned (.tuple #[]) ∧ w' = w := Any.slices_Sort_int_none Try.lays189 p cap w
end Go.Proofs

/- Numbers in memory of the call's own: sorted, and without two alike, by the library. -/
namespace Go.Proofs.Ytcfhfhpdnjaokaa
open Go.RowKit Pth Go.Lib Go.Sort

theorem I_enc (l : List Int) : I l = l.map (Value.int .i64) := rfl
theorem sortI_len (l : List Int) : (sortI l).length = l.length := (sortI_perm l).length_eq
theorem sortInts_any (l : List Int) (v : Value) (B : Nat) (w : World) (hown : w.ownsRow B 3 1 v l.length (I l)) (hl : l.length ≤ 1000000) (hB : B ≤ w.heap.size) :
    Calls Try.prog 44 #[v] w fun e w' => e = .returned (.tuple #[]) ∧ w'.ownsRow B 3 1 v (sortI l).length (I (sortI l)) ∧ Below B w w' := by
  rcases hown.2 with ⟨hv, h0⟩ | ⟨g, cap, cur, hv, hBg, hh, h1, h2, h3, h4⟩
  · subst hv
    have h00 : l = [] := List.eq_nil_of_length_eq_zero h0
    subst h00
    refine (Try.slices_Sort_int_none none 0 w).mono fun e w' ⟨he, hw⟩ => ?_
    subst hw
    rw [show sortI [] = [] by simp [sortI]]
    exact ⟨he, hown, Below.refl _ _⟩
  · subst hv
    have hH := holds_of_blockI (ss := l) hh (by rw [Nat.mul_one] at h4; rw [← I_enc]; exact h4)
    refine (Try.slices_Sort_int g 0 cap l w hH (lt_of_block hh) (by omega)).mono ?_
    rintro e w' ⟨he, n, os, rfl⟩
    refine ⟨he, ?_, (Below.refl B w).grown (grownBy_sortedI _) hB (fun k hk => by cases hk; exact hBg)⟩
    have := ownsRow_sortedI (base := B) (n := n) (os := os) (ss := l) (ts := sortI l) (sortI_len l) hBg hh h1 h2 h3
    rw [sortI_len, I_enc]
    exact this
theorem compact_len (l : List Int) : (compact l).length ≤ l.length := compact_length_le l
end Go.Proofs.Ytcfhfhpdnjaokaa

/- What a type assertion gives at each deed: closed facts of the loaded program. -/
namespace Go.Proofs.Ytcfhfhpdnjaokaa
open Go.RowKit

theorem ta_cat_cat (v : Value) (w : World) : (Instr.typeAssert (.iface 120 v) 108 120 true).run Try.prog w = .ok (.tuple #[v, .bool true]) w := by kernel_rfl
theorem ta_cat_text (v : Value) (w : World) : (Instr.typeAssert (.iface 120 v) 108 122 true).run Try.prog w = .ok (.tuple #[.agg #[.string ByteArray.empty], .bool false]) w := by kernel_rfl
theorem ta_cat_upper (v : Value) (w : World) : (Instr.typeAssert (.iface 120 v) 108 124 true).run Try.prog w = .ok (.tuple #[.agg #[], .bool false]) w := by kernel_rfl
theorem ta_cat_sort (v : Value) (w : World) : (Instr.typeAssert (.iface 120 v) 108 125 true).run Try.prog w = .ok (.tuple #[.agg #[], .bool false]) w := by kernel_rfl
theorem ta_cat_drop (v : Value) (w : World) : (Instr.typeAssert (.iface 120 v) 108 127 true).run Try.prog w = .ok (.tuple #[.agg #[.int .i64 0], .bool false]) w := by kernel_rfl
theorem ta_cat_count (v : Value) (w : World) : (Instr.typeAssert (.iface 120 v) 108 128 true).run Try.prog w = .ok (.tuple #[.agg #[], .bool false]) w := by kernel_rfl
theorem ta_cat_fail (v : Value) (w : World) : (Instr.typeAssert (.iface 120 v) 108 129 true).run Try.prog w = .ok (.tuple #[.agg #[], .bool false]) w := by kernel_rfl
theorem ta_text_cat (v : Value) (w : World) : (Instr.typeAssert (.iface 122 v) 108 120 true).run Try.prog w = .ok (.tuple #[.agg #[.int .i64 0], .bool false]) w := by kernel_rfl
theorem ta_text_text (v : Value) (w : World) : (Instr.typeAssert (.iface 122 v) 108 122 true).run Try.prog w = .ok (.tuple #[v, .bool true]) w := by kernel_rfl
theorem ta_text_upper (v : Value) (w : World) : (Instr.typeAssert (.iface 122 v) 108 124 true).run Try.prog w = .ok (.tuple #[.agg #[], .bool false]) w := by kernel_rfl
theorem ta_text_sort (v : Value) (w : World) : (Instr.typeAssert (.iface 122 v) 108 125 true).run Try.prog w = .ok (.tuple #[.agg #[], .bool false]) w := by kernel_rfl
theorem ta_text_drop (v : Value) (w : World) : (Instr.typeAssert (.iface 122 v) 108 127 true).run Try.prog w = .ok (.tuple #[.agg #[.int .i64 0], .bool false]) w := by kernel_rfl
theorem ta_text_count (v : Value) (w : World) : (Instr.typeAssert (.iface 122 v) 108 128 true).run Try.prog w = .ok (.tuple #[.agg #[], .bool false]) w := by kernel_rfl
theorem ta_text_fail (v : Value) (w : World) : (Instr.typeAssert (.iface 122 v) 108 129 true).run Try.prog w = .ok (.tuple #[.agg #[], .bool false]) w := by kernel_rfl
theorem ta_upper_cat (v : Value) (w : World) : (Instr.typeAssert (.iface 124 v) 108 120 true).run Try.prog w = .ok (.tuple #[.agg #[.int .i64 0], .bool false]) w := by kernel_rfl
theorem ta_upper_text (v : Value) (w : World) : (Instr.typeAssert (.iface 124 v) 108 122 true).run Try.prog w = .ok (.tuple #[.agg #[.string ByteArray.empty], .bool false]) w := by kernel_rfl
theorem ta_upper_upper (v : Value) (w : World) : (Instr.typeAssert (.iface 124 v) 108 124 true).run Try.prog w = .ok (.tuple #[v, .bool true]) w := by kernel_rfl
theorem ta_upper_sort (v : Value) (w : World) : (Instr.typeAssert (.iface 124 v) 108 125 true).run Try.prog w = .ok (.tuple #[.agg #[], .bool false]) w := by kernel_rfl
theorem ta_upper_drop (v : Value) (w : World) : (Instr.typeAssert (.iface 124 v) 108 127 true).run Try.prog w = .ok (.tuple #[.agg #[.int .i64 0], .bool false]) w := by kernel_rfl
theorem ta_upper_count (v : Value) (w : World) : (Instr.typeAssert (.iface 124 v) 108 128 true).run Try.prog w = .ok (.tuple #[.agg #[], .bool false]) w := by kernel_rfl
theorem ta_upper_fail (v : Value) (w : World) : (Instr.typeAssert (.iface 124 v) 108 129 true).run Try.prog w = .ok (.tuple #[.agg #[], .bool false]) w := by kernel_rfl
theorem ta_sort_cat (v : Value) (w : World) : (Instr.typeAssert (.iface 125 v) 108 120 true).run Try.prog w = .ok (.tuple #[.agg #[.int .i64 0], .bool false]) w := by kernel_rfl
theorem ta_sort_text (v : Value) (w : World) : (Instr.typeAssert (.iface 125 v) 108 122 true).run Try.prog w = .ok (.tuple #[.agg #[.string ByteArray.empty], .bool false]) w := by kernel_rfl
theorem ta_sort_upper (v : Value) (w : World) : (Instr.typeAssert (.iface 125 v) 108 124 true).run Try.prog w = .ok (.tuple #[.agg #[], .bool false]) w := by kernel_rfl
theorem ta_sort_sort (v : Value) (w : World) : (Instr.typeAssert (.iface 125 v) 108 125 true).run Try.prog w = .ok (.tuple #[v, .bool true]) w := by kernel_rfl
theorem ta_sort_drop (v : Value) (w : World) : (Instr.typeAssert (.iface 125 v) 108 127 true).run Try.prog w = .ok (.tuple #[.agg #[.int .i64 0], .bool false]) w := by kernel_rfl
theorem ta_sort_count (v : Value) (w : World) : (Instr.typeAssert (.iface 125 v) 108 128 true).run Try.prog w = .ok (.tuple #[.agg #[], .bool false]) w := by kernel_rfl
theorem ta_sort_fail (v : Value) (w : World) : (Instr.typeAssert (.iface 125 v) 108 129 true).run Try.prog w = .ok (.tuple #[.agg #[], .bool false]) w := by kernel_rfl
theorem ta_drop_cat (v : Value) (w : World) : (Instr.typeAssert (.iface 127 v) 108 120 true).run Try.prog w = .ok (.tuple #[.agg #[.int .i64 0], .bool false]) w := by kernel_rfl
theorem ta_drop_text (v : Value) (w : World) : (Instr.typeAssert (.iface 127 v) 108 122 true).run Try.prog w = .ok (.tuple #[.agg #[.string ByteArray.empty], .bool false]) w := by kernel_rfl
theorem ta_drop_upper (v : Value) (w : World) : (Instr.typeAssert (.iface 127 v) 108 124 true).run Try.prog w = .ok (.tuple #[.agg #[], .bool false]) w := by kernel_rfl
theorem ta_drop_sort (v : Value) (w : World) : (Instr.typeAssert (.iface 127 v) 108 125 true).run Try.prog w = .ok (.tuple #[.agg #[], .bool false]) w := by kernel_rfl
theorem ta_drop_drop (v : Value) (w : World) : (Instr.typeAssert (.iface 127 v) 108 127 true).run Try.prog w = .ok (.tuple #[v, .bool true]) w := by kernel_rfl
theorem ta_drop_count (v : Value) (w : World) : (Instr.typeAssert (.iface 127 v) 108 128 true).run Try.prog w = .ok (.tuple #[.agg #[], .bool false]) w := by kernel_rfl
theorem ta_drop_fail (v : Value) (w : World) : (Instr.typeAssert (.iface 127 v) 108 129 true).run Try.prog w = .ok (.tuple #[.agg #[], .bool false]) w := by kernel_rfl
theorem ta_count_cat (v : Value) (w : World) : (Instr.typeAssert (.iface 128 v) 108 120 true).run Try.prog w = .ok (.tuple #[.agg #[.int .i64 0], .bool false]) w := by kernel_rfl
theorem ta_count_text (v : Value) (w : World) : (Instr.typeAssert (.iface 128 v) 108 122 true).run Try.prog w = .ok (.tuple #[.agg #[.string ByteArray.empty], .bool false]) w := by kernel_rfl
theorem ta_count_upper (v : Value) (w : World) : (Instr.typeAssert (.iface 128 v) 108 124 true).run Try.prog w = .ok (.tuple #[.agg #[], .bool false]) w := by kernel_rfl
theorem ta_count_sort (v : Value) (w : World) : (Instr.typeAssert (.iface 128 v) 108 125 true).run Try.prog w = .ok (.tuple #[.agg #[], .bool false]) w := by kernel_rfl
theorem ta_count_drop (v : Value) (w : World) : (Instr.typeAssert (.iface 128 v) 108 127 true).run Try.prog w = .ok (.tuple #[.agg #[.int .i64 0], .bool false]) w := by kernel_rfl
theorem ta_count_count (v : Value) (w : World) : (Instr.typeAssert (.iface 128 v) 108 128 true).run Try.prog w = .ok (.tuple #[v, .bool true]) w := by kernel_rfl
theorem ta_count_fail (v : Value) (w : World) : (Instr.typeAssert (.iface 128 v) 108 129 true).run Try.prog w = .ok (.tuple #[.agg #[], .bool false]) w := by kernel_rfl
theorem ta_fail_cat (v : Value) (w : World) : (Instr.typeAssert (.iface 129 v) 108 120 true).run Try.prog w = .ok (.tuple #[.agg #[.int .i64 0], .bool false]) w := by kernel_rfl
theorem ta_fail_text (v : Value) (w : World) : (Instr.typeAssert (.iface 129 v) 108 122 true).run Try.prog w = .ok (.tuple #[.agg #[.string ByteArray.empty], .bool false]) w := by kernel_rfl
theorem ta_fail_upper (v : Value) (w : World) : (Instr.typeAssert (.iface 129 v) 108 124 true).run Try.prog w = .ok (.tuple #[.agg #[], .bool false]) w := by kernel_rfl
theorem ta_fail_sort (v : Value) (w : World) : (Instr.typeAssert (.iface 129 v) 108 125 true).run Try.prog w = .ok (.tuple #[.agg #[], .bool false]) w := by kernel_rfl
theorem ta_fail_drop (v : Value) (w : World) : (Instr.typeAssert (.iface 129 v) 108 127 true).run Try.prog w = .ok (.tuple #[.agg #[.int .i64 0], .bool false]) w := by kernel_rfl
theorem ta_fail_count (v : Value) (w : World) : (Instr.typeAssert (.iface 129 v) 108 128 true).run Try.prog w = .ok (.tuple #[.agg #[], .bool false]) w := by kernel_rfl
theorem ta_fail_fail (v : Value) (w : World) : (Instr.typeAssert (.iface 129 v) 108 129 true).run Try.prog w = .ok (.tuple #[v, .bool true]) w := by kernel_rfl

end Go.Proofs.Ytcfhfhpdnjaokaa

/- Walks: the program's deeds, one by one. -/
namespace Go.Proofs.Ytcfhfhpdnjaokaa
open Go.RowKit Pth

def catV (n : Int) : Value := .iface 120 (.agg #[.int .i64 n])
def textV (t : List UInt8) : Value := .iface 122 (.agg #[.string ⟨t.toArray⟩])
def upperV : Value := .iface 124 (.agg #[])
def sortV : Value := .iface 125 (.agg #[])
def dropV (n : Int) : Value := .iface 127 (.agg #[.int .i64 n])
def countV : Value := .iface 128 (.agg #[])
def failV : Value := .iface 129 (.agg #[])
/-- A deed is told. -/
def DeedPost (d : Value) (b : Bool) (w : World) (e : Ending) (w' : World) : Prop := e = .returned (.tuple #[d, .bool b]) ∧ Below w.heap.size w w'
/-- An op is told. -/
def OpPost (o : OpT) (w : World) (e : Ending) (w' : World) : Prop := e = .returned (opV o) ∧ Below w.heap.size w w'
/-- A bool is handed back; what lay there lies there. -/
def BPost (b : Bool) (w : World) (e : Ending) (w' : World) : Prop := e = .returned (.bool b) ∧ Below w.heap.size w w'

set_option maxRecDepth 20000 in
set_option maxHeartbeats 2000000 in
theorem deedOf_cat (n : Int) (t : List UInt8) (w : World) : Calls Try.prog 77 #[opV (1, n, t)] w (DeedPost (catV n) true w) := by
  unfold opV catV
  simp only
  have HB := Lib.hid ((Below.refl w.heap.size w).alloc (Nat.le_refl _) (.cells #[.int .i64 1, .int .i64 n, .string ⟨t.toArray⟩] 81))
  go_enter Try.func77, Try.ntmps77
  go_wp2_with fail
  go_ret2
  exact ⟨rfl, HB.out⟩

set_option maxRecDepth 20000 in
set_option maxHeartbeats 2000000 in
theorem asOp_cat (n : Int) (w : World) : Calls Try.prog 101 #[.agg #[.int .i64 n]] w (OpPost (1, n, []) w) := by
  unfold OpPost opV
  simp only
  go_enter Try.func101, Try.ntmps101
  go_wp2_with fail
  refine bodyPost_ret (results_cellO rfl rfl (load_op (x := .int .i64 1) (y := .int .i64 n) (z := .string ⟨#[]⟩) (by go_simp) (by go_simp) (by go_simp))) rfl ?_
  exact ⟨rfl, ((Below.refl w.heap.size w).alloc (Nat.le_refl _) _).alloc (by simp) _⟩

set_option maxRecDepth 20000 in
set_option maxHeartbeats 2000000 in
theorem range_cat (n ins : Int) (w : World) : Calls Try.prog 78 #[catV n, .int .i64 ins] w (BPost (decide (0 ≤ n) && decide (n < ins)) w) := by
  unfold catV
  have HB := Lib.hid ((Below.refl w.heap.size w).alloc (Nat.le_refl _) (.cells #[.int .i64 n] 120))
  have qcat := ta_cat_cat (.agg #[.int .i64 n])
  obtain ⟨b1, hb1⟩ : ∃ b, decide (0 ≤ n) = b := ⟨_, rfl⟩
  obtain ⟨b2, hb2⟩ : ∃ b, decide (n < ins) = b := ⟨_, rfl⟩
  have HT : Hid ((decide (0 ≤ n) && decide (n < ins)) = (b1 && b2)) := by rw [hb1, hb2]; rfl
  rw [HT.out]
  rcases b1 with _ | _ <;> rcases b2 with _ | _ <;>
    (go_enter Try.func78, Try.ntmps78
     go_wp2_with fail
     go_ret
     exact ⟨rfl, HB.out⟩)

set_option maxRecDepth 20000 in
set_option maxHeartbeats 2000000 in
theorem deedOf_text (n : Int) (t : List UInt8) (w : World) : Calls Try.prog 77 #[opV (2, n, t)] w (DeedPost (textV t) true w) := by
  unfold opV textV
  simp only
  have HB := Lib.hid ((Below.refl w.heap.size w).alloc (Nat.le_refl _) (.cells #[.int .i64 2, .int .i64 n, .string ⟨t.toArray⟩] 81))
  go_enter Try.func77, Try.ntmps77
  go_wp2_with fail
  go_ret2
  exact ⟨rfl, HB.out⟩

set_option maxRecDepth 20000 in
set_option maxHeartbeats 2000000 in
theorem asOp_text (t : List UInt8) (w : World) : Calls Try.prog 102 #[.agg #[.string ⟨t.toArray⟩]] w (OpPost (2, 0, t) w) := by
  unfold OpPost opV
  simp only
  go_enter Try.func102, Try.ntmps102
  go_wp2_with fail
  refine bodyPost_ret (results_cellO rfl rfl (load_op (x := .int .i64 2) (y := .int .i64 0) (z := .string ⟨t.toArray⟩) (by go_simp) (by go_simp) (by go_simp))) rfl ?_
  exact ⟨rfl, ((Below.refl w.heap.size w).alloc (Nat.le_refl _) _).alloc (by simp) _⟩

set_option maxRecDepth 20000 in
set_option maxHeartbeats 2000000 in
theorem range_text (t : List UInt8) (ins : Int) (w : World) : Calls Try.prog 78 #[textV t, .int .i64 ins] w (BPost (decide (t.length ≤ 10)) w) := by
  unfold textV
  have HB := Lib.hid ((Below.refl w.heap.size w).alloc (Nat.le_refl _) (.cells #[.string ⟨t.toArray⟩] 122))
  have qcat := ta_text_cat (.agg #[.string ⟨t.toArray⟩])
  have qtext := ta_text_text (.agg #[.string ⟨t.toArray⟩])
  obtain ⟨b2, hb2⟩ : ∃ b, decide ((t.length : Int) ≤ 10) = b := ⟨_, rfl⟩
  have HT : Hid (decide (t.length ≤ 10) = b2) := by rw [← hb2]; exact decide_eq_decide.2 (by omega)
  rw [HT.out]
  rcases b2 with _ | _ <;>
    (go_enter Try.func78, Try.ntmps78
     go_wp2_with fail
     go_ret
     exact ⟨rfl, HB.out⟩)

set_option maxRecDepth 20000 in
set_option maxHeartbeats 2000000 in
theorem deedOf_upper (n : Int) (t : List UInt8) (w : World) : Calls Try.prog 77 #[opV (3, n, t)] w (DeedPost (upperV) true w) := by
  unfold opV upperV
  simp only
  have HB := Lib.hid ((Below.refl w.heap.size w).alloc (Nat.le_refl _) (.cells #[.int .i64 3, .int .i64 n, .string ⟨t.toArray⟩] 81))
  go_enter Try.func77, Try.ntmps77
  go_wp2_with fail
  go_ret2
  exact ⟨rfl, HB.out⟩

set_option maxRecDepth 20000 in
set_option maxHeartbeats 2000000 in
theorem asOp_upper (w : World) : Calls Try.prog 103 #[.agg #[]] w (OpPost (3, 0, []) w) := by
  unfold OpPost opV
  simp only
  go_enter Try.func103, Try.ntmps103
  go_wp2_with fail
  refine bodyPost_ret (results_cellO rfl rfl (load_op (x := .int .i64 3) (y := .int .i64 0) (z := .string ⟨#[]⟩) (by go_simp) (by go_simp) (by go_simp))) rfl ?_
  exact ⟨rfl, ((Below.refl w.heap.size w).alloc (Nat.le_refl _) _).alloc (by simp) _⟩

set_option maxRecDepth 20000 in
set_option maxHeartbeats 2000000 in
theorem range_upper (ins : Int) (w : World) : Calls Try.prog 78 #[upperV, .int .i64 ins] w (BPost true w) := by
  unfold upperV
  have qcat := ta_upper_cat (.agg #[])
  have qtext := ta_upper_text (.agg #[])
  have qdrop := ta_upper_drop (.agg #[])
  go_enter Try.func78, Try.ntmps78
  go_wp2_with fail
  go_ret
  exact ⟨rfl, Below.refl _ _⟩

set_option maxRecDepth 20000 in
set_option maxHeartbeats 2000000 in
theorem deedOf_sort (n : Int) (t : List UInt8) (w : World) : Calls Try.prog 77 #[opV (4, n, t)] w (DeedPost (sortV) true w) := by
  unfold opV sortV
  simp only
  have HB := Lib.hid ((Below.refl w.heap.size w).alloc (Nat.le_refl _) (.cells #[.int .i64 4, .int .i64 n, .string ⟨t.toArray⟩] 81))
  go_enter Try.func77, Try.ntmps77
  go_wp2_with fail
  go_ret2
  exact ⟨rfl, HB.out⟩

set_option maxRecDepth 20000 in
set_option maxHeartbeats 2000000 in
theorem asOp_sort (w : World) : Calls Try.prog 104 #[.agg #[]] w (OpPost (4, 0, []) w) := by
  unfold OpPost opV
  simp only
  go_enter Try.func104, Try.ntmps104
  go_wp2_with fail
  refine bodyPost_ret (results_cellO rfl rfl (load_op (x := .int .i64 4) (y := .int .i64 0) (z := .string ⟨#[]⟩) (by go_simp) (by go_simp) (by go_simp))) rfl ?_
  exact ⟨rfl, ((Below.refl w.heap.size w).alloc (Nat.le_refl _) _).alloc (by simp) _⟩

set_option maxRecDepth 20000 in
set_option maxHeartbeats 2000000 in
theorem range_sort (ins : Int) (w : World) : Calls Try.prog 78 #[sortV, .int .i64 ins] w (BPost true w) := by
  unfold sortV
  have qcat := ta_sort_cat (.agg #[])
  have qtext := ta_sort_text (.agg #[])
  have qdrop := ta_sort_drop (.agg #[])
  go_enter Try.func78, Try.ntmps78
  go_wp2_with fail
  go_ret
  exact ⟨rfl, Below.refl _ _⟩

set_option maxRecDepth 20000 in
set_option maxHeartbeats 2000000 in
theorem deedOf_drop (n : Int) (t : List UInt8) (w : World) : Calls Try.prog 77 #[opV (5, n, t)] w (DeedPost (dropV n) true w) := by
  unfold opV dropV
  simp only
  have HB := Lib.hid ((Below.refl w.heap.size w).alloc (Nat.le_refl _) (.cells #[.int .i64 5, .int .i64 n, .string ⟨t.toArray⟩] 81))
  go_enter Try.func77, Try.ntmps77
  go_wp2_with fail
  go_ret2
  exact ⟨rfl, HB.out⟩

set_option maxRecDepth 20000 in
set_option maxHeartbeats 2000000 in
theorem asOp_drop (n : Int) (w : World) : Calls Try.prog 105 #[.agg #[.int .i64 n]] w (OpPost (5, n, []) w) := by
  unfold OpPost opV
  simp only
  go_enter Try.func105, Try.ntmps105
  go_wp2_with fail
  refine bodyPost_ret (results_cellO rfl rfl (load_op (x := .int .i64 5) (y := .int .i64 n) (z := .string ⟨#[]⟩) (by go_simp) (by go_simp) (by go_simp))) rfl ?_
  exact ⟨rfl, ((Below.refl w.heap.size w).alloc (Nat.le_refl _) _).alloc (by simp) _⟩

set_option maxRecDepth 20000 in
set_option maxHeartbeats 2000000 in
theorem range_drop (n ins : Int) (w : World) : Calls Try.prog 78 #[dropV n, .int .i64 ins] w (BPost (decide (0 ≤ n) && decide (n ≤ 40)) w) := by
  unfold dropV
  have HB := Lib.hid ((Below.refl w.heap.size w).alloc (Nat.le_refl _) (.cells #[.int .i64 n] 127))
  have qcat := ta_drop_cat (.agg #[.int .i64 n])
  have qtext := ta_drop_text (.agg #[.int .i64 n])
  have qdrop := ta_drop_drop (.agg #[.int .i64 n])
  obtain ⟨b1, hb1⟩ : ∃ b, decide (0 ≤ n) = b := ⟨_, rfl⟩
  obtain ⟨b2, hb2⟩ : ∃ b, decide (n ≤ 40) = b := ⟨_, rfl⟩
  have HT : Hid ((decide (0 ≤ n) && decide (n ≤ 40)) = (b1 && b2)) := by rw [hb1, hb2]; rfl
  rw [HT.out]
  rcases b1 with _ | _ <;> rcases b2 with _ | _ <;>
    (go_enter Try.func78, Try.ntmps78
     go_wp2_with fail
     go_ret
     exact ⟨rfl, HB.out⟩)

set_option maxRecDepth 20000 in
set_option maxHeartbeats 2000000 in
theorem deedOf_count (n : Int) (t : List UInt8) (w : World) : Calls Try.prog 77 #[opV (6, n, t)] w (DeedPost (countV) true w) := by
  unfold opV countV
  simp only
  have HB := Lib.hid ((Below.refl w.heap.size w).alloc (Nat.le_refl _) (.cells #[.int .i64 6, .int .i64 n, .string ⟨t.toArray⟩] 81))
  go_enter Try.func77, Try.ntmps77
  go_wp2_with fail
  go_ret2
  exact ⟨rfl, HB.out⟩

set_option maxRecDepth 20000 in
set_option maxHeartbeats 2000000 in
theorem asOp_count (w : World) : Calls Try.prog 106 #[.agg #[]] w (OpPost (6, 0, []) w) := by
  unfold OpPost opV
  simp only
  go_enter Try.func106, Try.ntmps106
  go_wp2_with fail
  refine bodyPost_ret (results_cellO rfl rfl (load_op (x := .int .i64 6) (y := .int .i64 0) (z := .string ⟨#[]⟩) (by go_simp) (by go_simp) (by go_simp))) rfl ?_
  exact ⟨rfl, ((Below.refl w.heap.size w).alloc (Nat.le_refl _) _).alloc (by simp) _⟩

set_option maxRecDepth 20000 in
set_option maxHeartbeats 2000000 in
theorem range_count (ins : Int) (w : World) : Calls Try.prog 78 #[countV, .int .i64 ins] w (BPost true w) := by
  unfold countV
  have qcat := ta_count_cat (.agg #[])
  have qtext := ta_count_text (.agg #[])
  have qdrop := ta_count_drop (.agg #[])
  go_enter Try.func78, Try.ntmps78
  go_wp2_with fail
  go_ret
  exact ⟨rfl, Below.refl _ _⟩

set_option maxRecDepth 20000 in
set_option maxHeartbeats 2000000 in
theorem deedOf_fail (n : Int) (t : List UInt8) (w : World) : Calls Try.prog 77 #[opV (7, n, t)] w (DeedPost (failV) true w) := by
  unfold opV failV
  simp only
  have HB := Lib.hid ((Below.refl w.heap.size w).alloc (Nat.le_refl _) (.cells #[.int .i64 7, .int .i64 n, .string ⟨t.toArray⟩] 81))
  go_enter Try.func77, Try.ntmps77
  go_wp2_with fail
  go_ret2
  exact ⟨rfl, HB.out⟩

set_option maxRecDepth 20000 in
set_option maxHeartbeats 2000000 in
theorem asOp_fail (w : World) : Calls Try.prog 107 #[.agg #[]] w (OpPost (7, 0, []) w) := by
  unfold OpPost opV
  simp only
  go_enter Try.func107, Try.ntmps107
  go_wp2_with fail
  refine bodyPost_ret (results_cellO rfl rfl (load_op (x := .int .i64 7) (y := .int .i64 0) (z := .string ⟨#[]⟩) (by go_simp) (by go_simp) (by go_simp))) rfl ?_
  exact ⟨rfl, ((Below.refl w.heap.size w).alloc (Nat.le_refl _) _).alloc (by simp) _⟩

set_option maxRecDepth 20000 in
set_option maxHeartbeats 2000000 in
theorem range_fail (ins : Int) (w : World) : Calls Try.prog 78 #[failV, .int .i64 ins] w (BPost true w) := by
  unfold failV
  have qcat := ta_fail_cat (.agg #[])
  have qtext := ta_fail_text (.agg #[])
  have qdrop := ta_fail_drop (.agg #[])
  go_enter Try.func78, Try.ntmps78
  go_wp2_with fail
  go_ret
  exact ⟨rfl, Below.refl _ _⟩

set_option maxRecDepth 20000 in
set_option maxHeartbeats 2000000 in
theorem deedOf_none (k n : Int) (t : List UInt8) (w : World) (h1 : k ≠ 1) (h2 : k ≠ 2) (h3 : k ≠ 3) (h4 : k ≠ 4) (h5 : k ≠ 5) (h6 : k ≠ 6) (h7 : k ≠ 7) : Calls Try.prog 77 #[opV (k, n, t)] w (DeedPost .nilIface false w) := by
  unfold opV
  simp only
  have HB := Lib.hid ((Below.refl w.heap.size w).alloc (Nat.le_refl _) (.cells #[.int .i64 k, .int .i64 n, .string ⟨t.toArray⟩] 81))
  have e1 : (k == 1) = false := by simpa using h1
  have e2 : (k == 2) = false := by simpa using h2
  have e3 : (k == 3) = false := by simpa using h3
  have e4 : (k == 4) = false := by simpa using h4
  have e5 : (k == 5) = false := by simpa using h5
  have e6 : (k == 6) = false := by simpa using h6
  have e7 : (k == 7) = false := by simpa using h7
  clear h1 h2 h3 h4 h5 h6 h7
  go_enter Try.func77, Try.ntmps77
  go_wp2_with fail
  go_ret2
  exact ⟨rfl, HB.out⟩

end Go.Proofs.Ytcfhfhpdnjaokaa

/- Walks: the program's deeds of a recipe. -/
namespace Go.Proofs.Ytcfhfhpdnjaokaa
open Go.RowKit Pth

def asO (o : OpT) : OpT := if o.1 = 1 then (1, o.2.1, []) else if o.1 = 2 then (2, 0, o.2.2) else if o.1 = 5 then (5, o.2.1, []) else (o.1, 0, [])
def rangeB (ins : Int) (o : OpT) : Bool := if o.1 = 1 then decide (0 ≤ o.2.1) && decide (o.2.1 < ins) else if o.1 = 2 then decide (o.2.2.length ≤ 10) else if o.1 = 5 then decide (0 ≤ o.2.1) && decide (o.2.1 ≤ 40) else true
def deedV (o : OpT) : Value :=
  if o.1 = 1 then catV o.2.1 else if o.1 = 2 then textV o.2.2 else if o.1 = 3 then upperV else if o.1 = 4 then sortV else if o.1 = 5 then dropV o.2.1 else if o.1 = 6 then countV else if o.1 = 7 then failV else .nilIface
def knownB (o : OpT) : Bool := decide (1 ≤ o.1) && decide (o.1 ≤ 7)
theorem as_cat {n : Int} {t : List UInt8} : decide (asO (1, n, t) = (1, n, t)) = decide (t = []) := decide_eq_decide.2 (by simp [asO, eq_comm])
theorem as_text {n : Int} {t : List UInt8} : decide (asO (2, n, t) = (2, n, t)) = decide (n = 0) := decide_eq_decide.2 (by simp [asO, eq_comm])
theorem as_drop {n : Int} {t : List UInt8} : decide (asO (5, n, t) = (5, n, t)) = decide (t = []) := decide_eq_decide.2 (by simp [asO, eq_comm])
theorem as_bare {k n : Int} {t : List UInt8} (h1 : k ≠ 1) (h2 : k ≠ 2) (h5 : k ≠ 5) : decide (asO (k, n, t) = (k, n, t)) = (decide (n = 0) && decide (t = [])) := by
  rw [← Bool.decide_and]
  refine decide_eq_decide.2 ?_
  simp only [asO, if_neg h1, if_neg h2, if_neg h5, Prod.mk.injEq, true_and]
  rw [eq_comm (a := (0 : Int)), eq_comm (a := ([] : List UInt8))]
theorem opOk_is (ins : Int) (o : OpT) : opOk ins o = (knownB o && (decide (asO o = o) && rangeB ins o)) := by
  obtain ⟨k, n, t⟩ := o
  by_cases h1 : k = 1
  · subst h1
    rw [opOk_cat, as_cat]
    have e : decide (n ≤ ins - 1) = decide (n < ins) := decide_eq_decide.2 (by omega)
    rw [e]
    simp only [knownB, rangeB, if_true]
    rw [Bool.and_comm]; rfl
  by_cases h2 : k = 2
  · subst h2
    rw [opOk_text, as_text]
    rfl
  by_cases h5 : k = 5
  · subst h5
    rw [opOk_drop, as_drop]
    simp only [knownB, rangeB]
    rw [Bool.and_comm]; rfl
  by_cases h3 : k = 3 ∨ k = 4 ∨ k = 6 ∨ k = 7
  · rw [opOk_bare h3, as_bare h1 h2 h5]
    have e1 : knownB (k, n, t) = true := by simp only [knownB, Bool.and_eq_true, decide_eq_true_eq]; omega
    rw [e1, rangeB, if_neg h1, if_neg h2, if_neg h5]
    simp
  · have h3' : k ≠ 3 ∧ k ≠ 4 ∧ k ≠ 6 ∧ k ≠ 7 := by omega
    rw [opOk_none h1 h2 h3'.1 h3'.2.1 h5 h3'.2.2.1 h3'.2.2.2]
    have : knownB (k, n, t) = false := by
      simp only [knownB, Bool.and_eq_false_iff, decide_eq_false_iff_not]
      omega
    rw [this]; rfl

def DC (r : List OpT) : List Value := r.map deedV
theorem DC_len (r : List OpT) : (DC r).length = r.length := by simp [DC]
theorem elemD : Elem 92 108 .nilIface 16 := ⟨Try.underlying92, by kernel_rfl, rfl, by decide⟩
theorem deedOf_any (o : OpT) (w : World) : Calls Try.prog 77 #[opV o] w (DeedPost (deedV o) (knownB o) w) := by
  obtain ⟨k, n, t⟩ := o
  by_cases h1 : k = 1
  · subst h1; exact deedOf_cat n t w
  by_cases h2 : k = 2
  · subst h2; exact deedOf_text n t w
  by_cases h3 : k = 3
  · subst h3; exact deedOf_upper n t w
  by_cases h4 : k = 4
  · subst h4; exact deedOf_sort n t w
  by_cases h5 : k = 5
  · subst h5; exact deedOf_drop n t w
  by_cases h6 : k = 6
  · subst h6; exact deedOf_count n t w
  by_cases h7 : k = 7
  · subst h7; exact deedOf_fail n t w
  have e : deedV (k, n, t) = .nilIface := by simp [deedV, h1, h2, h3, h4, h5, h6, h7]
  have e2 : knownB (k, n, t) = false := by
    simp only [knownB, Bool.and_eq_false_iff, decide_eq_false_iff_not]
    omega
  rw [e, e2]
  exact deedOf_none k n t w h1 h2 h3 h4 h5 h6 h7


theorem neq_op (o p : OpT) (w : World) : (binOp .neq 81 (opV o) (opV p)).run Try.prog w = .ok (.bool (!decide (o = p))) w := by
  obtain ⟨k, n, t⟩ := o
  obtain ⟨k', n', t'⟩ := p
  unfold opV
  go_simp
  by_cases h1 : k = k' <;> by_cases h2 : n = n' <;> by_cases h3 : t = t' <;> simp [h1, h2, h3]

/-- What is known of a deed. -/
structure DeedAt (o : OpT) (T : TypeId) (v : Value) (K : FuncId) : Prop where
  val : deedV o = .iface T v
  meth : ∀ (F : Nat) (w : World), (method (F + 1) T v "loop.example/g00636/impl.asOp").run Try.prog w = .ok (K, v) w
  ent : ∀ w : World, (callFunc K #[v]).run Try.prog w = .ok (.enter K #[v]) w
  told : ∀ w : World, Calls Try.prog K #[v] w (OpPost (asO o) w)
  rng : ∀ (ins : Int) (w : World), Calls Try.prog 78 #[.iface T v, .int .i64 ins] w (BPost (rangeB ins o) w)
theorem deed_at {o : OpT} (h : knownB o = true) : ∃ T v K, DeedAt o T v K := by
  obtain ⟨k, n, t⟩ := o
  simp only [knownB, Bool.and_eq_true, decide_eq_true_eq] at h
  have hk : k = 1 ∨ k = 2 ∨ k = 3 ∨ k = 4 ∨ k = 5 ∨ k = 6 ∨ k = 7 := by omega
  rcases hk with rfl | rfl | rfl | rfl | rfl | rfl | rfl
  · exact ⟨120, (.agg #[.int .i64 n]), 101, rfl, fun _ _ => by kernel_rfl, fun _ => by kernel_rfl, fun w => asOp_cat n w, fun ins w => range_cat n ins w⟩
  · exact ⟨122, (.agg #[.string ⟨t.toArray⟩]), 102, rfl, fun _ _ => by kernel_rfl, fun _ => by kernel_rfl, fun w => asOp_text t w, fun ins w => range_text t ins w⟩
  · exact ⟨124, (.agg #[]), 103, rfl, fun _ _ => by kernel_rfl, fun _ => by kernel_rfl, fun w => asOp_upper w, fun ins w => range_upper ins w⟩
  · exact ⟨125, (.agg #[]), 104, rfl, fun _ _ => by kernel_rfl, fun _ => by kernel_rfl, fun w => asOp_sort w, fun ins w => range_sort ins w⟩
  · exact ⟨127, (.agg #[.int .i64 n]), 105, rfl, fun _ _ => by kernel_rfl, fun _ => by kernel_rfl, fun w => asOp_drop n w, fun ins w => range_drop n ins w⟩
  · exact ⟨128, (.agg #[]), 106, rfl, fun _ _ => by kernel_rfl, fun _ => by kernel_rfl, fun w => asOp_count w, fun ins w => range_count ins w⟩
  · exact ⟨129, (.agg #[]), 107, rfl, fun _ _ => by kernel_rfl, fun _ => by kernel_rfl, fun w => asOp_fail w, fun ins w => range_fail ins w⟩

end Go.Proofs.Ytcfhfhpdnjaokaa

/- A region that draws its order, whose first operations come in one forced order (a call that makes memory among them) and whose others only read: one walk in the order of the text. -/
namespace Go.Proofs.Ytcfhfhpdnjaokaa
open Go.RowKit

theorem oper_wp_Q {P : Program} {o : Oper} {a : Act} {w : World} {K : Act → World → Prop} {Q Q' : Exit → Act → World → Prop} (hq : ∀ e a w, e ≠ .normal → Q e a w → Q' e a w) (hh : o.wp P a w K Q) : o.wp P a w K Q' := by
  unfold Oper.wp at *
  generalize (execOp a.eval o).run P w = r at *
  cases r with
  | ok n w' =>
    cases n <;> simp only [Oper.upon] at hh ⊢ <;>
      first
        | exact hh
        | exact Calls.mono hh (fun e w'' he => by cases e <;> first | exact he | exact hq _ _ _ (by simp) he | exact (let ⟨a, w, h⟩ := he; ⟨a, w, hq _ _ _ (by simp) h⟩))
  | halt x w' => cases x <;> simp only [Oper.upon] at hh ⊢ <;> first | exact hh | exact hq _ _ _ (by simp) hh

theorem lets_Q {Q Q' : Exit → Act → World → Prop} (hq : ∀ e a w, e ≠ .normal → Q e a w → Q' e a w) (h : LetsOut Q) : LetsOut Q' :=
  let ⟨a, w, h⟩ := h; ⟨a, w, hq _ _ _ (by simp) h⟩

theorem wpOp_Q {P : Program} {ops : Array Oper} {i : Nat} {a : Act} {w : World} {K : Act → World → Prop} {Q Q' : Exit → Act → World → Prop} (hq : ∀ e a w, e ≠ .normal → Q e a w → Q' e a w) (hh : wpOp P ops Q i K a w) : wpOp P ops Q' i K a w := by
  unfold wpOp at *
  split
  · simpa [*] using hh
  · rename_i o ho
    simp only [ho] at hh
    split
    · rename_i hw; simp only [hw, if_true] at hh; exact hh.imp (oper_wp_Q hq) (fun h => ⟨h.1, lets_Q hq h.2⟩)
    · rename_i hw; simp only [hw] at hh; exact hh

/-- T behind the head, Q at whatever else. -/
def Then (T : Act → World → Prop) (Q : Exit → Act → World → Prop) : Exit → Act → World → Prop
  | .normal, a, w => T a w
  | e, a, w => Q e a w
theorem then_normal {T : Act → World → Prop} {Q : Exit → Act → World → Prop} {a : Act} {w : World} (h : T a w) : Then T Q .normal a w := h
theorem then_Q {T : Act → World → Prop} {Q : Exit → Act → World → Prop} : ∀ e a w, e ≠ .normal → Then T Q e a w → Q e a w := fun e a w he h => by
  cases e <;> first | exact absurd rfl he | exact h

def headB (ops : Array Oper) : Nat → Nat → Array Bool → Bool
  | 0, _, _ => true
  | g + 1, k, listed => decide (Region.ready .any ops listed = [k]) && headB ops g (k + 1) (listed.setIfInBounds k true)
def setAll : Nat → Nat → Array Bool → Array Bool
  | 0, _, listed => listed
  | g + 1, k, listed => setAll g (k + 1) (listed.setIfInBounds k true)

theorem wpAny_head {P : Program} {ops : Array Oper} {T : Act → World → Prop} {Q : Exit → Act → World → Prop} {r : Nat} : ∀ (l : List Oper) (k : Nat) (listed : Array Bool) (a : Act) (w : World), (∀ j, j < l.length → l[j]? = ops[k + j]?) →
    headB ops l.length k listed = true → (∀ a w, T a w → wpAny P .any ops Q r (setAll l.length k listed) a w) → wpList P ops (Then T Q) l a w → wpAny P .any ops Q (l.length + r) listed a w
  | [], _, _, _, _, _, _, hT, h => by
    simp only [List.length_nil, Nat.zero_add]
    exact hT _ _ h
  | o :: l, k, listed, a, w, hl, hB, hT, h => by
    have h0 : ops[k]? = some o := by have := hl 0 (by simp); simpa using this.symm
    simp only [List.length_cons, headB, Bool.and_eq_true, decide_eq_true_eq] at hB
    have e : (o :: l).length + r = (l.length + r) + 1 := by simp only [List.length_cons]; omega
    rw [e]
    refine ⟨fun h1 => (by rw [hB.1] at h1; cases h1), fun i hi => ?_⟩
    rw [hB.1] at hi
    have hik : i = k := by simpa using hi
    subst hik
    have hw : wpOp P ops (Then T Q) i (wpList P ops (Then T Q) l) a w := by unfold wpOp; simp only [h0]; exact h
    exact wpOp_Q then_Q (wpOp_mono (fun a' w' h' => wpAny_head l (i + 1) _ a' w' (fun j hj => by have := hl (j + 1) (by simp; omega); simpa [Nat.add_assoc, Nat.add_comm 1 j] using this) hB.2 hT h') hw)

theorem wp_region_head_quiet {P : Program} {id : Nat} {Q : Exit → Act → World → Prop} {a : Act} {w : World} {l : List Oper} (n : Nat) (hm : P.follows .mixedOrders = true) (hs : Region.noSelect l.toArray = true)
    (hH : headB l.toArray (l.take n).length 0 (Array.replicate l.toArray.size false) = true) (hL : Region.lexFrom .any l.toArray (l.drop n).length n (setAll (l.take n).length 0 (Array.replicate l.toArray.size false)) = true) (hn : n ≤ l.length)
    (h : wpList P l.toArray (Then (fun a' w' => wpQuiet P l.toArray (fun x => ∃ m, x = w'.drewN m) (fun a'' => ∀ x, (∃ m, x = w'.drewN m) → Q .normal a'' x) (l.drop n) a') Q) (l.take n) a { w with drawn := w.drawn + 1 }) : (Code.region id l.toArray true).wp P Q a w := by
  have htl : (l.take n).length = n := by rw [List.length_take]; omega
  refine wp_region_any hm ?_
  have H := wpAny_head (Q := Q) (r := (l.drop n).length) (l.take n) 0 (Array.replicate l.toArray.size false) a { w with drawn := w.drawn + 1 } (fun j hj => by
    rw [htl] at hj
    simp [hj]) hH (fun a' w' h' => ?_) h
  · have e : (l.take n).length + (l.drop n).length = l.toArray.size := by rw [htl, List.length_drop]; simp; omega
    rw [e] at H
    exact H
  · refine wpAny_of_quiet (C := fun x => ∃ m, x = w'.drewN m) (Q := fun a'' => ∀ x, (∃ m, x = w'.drewN m) → Q .normal a'' x) (fun a w hw h => h w hw) _ _ _ _ ⟨0, rfl⟩ ?_
    exact wpAnyQ_lex hs (l.drop n) n _ _ (fun j => by simp [List.getElem?_drop]) hL h'

end Go.Proofs.Ytcfhfhpdnjaokaa

/- A region that draws its order, in which behind a forced head a call that makes memory and a load may change places, and whose others only read: three walks. -/
namespace Go.Proofs.Ytcfhfhpdnjaokaa
open Go.RowKit

/-- Behind those that are listed: n and n + 2 may come, n + 1 behind n; nothing else ahead of all three. -/
def diaB (ops : Array Oper) (n : Nat) (L : Array Bool) : Bool :=
  decide (Region.ready .any ops L = [n, n + 2]) && (decide (Region.ready .any ops (L.setIfInBounds n true) = [n + 1, n + 2]) && (decide (Region.ready .any ops (L.setIfInBounds (n + 2) true) = [n]) &&
  (decide (Region.ready .any ops ((L.setIfInBounds n true).setIfInBounds (n + 1) true) = [n + 2]) && (decide (Region.ready .any ops ((L.setIfInBounds n true).setIfInBounds (n + 2) true) = [n + 1]) && (decide (Region.ready .any ops ((L.setIfInBounds (n + 2) true).setIfInBounds n true) = [n + 1]) &&
  (decide (((L.setIfInBounds n true).setIfInBounds (n + 2) true).setIfInBounds (n + 1) true = ((L.setIfInBounds n true).setIfInBounds (n + 1) true).setIfInBounds (n + 2) true) &&
  decide (((L.setIfInBounds (n + 2) true).setIfInBounds n true).setIfInBounds (n + 1) true = ((L.setIfInBounds n true).setIfInBounds (n + 1) true).setIfInBounds (n + 2) true)))))))

theorem wpAny_one {P : Program} {ops : Array Oper} {Q : Exit → Act → World → Prop} {r i : Nat} {L : Array Bool} {a : Act} {w : World} (hr : Region.ready .any ops L = [i]) (h : wpOp P ops Q i (wpAny P .any ops Q r (L.setIfInBounds i true)) a w) : wpAny P .any ops Q (r + 1) L a w := by
  refine ⟨fun h1 => (by rw [hr] at h1; cases h1), fun j hj => ?_⟩
  rw [hr] at hj
  have hj' : j = i := by simpa using hj
  subst hj'
  exact h
theorem wpAny_two {P : Program} {ops : Array Oper} {Q : Exit → Act → World → Prop} {r i k : Nat} {L : Array Bool} {a : Act} {w : World} (hr : Region.ready .any ops L = [i, k]) (h : wpOp P ops Q i (wpAny P .any ops Q r (L.setIfInBounds i true)) a w) (h' : wpOp P ops Q k (wpAny P .any ops Q r (L.setIfInBounds k true)) a w) : wpAny P .any ops Q (r + 1) L a w := by
  refine ⟨fun h1 => (by rw [hr] at h1; cases h1), fun j hj => ?_⟩
  rw [hr] at hj
  have hj' : j = i ∨ j = k := by simpa using hj
  rcases hj' with rfl | rfl
  · exact h
  · exact h'
theorem wpOp_of_list {P : Program} {ops : Array Oper} {Q Q' : Exit → Act → World → Prop} {i : Nat} {o : Oper} {rest : List Oper} {K : Act → World → Prop} {a : Act} {w : World} (ho : ops[i]? = some o) (hq : ∀ e a w, e ≠ .normal → Q' e a w → Q e a w)
    (hk : ∀ a w, wpList P ops Q' rest a w → K a w) (h : wpList P ops Q' (o :: rest) a w) : wpOp P ops Q i K a w := by
  have h1 : wpOp P ops Q' i (wpList P ops Q' rest) a w := by unfold wpOp; simp only [ho]; exact h
  exact wpOp_Q hq (wpOp_mono hk h1)

theorem wpOp_last {P : Program} {ops : Array Oper} {T : Act → World → Prop} {Q : Exit → Act → World → Prop} {i : Nat} {o : Oper} {K : Act → World → Prop} {a : Act} {w : World} (ho : ops[i]? = some o) (hT : ∀ a w, T a w → K a w) (h : wpList P ops (Then T Q) [o] a w) : wpOp P ops Q i K a w :=
  wpOp_of_list (rest := []) ho then_Q (fun a w k => hT a w k) h
theorem wpOp_more {P : Program} {ops : Array Oper} {T : Act → World → Prop} {Q : Exit → Act → World → Prop} {i : Nat} {o p : Oper} {rest : List Oper} {K : Act → World → Prop} {a : Act} {w : World} (ho : ops[i]? = some o) (hT : ∀ a w, wpList P ops (Then T Q) (p :: rest) a w → K a w) (h : wpList P ops (Then T Q) (o :: p :: rest) a w) : wpOp P ops Q i K a w :=
  wpOp_of_list (rest := p :: rest) ho then_Q hT h
theorem wpAny_dia {P : Program} {ops : Array Oper} {T : Act → World → Prop} {Q : Exit → Act → World → Prop} {r n : Nat} {L : Array Bool} {a : Act} {w : World} {x y z : Oper} (hx : ops[n]? = some x) (hy : ops[n + 1]? = some y) (hz : ops[n + 2]? = some z)
    (hD : diaB ops n L = true) (hT : ∀ a w, T a w → wpAny P .any ops Q r (((L.setIfInBounds n true).setIfInBounds (n + 1) true).setIfInBounds (n + 2) true) a w)
    (h1 : wpList P ops (Then (fun a w => wpList P ops (Then T Q) [y, z] a w ∧ wpList P ops (Then T Q) [z, y] a w) Q) [x] a w) (h3 : wpList P ops (Then T Q) [z, x, y] a w) : wpAny P .any ops Q (r + 3) L a w := by
  simp only [diaB, Bool.and_eq_true, decide_eq_true_eq] at hD
  obtain ⟨d1, d2, d3, d4, d5, d6, d7, d8⟩ := hD
  refine wpAny_two d1 ?_ ?_
  · refine wpOp_last hx (fun a w k => ?_) h1
    obtain ⟨k1, k2⟩ : wpList P ops (Then T Q) [y, z] a w ∧ wpList P ops (Then T Q) [z, y] a w := k
    exact wpAny_two d2 (wpOp_more hy (fun a w k => wpAny_one d4 (wpOp_last hz hT k)) k1)
      (wpOp_more hz (fun a w k => wpAny_one d5 (wpOp_last hy (fun a w k => by rw [d7]; exact hT a w k) k)) k2)
  · exact wpOp_more hz (fun a w k => wpAny_one d3 (wpOp_more hx (fun a w k => wpAny_one d6 (wpOp_last hy (fun a w k => by rw [d8]; exact hT a w k) k)) k)) h3

/-- What is left behind the three: it only reads. -/
def Quiets (P : Program) (l : List Oper) (m : Nat) (Q : Exit → Act → World → Prop) (a : Act) (w : World) : Prop :=
  wpQuiet P l.toArray (fun x => ∃ j, x = w.drewN j) (fun a' => ∀ x, (∃ j, x = w.drewN j) → Q .normal a' x) (l.drop m) a

theorem wp_region_dia {P : Program} {id : Nat} {Q : Exit → Act → World → Prop} {a : Act} {w : World} {l : List Oper} (n : Nat) (x y z : Oper) (hx : l[n]? = some x) (hy : l[n + 1]? = some y) (hz : l[n + 2]? = some z) (hm : P.follows .mixedOrders = true) (hs : Region.noSelect l.toArray = true)
    (hH : headB l.toArray (l.take n).length 0 (Array.replicate l.toArray.size false) = true) (hD : diaB l.toArray n (setAll (l.take n).length 0 (Array.replicate l.toArray.size false)) = true)
    (hL : Region.lexFrom .any l.toArray (l.drop (n + 3)).length (n + 3) ((((setAll (l.take n).length 0 (Array.replicate l.toArray.size false)).setIfInBounds n true).setIfInBounds (n + 1) true).setIfInBounds (n + 2) true) = true) (hn : n + 3 ≤ l.length)
    (h : wpList P l.toArray (Then (fun a' w' => wpList P l.toArray (Then (fun a w => wpList P l.toArray (Then (Quiets P l (n + 3) Q) Q) [y, z] a w ∧ wpList P l.toArray (Then (Quiets P l (n + 3) Q) Q) [z, y] a w) Q) [x] a' w' ∧ wpList P l.toArray (Then (Quiets P l (n + 3) Q) Q) [z, x, y] a' w') Q) (l.take n) a { w with drawn := w.drawn + 1 }) : (Code.region id l.toArray true).wp P Q a w := by
  have htl : (l.take n).length = n := by rw [List.length_take]; omega
  refine wp_region_any hm ?_
  have H := wpAny_head (Q := Q) (r := (l.drop (n + 3)).length + 3) (l.take n) 0 (Array.replicate l.toArray.size false) a { w with drawn := w.drawn + 1 } (fun j hj => by
    rw [htl] at hj
    simp [hj]) hH (fun a' w' h' => wpAny_dia (by simpa using hx) (by simpa using hy) (by simpa using hz) hD (fun a w hq => ?_) h'.1 h'.2) h
  · have e : (l.take n).length + ((l.drop (n + 3)).length + 3) = l.toArray.size := by rw [htl, List.length_drop]; simp; omega
    rw [e] at H
    exact H
  · refine wpAny_of_quiet (C := fun x => ∃ m, x = w.drewN m) (Q := fun a'' => ∀ x, (∃ m, x = w.drewN m) → Q .normal a'' x) (fun a w hw h => h w hw) _ _ _ _ ⟨0, rfl⟩ ?_
    exact wpAnyQ_lex hs (l.drop (n + 3)) (n + 3) _ _ (fun j => by simp [List.getElem?_drop]) hL hq

end Go.Proofs.Ytcfhfhpdnjaokaa
