/- Texts of one claim, joined in their order. -/
import Derived.Shelf.SlSortCmp.NoneTotal
import Derived.Shelf.SortM.Plain
import Derived.Shelf.SortM.SortNone
import Derived.Test.YtoahfhidekmodaaGreatDoorProg
import Derived.Sort.OwnSorted
import Derived.Maps.Ext
import Derived.Test.YtoahfhidekmodaaGreatDoorM5
import Derived.Test.YtoahfhidekmodaaGreatDoorM3

/- Walks: the laws' copies of stores, and whether they are the same. -/
namespace Go.Proofs.YtoahfhidekmodaaGreatDoor
open Go.RowKit Pth

/-- A store whose three lists are memory of the call's own, no two of them the same. -/
def StoreO (B : Nat) (w : World) (v : Value) (s : StoreT) : Prop := ∃ vf vs vg, v = .agg #[vf, vs, vg] ∧ w.ownsRow B 45 2 vf s.files.length (FC s.files) ∧ w.ownsRow B 45 2 vs s.staged.length (FC s.staged) ∧ w.ownsRow B 9 1 vg s.gone.length (S s.gone) ∧ ∀ k, vf.ownBlock = some k → vs.ownBlock ≠ some k
theorem StoreO.view {B : Nat} {w : World} {v : Value} {s : StoreT} (h : StoreO B w v s) : StoreV w v s := by
  obtain ⟨vf, vs, vg, hv, h1, h2, h3, _⟩ := h
  exact ⟨vf, vs, vg, hv, RowF.of_own h1, RowF.of_own h2, RowV.of_own h3⟩
theorem StoreO.below {B : Nat} {w w' : World} {v : Value} {s : StoreT} (h : StoreO B w v s) (hb : Below w.heap.size w w') : StoreO B w' v s := by
  obtain ⟨vf, vs, vg, hv, h1, h2, h3, h4⟩ := h
  exact ⟨vf, vs, vg, hv, own_belowG h1 hb, own_belowG h2 hb, own_belowG h3 hb, h4⟩
theorem StoreO.base {B B' : Nat} {w : World} {v : Value} {s : StoreT} (h : StoreO B w v s) (hB : B' ≤ B) : StoreO B' w v s := by
  obtain ⟨vf, vs, vg, hv, h1, h2, h3, h4⟩ := h
  exact ⟨vf, vs, vg, hv, own_baseG h1 hB, own_baseG h2 hB, own_baseG h3 hB, h4⟩
/-- Lists of other types lie in other blocks. -/
theorem own_types {w : World} {B B' e e' n n' z z' : Nat} {v v' : Value} {xs xs' : List Value} (h : w.ownsRow B e z v n xs) (h' : w.ownsRow B' e' z' v' n' xs') (hne : e ≠ e') : ∀ k, v.ownBlock = some k → v'.ownBlock ≠ some k := by
  intro k hk hk'
  rcases h.2 with ⟨hv, _⟩ | ⟨g, cap, cur, hv, _, hg, _⟩
  · rw [hv] at hk; simp [Value.ownBlock] at hk
  · rcases h'.2 with ⟨hv', _⟩ | ⟨g', cap', cur', hv', _, hg', _⟩
    · rw [hv'] at hk'; simp [Value.ownBlock] at hk'
    · rw [hv] at hk; rw [hv'] at hk'
      simp only [Value.ownBlock, Option.some.injEq] at hk hk'
      subst hk
      subst hk'
      rw [hg] at hg'
      simp at hg'
      exact hne hg'.2

/-- A block of three cells. -/
def Blk3 (w : World) (b t : Nat) (x y z : Value) : Prop := w.heap[b]? = some (.cells #[x, y, z] t (0, 0))
theorem Blk3.cells {w : World} {b t : Nat} {x y z : Value} (h : Blk3 w b t x y z) : w.cell? ⟨b, 0, none⟩ = some x ∧ w.cell? ⟨b, 1, none⟩ = some y ∧ w.cell? ⟨b, 2, none⟩ = some z := by
  refine ⟨?_, ?_, ?_⟩ <;> rw [cell_of_row w b _ _ t (0, 0) h] <;> rfl
theorem Blk3.soft {w : World} {b t : Nat} {x y z : Value} (h : Blk3 w b t x y z) (j : Nat) : w.frozen? ⟨b, j, none⟩ = false := frozen_of_row w b j _ t h
theorem Blk3.set0 {w : World} {b t : Nat} {x y z : Value} (h : Blk3 w b t x y z) (u : Value) : Blk3 (w.setCell ⟨b, 0, none⟩ u) b t u y z := heap_setCell_same w b 0 _ t u h
theorem Blk3.set1 {w : World} {b t : Nat} {x y z : Value} (h : Blk3 w b t x y z) (u : Value) : Blk3 (w.setCell ⟨b, 1, none⟩ u) b t x u z := heap_setCell_same w b 1 _ t u h
theorem Blk3.set2 {w : World} {b t : Nat} {x y z : Value} (h : Blk3 w b t x y z) (u : Value) : Blk3 (w.setCell ⟨b, 2, none⟩ u) b t x y u := heap_setCell_same w b 2 _ t u h
theorem Blk3.below {w w' : World} {B b t : Nat} {x y z : Value} (h : Blk3 w b t x y z) (hb : Below B w w') (hlt : b < B) : Blk3 w' b t x y z := (hb.block b hlt).trans h
theorem Blk3.new {w : World} {t : Nat} {x y z : Value} : Blk3 (w.alloc (.cells #[x, y, z] t)) w.heap.size t x y z := heap_alloc_new w _
theorem Blk3.old {w : World} {b t : Nat} {x y z : Value} (h : Blk3 w b t x y z) (o : Obj) : Blk3 (w.alloc o) b t x y z := (Below.heap_alloc w o b (lt_of_block h)).trans h
theorem own_set {w : World} {B e n z : Nat} {v : Value} {xs : List Value} (h : w.ownsRow B e z v n xs) {p : Addr} (hp : p.block < B) (u : Value) : (w.setCell p u).ownsRow B e z v n xs := by
  refine ⟨h.1, ?_⟩
  rcases h.2 with h0 | ⟨g, cap, cur, hv, hg, hh, r⟩
  · exact .inl h0
  · exact .inr ⟨g, cap, cur, hv, hg, (Below.heap_setCell w p u g (by omega)).trans hh, r⟩
/-- A list made later lies in another block. -/
theorem own_later {w w' : World} {B B' e e' n n' z z' : Nat} {v v' : Value} {xs xs' : List Value} (h : w.ownsRow B e z v n xs) (h' : w'.ownsRow B' e' z' v' n' xs') (hs : w.heap.size ≤ B') : ∀ k, v.ownBlock = some k → v'.ownBlock ≠ some k := by
  intro k hk hk'
  have h1 := (h.lt k hk).2
  have h2 := (h'.lt k hk').1
  omega

set_option maxRecDepth 20000 in
set_option maxHeartbeats 2000000 in
theorem toStore_any (s : StoreT) (v : Value) (w : World) (hst : StoreV w v s) (hl1 : s.files.length ≤ 2000000) (hl2 : s.staged.length ≤ 2000000) (hl3 : s.gone.length ≤ 2000000) :
    Calls Tryz.prog 34 #[v] w fun e w' => ∃ v', e = .returned v' ∧ StoreO w.heap.size w' v' s ∧ Below w.heap.size w w' := by
  obtain ⟨vf, vs, vg, rfl, h1, h2, h3⟩ := hst
  have H1 := Lib.hid h1
  have H2 := Lib.hid h2
  have H3 := Lib.hid h3
  obtain ⟨af, cf, rfl, hf1, hf2, _⟩ := h1.files
  obtain ⟨a2, cs, rfl, hs1, hs2, _⟩ := h2.files
  obtain ⟨ag, cg, rfl, hg1, hg2, _⟩ := h3.texts
  clear h1 h2 h3
  unfold maxLen at hf2 hs2 hg2
  obtain ⟨wa, hwa⟩ : ∃ wa, wa = ((w.alloc (.cells #[.slice af s.files.length cf, .slice a2 s.staged.length cs, .slice ag s.gone.length cg] 50)).alloc (.cells #[.slice none 0 0, .slice none 0 0, .slice none 0 0] 26)).alloc (.cells #[.slice none 0 0, .slice none 0 0, .slice none 0 0] 26) := ⟨_, rfl⟩
  have hsz : wa.heap.size = w.heap.size + 3 := by rw [hwa]; simp
  have P0 : Hid (Blk3 wa w.heap.size 50 (.slice af s.files.length cf) (.slice a2 s.staged.length cs) (.slice ag s.gone.length cg)) := by rw [hwa]; exact (Blk3.new.old _).old _
  have O0 : Hid (Blk3 wa (w.heap.size + 1 + 1) 26 (.slice none 0 0) (.slice none 0 0) (.slice none 0 0)) := by
    rw [hwa]
    have := Blk3.new (w := (w.alloc (.cells #[.slice af s.files.length cf, .slice a2 s.staged.length cs, .slice ag s.gone.length cg] 50)).alloc (.cells #[.slice none 0 0, .slice none 0 0, .slice none 0 0] 26)) (t := 26) (x := .slice none 0 0) (y := .slice none 0 0) (z := .slice none 0 0)
    simpa [Hid] using this
  have R0 : Hid (Blk3 wa (w.heap.size + 1) 26 (.slice none 0 0) (.slice none 0 0) (.slice none 0 0)) := by
    rw [hwa]
    have := Blk3.new (w := w.alloc (.cells #[.slice af s.files.length cf, .slice a2 s.staged.length cs, .slice ag s.gone.length cg] 50)) (t := 26) (x := .slice none 0 0) (y := .slice none 0 0) (z := .slice none 0 0)
    rw [show (w.alloc (.cells #[.slice af s.files.length cf, .slice a2 s.staged.length cs, .slice ag s.gone.length cg] 50)).heap.size = w.heap.size + 1 by simp] at this
    exact this.old _
  have HA : Hid (Below w.heap.size w wa) := by rw [hwa]; exact (((Below.refl w.heap.size w).alloc (Nat.le_refl _) _).alloc (by simp) _).alloc (by simp; omega) _
  have HWA := Lib.hid hwa
  clear hwa
  go_enter Tryz.func34, Tryz.ntmps34
  go_wp2_with fail
  rw [← HWA.out]
  refine (toFileS_any s.files _ wa (H1.out.below HA.out) hl1).mono ?_
  rintro e w1 ⟨v1, rfl, hn1, hb1⟩
  obtain ⟨b1, d1, rfl⟩ := own_sliceG hn1
  have HN1 := Lib.hid (own_set hn1 (p := ⟨w.heap.size + 1 + 1, 0, none⟩) (by show w.heap.size + 1 + 1 < _; omega) (.slice b1 s.files.length d1))
  have P1 := P0.out.below hb1 (by omega)
  have O1 := O0.out.below hb1 (by omega)
  have HA1 := Lib.hid (HA.out.trans (hb1.mono HA.out.size))
  have HX1 := Lib.hid (HA1.out.setCell (p := ⟨w.heap.size + 1 + 1, 0, none⟩) (by show w.heap.size ≤ w.heap.size + 1 + 1; omega) (.slice b1 s.files.length d1))
  have o0 := O1.cells.1
  have f0 := O1.soft 0
  have hs1 : wa.heap.size ≤ (w1.setCell ⟨w.heap.size + 1 + 1, 0, none⟩ (.slice b1 s.files.length d1)).heap.size := by have := hb1.size; simp; omega
  have P2 := Lib.hid (show Blk3 (w1.setCell ⟨w.heap.size + 1 + 1, 0, none⟩ (.slice b1 s.files.length d1)) w.heap.size _ _ _ _ from (Below.heap_setCell w1 ⟨w.heap.size + 1 + 1, 0, none⟩ (.slice b1 s.files.length d1) w.heap.size (by show w.heap.size ≠ w.heap.size + 1 + 1; omega)).trans P1)
  have O2 := Lib.hid (O1.set0 (.slice b1 s.files.length d1))
  have p1 := P2.out.cells.2.1
  have R2 := Lib.hid (show Blk3 (w1.setCell ⟨w.heap.size + 1 + 1, 0, none⟩ (.slice b1 s.files.length d1)) (w.heap.size + 1) _ _ _ _ from (Below.heap_setCell w1 ⟨w.heap.size + 1 + 1, 0, none⟩ (.slice b1 s.files.length d1) (w.heap.size + 1) (by show w.heap.size + 1 ≠ w.heap.size + 1 + 1; omega)).trans (R0.out.below hb1 (by omega)))
  clear hn1 hb1 P1 O1
  go_wp2_with fail
  clear o0 f0
  generalize w1.setCell ⟨w.heap.size + 1 + 1, 0, none⟩ (.slice b1 s.files.length d1) = x1 at *
  refine (toFileS_any s.staged _ x1 (H2.out.below HX1.out) hl2).mono ?_
  rintro e w2 ⟨v2, rfl, hn2, hb2⟩
  obtain ⟨b2, d2, rfl⟩ := own_sliceG hn2
  have HD2 := Lib.hid (own_later HN1.out hn2 (Nat.le_refl _))
  have HN2 := Lib.hid (own_set hn2 (p := ⟨w.heap.size + 1 + 1, 1, none⟩) (by show w.heap.size + 1 + 1 < _; omega) (.slice b2 s.staged.length d2))
  have HM2 := Lib.hid (own_set (own_belowG HN1.out hb2) (p := ⟨w.heap.size + 1 + 1, 1, none⟩) (by show w.heap.size + 1 + 1 < _; omega) (.slice b2 s.staged.length d2))
  have P3 := P2.out.below hb2 (by omega)
  have O3 := O2.out.below hb2 (by omega)
  have HA2 := Lib.hid (HX1.out.trans (hb2.mono HX1.out.size))
  have HX2 := Lib.hid (HA2.out.setCell (p := ⟨w.heap.size + 1 + 1, 1, none⟩) (by show w.heap.size ≤ w.heap.size + 1 + 1; omega) (.slice b2 s.staged.length d2))
  have o1 := O3.cells.2.1
  have f1 := O3.soft 1
  have hs2 : x1.heap.size ≤ (w2.setCell ⟨w.heap.size + 1 + 1, 1, none⟩ (.slice b2 s.staged.length d2)).heap.size := by have := hb2.size; simp; omega
  have P4 := Lib.hid (show Blk3 (w2.setCell ⟨w.heap.size + 1 + 1, 1, none⟩ (.slice b2 s.staged.length d2)) w.heap.size _ _ _ _ from (Below.heap_setCell w2 ⟨w.heap.size + 1 + 1, 1, none⟩ (.slice b2 s.staged.length d2) w.heap.size (by show w.heap.size ≠ w.heap.size + 1 + 1; omega)).trans P3)
  have O4 := Lib.hid (O3.set1 (.slice b2 s.staged.length d2))
  have p2 := P4.out.cells.2.2
  have R4 := Lib.hid (show Blk3 (w2.setCell ⟨w.heap.size + 1 + 1, 1, none⟩ (.slice b2 s.staged.length d2)) (w.heap.size + 1) _ _ _ _ from (Below.heap_setCell w2 ⟨w.heap.size + 1 + 1, 1, none⟩ (.slice b2 s.staged.length d2) (w.heap.size + 1) (by show w.heap.size + 1 ≠ w.heap.size + 1 + 1; omega)).trans (R2.out.below hb2 (by omega)))
  clear hn2 hb2 P3 O3 p1
  go_wp2_with fail
  clear o1 f1
  generalize w2.setCell ⟨w.heap.size + 1 + 1, 1, none⟩ (.slice b2 s.staged.length d2) = x2 at *
  refine (toStringS_any s.gone _ x2 (H3.out.below HX2.out) hl3).mono ?_
  rintro e w3 ⟨v3, rfl, hn3, hb3⟩
  obtain ⟨b3, d3, rfl⟩ := own_sliceG hn3
  have HN3 := Lib.hid (own_set hn3 (p := ⟨w.heap.size + 1 + 1, 2, none⟩) (by show w.heap.size + 1 + 1 < _; omega) (.slice b3 s.gone.length d3))
  have HM3 := Lib.hid (own_set (own_belowG HM2.out hb3) (p := ⟨w.heap.size + 1 + 1, 2, none⟩) (by show w.heap.size + 1 + 1 < _; omega) (.slice b3 s.gone.length d3))
  have HM4 := Lib.hid (own_set (own_belowG HN2.out hb3) (p := ⟨w.heap.size + 1 + 1, 2, none⟩) (by show w.heap.size + 1 + 1 < _; omega) (.slice b3 s.gone.length d3))
  have O5 := O4.out.below hb3 (by omega)
  have HA3 := Lib.hid (HX2.out.trans (hb3.mono HX2.out.size))
  have HX3 := Lib.hid (HA3.out.setCell (p := ⟨w.heap.size + 1 + 1, 2, none⟩) (by show w.heap.size ≤ w.heap.size + 1 + 1; omega) (.slice b3 s.gone.length d3))
  have o2 := O5.cells.2.2
  have f2 := O5.soft 2
  have O6 := Lib.hid (O5.set2 (.slice b3 s.gone.length d3))
  have r0 := O6.out.cells.1
  have r1 := O6.out.cells.2.1
  have r2 := O6.out.cells.2.2
  have R6 := Lib.hid (show Blk3 (w3.setCell ⟨w.heap.size + 1 + 1, 2, none⟩ (.slice b3 s.gone.length d3)) (w.heap.size + 1) _ _ _ _ from (Below.heap_setCell w3 ⟨w.heap.size + 1 + 1, 2, none⟩ (.slice b3 s.gone.length d3) (w.heap.size + 1) (by show w.heap.size + 1 ≠ w.heap.size + 1 + 1; omega)).trans (R4.out.below hb3 (by omega)))
  obtain ⟨k0, k1, k2⟩ := R6.out.cells
  have z0 := R6.out.soft 0
  have z1 := R6.out.soft 1
  have z2 := R6.out.soft 2
  clear hn3 hb3 O5 p2
  go_wp2_with fail
  have Z := ((R6.out.set0 (.slice b1 s.files.length d1)).set1 (.slice b2 s.staged.length d2)).set2 (.slice b3 s.gone.length d3)
  refine bodyPost_ret (results_cell rfl rfl (load_store Z.cells.1 Z.cells.2.1 Z.cells.2.2)) rfl ?_
  have e1 : w.heap.size ≤ wa.heap.size := by omega
  have e2 : w.heap.size ≤ x1.heap.size := by omega
  have e3 : w.heap.size ≤ x2.heap.size := by omega
  have q1 : w.heap.size + 1 < wa.heap.size := by omega
  have q2 : w.heap.size + 1 < x1.heap.size := by omega
  have q3 : w.heap.size + 1 < x2.heap.size := by omega
  refine ⟨_, rfl, ⟨_, _, _, rfl, own_baseG (own_set (own_set (own_set HM3.out (p := ⟨w.heap.size + 1, 0, none⟩) q1 _) (p := ⟨w.heap.size + 1, 1, none⟩) q1 _) (p := ⟨w.heap.size + 1, 2, none⟩) q1 _) e1, own_baseG (own_set (own_set (own_set HM4.out (p := ⟨w.heap.size + 1, 0, none⟩) q2 _) (p := ⟨w.heap.size + 1, 1, none⟩) q2 _) (p := ⟨w.heap.size + 1, 2, none⟩) q2 _) e2, own_baseG (own_set (own_set (own_set HN3.out (p := ⟨w.heap.size + 1, 0, none⟩) q3 _) (p := ⟨w.heap.size + 1, 1, none⟩) q3 _) (p := ⟨w.heap.size + 1, 2, none⟩) q3 _) e3, HD2.out⟩, ?_⟩
  exact ((HX3.out.setCell (p := ⟨w.heap.size + 1, 0, none⟩) (Nat.le_succ _) _).setCell (p := ⟨w.heap.size + 1, 1, none⟩) (Nat.le_succ _) _).setCell (p := ⟨w.heap.size + 1, 2, none⟩) (Nat.le_succ _) _

end Go.Proofs.YtoahfhidekmodaaGreatDoor

/- Walks: the program's files as they would be taken. -/
namespace Go.Proofs.YtoahfhidekmodaaGreatDoor
open Go.RowKit Go.Maps Pth

/-- A map of files is handed back, in a new block. -/
def MapNew (l : List FileT) (w : World) (e : Ending) (w' : World) : Prop := ∃ b n, e = .returned (.map (some b)) ∧ w.heap.size ≤ b ∧ n ≤ 5000 ∧ MapF w' b n l ∧ Below w.heap.size w w'

set_option maxRecDepth 20000 in
set_option maxHeartbeats 4000000 in
theorem bodiesTaken_any (s : StoreT) (v : Value) (w : World) (hst : StoreV w v s) (hx : Fits s) (hr : RiseF s.files) (hl1 : s.files.length ≤ 1000) (hl2 : s.staged.length ≤ 1000) :
    Calls Tryz.prog 50 #[v] w (MapNew (takenF s) w) := by
  obtain ⟨vf, vs, vg, rfl, h1, h2, h3⟩ := hst
  have H1 := Lib.hid h1
  obtain ⟨af, cf, rfl, hf1, hf2, _⟩ := h1.files
  obtain ⟨a2, cs, rfl, hs1, hs2, hat2⟩ := h2.files
  obtain ⟨ag, cg, rfl, hg1, hg2, hat3⟩ := h3.texts
  clear h1 h2 h3
  unfold maxLen at hf2 hs2 hg2
  obtain ⟨hx1, hx2, hx3⟩ := hx
  have HX2 := Lib.hid hx2
  have HX3 := Lib.hid hx3
  obtain ⟨wa, hwa⟩ : ∃ wa, wa = w.alloc (.cells #[.slice af s.files.length cf, .slice a2 s.staged.length cs, .slice ag s.gone.length cg] 26) := ⟨_, rfl⟩
  have hsz : wa.heap.size = w.heap.size + 1 := by rw [hwa]; simp
  have P0 : Hid (Blk3 wa w.heap.size 26 (.slice af s.files.length cf) (.slice a2 s.staged.length cs) (.slice ag s.gone.length cg)) := by rw [hwa]; exact Blk3.new
  have HA : Hid (Below w.heap.size w wa) := by rw [hwa]; exact (Below.refl w.heap.size w).alloc (Nat.le_refl _) _
  have HF := Lib.hid (bodiesOf_any s.files (.slice af s.files.length cf) wa (H1.out.below HA.out) hx1 hl1)
  have e0 : s.files.foldl putF [] = s.files := by
    have := fill_is hr s.files.length
    rwa [List.take_of_length_le (Nat.le_refl _)] at this
  rw [e0] at HF
  have HT : Hid (takenF s = s.gone.foldl dropF (s.staged.foldl putF s.files)) := rfl
  rw [HT.out]
  clear HT hx1 hx2 hx3 e0 hr
  obtain ⟨c0, c1, c2⟩ := P0.out.cells
  have HWA := Lib.hid hwa
  clear hwa
  go_enter Tryz.func50, Tryz.ntmps50
  go_wp2_with fail
  rw [← HWA.out]
  refine HF.out.mono ?_
  rintro e w1 ⟨rfl, hm1, hb1⟩
  have HM1 := Lib.hid hm1
  have HB1 := Lib.hid (HA.out.trans (hb1.mono HA.out.size))
  have hlt0 : w.heap.size < wa.heap.size := by omega
  have P1 := Lib.hid (P0.out.below hb1 hlt0)
  obtain ⟨d0, d1, d2⟩ := P1.out.cells
  clear hm1 hb1 HF P0 HWA c0 c1 c2
  generalize hbm : wa.heap.size = bm at HM1
  have hbm1 : w.heap.size < bm := by omega
  clear HA hsz hlt0 hbm
  go_wp2_with fail
  go_loopw [14] (fun i wr => ∃ k : Nat, k ≤ s.staged.length ∧ i = .int .i64 k ∧ Hid (MapF wr bm (s.files.length + k) ((s.staged.take k).foldl putF s.files)) ∧ Hid (Below w.heap.size w wr) ∧ Hid (Blk3 wr w.heap.size 26 (.slice af s.files.length cf) (.slice a2 s.staged.length cs) (.slice ag s.gone.length cg))) (fun i _ => s.staged.length - (intOf i).toNat)
  case atStart => exact ⟨0, Nat.zero_le _, rfl, HM1, HB1, P1⟩
  case round =>
    clear HM1 HB1 P1 d0 d1 d2
    obtain ⟨k, hk, rfl, HN, HB, HP⟩ := hrel
    have hbs := HB.out.size
    by_cases hlt : k < s.staged.length
    · obtain ⟨g, o, rfl, hg, hcell1, hcell2⟩ := hat2 k hlt
      have hc1' : wr.cell? ⟨g, o + k * 2, none⟩ = some (.string ⟨(s.staged[k]).1.toArray⟩) := by rw [HB.out.cell (p := ⟨g, o + k * 2, none⟩) hg]; exact hcell1
      have hc2' : wr.cell? ⟨g, o + k * 2 + 1, none⟩ = some (.string ⟨(s.staged[k]).2.toArray⟩) := by rw [HB.out.cell (p := ⟨g, o + k * 2 + 1, none⟩) hg]; exact hcell2
      have HXL := Lib.hid (HX2.out s.staged[k] (List.getElem_mem hlt))
      have HT := Lib.hid (fold_next hlt s.files)
      generalize (s.staged.take k).foldl putF s.files = acc at HN HT
      clear hcell1 hcell2 hat2 hat3 HX2 HX3
      generalize s.staged[k].1 = x at hc1' HT HXL
      generalize s.staged[k].2 = y at hc2' HT HXL
      have HBA := Lib.hid (HB.out.alloc hbs (.cells #[.string ⟨x.toArray⟩, .string ⟨y.toArray⟩] 45))
      have HNA := Lib.hid (HN.out.alloc (.cells #[.string ⟨x.toArray⟩, .string ⟨y.toArray⟩] 45))
      have HPA := Lib.hid (HP.out.old (.cells #[.string ⟨x.toArray⟩, .string ⟨y.toArray⟩] 45))
      go_wp2_with (at_mapUpdate; refine wpPutF _ rfl _ _ _ rfl bm (s.files.length + k) acc rfl HNA.out (by omega) x y rfl rfl HXL.out.1 HXL.out.2 ?_; intro w2 hm2 hg2; have HN2 := Lib.hid hm2; have HB2 := Lib.hid (HBA.out.grown hg2 HBA.out.size (fun j hj => by cases hj; omega)); have HP2 := Lib.hid ((hg2.block w.heap.size (lt_of_block HPA.out) (by simp; omega)).trans HPA.out); clear hm2 hg2)
      rw [← HT.out] at HN2
      go_roundw
      case rel => exact ⟨k + 1, by omega, by go_num, HN2, HB2, HP2⟩
      case measure => simp [intOf]; omega
    · obtain rfl : k = s.staged.length := by omega
      have HN1 : Hid (MapF wr bm (s.files.length + s.staged.length) (s.staged.foldl putF s.files)) := by
        have := HN.out
        rw [List.take_of_length_le (Nat.le_refl _)] at this
        exact this
      obtain ⟨d0, d1, d2⟩ := HP.out.cells
      clear HN hat2 HX2
      generalize hac : s.staged.foldl putF s.files = acc0 at HN1
      have HAC := Lib.hid hac
      clear hac
      go_wp2_with fail
      go_loopw [27] (fun i wr => ∃ k : Nat, k ≤ s.gone.length ∧ i = .int .i64 k ∧ Hid (MapF wr bm (s.files.length + s.staged.length) ((s.gone.take k).foldl dropF acc0)) ∧ Hid (Below w.heap.size w wr)) (fun i _ => s.gone.length - (intOf i).toNat)
      case atStart => exact ⟨0, Nat.zero_le _, rfl, HN1, HB⟩
      case round =>
        clear HN1 HB HP d0 d1 d2 hbs
        obtain ⟨k, hk, rfl, HN, HB⟩ := hrel
        have hbs := HB.out.size
        by_cases hlt : k < s.gone.length
        · obtain ⟨g, o, rfl, hg, hcell1⟩ := hat3 k hlt
          have hc1' : wr.cell? ⟨g, o + k, none⟩ = some (.string ⟨(s.gone[k]).toArray⟩) := by rw [HB.out.cell (p := ⟨g, o + k, none⟩) hg]; exact hcell1
          have HXL := Lib.hid (HX3.out s.gone[k] (List.getElem_mem hlt))
          have HT := Lib.hid (fold_nextN hlt acc0)
          generalize (s.gone.take k).foldl dropF acc0 = acc at HN HT
          clear hcell1 hat3 HX3
          generalize s.gone[k] = x at hc1' HT HXL
          go_wp2_with (at_delete; refine wpDelF _ rfl _ _ rfl bm (s.files.length + s.staged.length) acc rfl HN.out x rfl HXL.out ?_; intro w2 hm2 hg2; have HN2 := Lib.hid hm2; have HB2 := Lib.hid (HB.out.grown hg2 HB.out.size (fun j hj => by cases hj; omega)); clear hm2 hg2)
          rw [← HT.out] at HN2
          go_roundw
          case rel => exact ⟨k + 1, by omega, by go_num, HN2, HB2⟩
          case measure => simp [intOf]; omega
        · obtain rfl : k = s.gone.length := by omega
          have HN2 : Hid (MapF wr bm (s.files.length + s.staged.length) (s.gone.foldl dropF acc0)) := by
            have := HN.out
            rw [List.take_of_length_le (Nat.le_refl _)] at this
            exact this
          clear HN hat3 HX3
          go_wp2_with fail
          go_ret
          exact ⟨bm, s.files.length + s.staged.length, rfl, by omega, by omega, by rw [HAC.out]; exact HN2.out, HB.out⟩

end Go.Proofs.YtoahfhidekmodaaGreatDoor

/- The library's sort at this program: each field is a fact of the loaded program. -/
namespace Go.Proofs
open Go.Shelf
def Tryz.sortF_ren : Go.Shelf.Ren := ⟨fun | 6 => 78 | 15 => 90 | 14 => 89 | 28 => 106 | 29 => 107 | 20 => 98 | 21 => 99 | 22 => 100 | 23 => 101 | 24 => 102 | 25 => 103 | 26 => 104 | 27 => 105 | 46 => 122 | 47 => 123 | 48 => 124 | 49 => 125 | 50 => 126 | 57 => 140 | n => n, fun | 22 => 23 | 24 => 45 | 25 => 93 | 3 => 3 | 39 => 100 | 0 => 0 | 53 => 120 | 55 => 58 | 4 => 4 | 46 => 113 | 45 => 112 | 50 => 117 | 5 => 5 | 9 => 9 | 66 => 134 | 70 => 138 | 76 => 155 | 77 => 156 | n => n, fun | n => n⟩
theorem Tryz.sortF : Go.Proofs.SlLaysF0.n6 Tryz.prog Tryz.sortF_ren := {
  mixed := by kernel_rfl
  f6 := ⟨Tryz.f78.name, by decide, Tryz.func78.trans (congrArg some (by kernel_rfl))⟩
  f14 := ⟨Tryz.f89.name, by decide, Tryz.func89.trans (congrArg some (by kernel_rfl))⟩
  f15 := Tryz.func90.trans (congrArg some (by kernel_rfl))
  f20 := ⟨Tryz.f98.name, by decide, Tryz.func98.trans (congrArg some (by kernel_rfl))⟩
  f21 := ⟨Tryz.f99.name, by decide, Tryz.func99.trans (congrArg some (by kernel_rfl))⟩
  f22 := ⟨Tryz.f100.name, by decide, Tryz.func100.trans (congrArg some (by kernel_rfl))⟩
  f23 := ⟨Tryz.f101.name, by decide, Tryz.func101.trans (congrArg some (by kernel_rfl))⟩
  f24 := ⟨Tryz.f102.name, by decide, Tryz.func102.trans (congrArg some (by kernel_rfl))⟩
  f25 := ⟨Tryz.f103.name, by decide, Tryz.func103.trans (congrArg some (by kernel_rfl))⟩
  f26 := ⟨Tryz.f104.name, by decide, Tryz.func104.trans (congrArg some (by kernel_rfl))⟩
  f27 := ⟨Tryz.f105.name, by decide, Tryz.func105.trans (congrArg some (by kernel_rfl))⟩
  f28 := Tryz.func106.trans (congrArg some (by kernel_rfl))
  f29 := Tryz.func107.trans (congrArg some (by kernel_rfl))
  f46 := ⟨Tryz.f122.name, by decide, Tryz.func122.trans (congrArg some (by kernel_rfl))⟩
  f47 := Tryz.func123.trans (congrArg some (by kernel_rfl))
  f48 := Tryz.func124.trans (congrArg some (by kernel_rfl))
  f49 := ⟨Tryz.f125.name, by decide, Tryz.func125.trans (congrArg some (by kernel_rfl))⟩
  f50 := ⟨Tryz.f126.name, by decide, Tryz.func126.trans (congrArg some (by kernel_rfl))⟩
  f57 := ⟨Tryz.f140.name, by decide, Tryz.func140.trans (congrArg some (by kernel_rfl))⟩
  t0 := Tryz.underlying0
  a0 := Tryz.isAgg0
  z0 := Tryz.sizeOf0
  v0 := Tryz.zeroValue0
  t3 := Tryz.underlying3
  a3 := Tryz.isAgg3
  z3 := Tryz.sizeOf3
  v3 := Tryz.zeroValue3
  t4 := Tryz.underlying4
  a4 := Tryz.isAgg4
  z4 := Tryz.sizeOf4
  v4 := Tryz.zeroValue4
  t5 := Tryz.underlying5
  a5 := Tryz.isAgg5
  z5 := Tryz.sizeOf5
  v5 := Tryz.zeroValue5
  t9 := Tryz.underlying9
  a9 := Tryz.isAgg9
  z9 := Tryz.sizeOf9
  v9 := Tryz.zeroValue9
  t22 := Tryz.underlying23
  a22 := Tryz.isAgg23
  z22 := Tryz.sizeOf23
  v22 := Tryz.zeroValue23
  t25 := Tryz.underlying93
  a25 := Tryz.isAgg93
  z25 := Tryz.sizeOf93
  v25 := Tryz.zeroValue93
  t39 := Tryz.underlying100
  a39 := Tryz.isAgg100
  z39 := Tryz.sizeOf100
  v39 := Tryz.zeroValue100
  t45 := Tryz.underlying112
  a45 := Tryz.isAgg112
  z45 := Tryz.sizeOf112
  v45 := Tryz.zeroValue112
  t46 := Tryz.underlying113
  a46 := Tryz.isAgg113
  z46 := Tryz.sizeOf113
  v46 := Tryz.zeroValue113
  t50 := Tryz.underlying117
  a50 := Tryz.isAgg117
  z50 := Tryz.sizeOf117
  v50 := Tryz.zeroValue117
  t53 := Tryz.underlying120
  a53 := Tryz.isAgg120
  z53 := Tryz.sizeOf120
  v53 := Tryz.zeroValue120
  t55 := Tryz.underlying58
  a55 := Tryz.isAgg58
  z55 := Tryz.sizeOf58
  v55 := Tryz.zeroValue58
  t66 := Tryz.underlying134
  a66 := Tryz.isAgg134
  z66 := Tryz.sizeOf134
  v66 := Tryz.zeroValue134
  t70 := Tryz.underlying138
  a70 := Tryz.isAgg138
  z70 := Tryz.sizeOf138
  v70 := Tryz.zeroValue138
  t76 := Tryz.underlying155
  a76 := Tryz.isAgg155
  z76 := Tryz.sizeOf155
  v76 := Tryz.zeroValue155
  t77 := Tryz.underlying156
  a77 := Tryz.isAgg156
  z77 := Tryz.sizeOf156
  v77 := Tryz.zeroValue156 }
def Tryz.sortS_ren : Go.Shelf.Ren := ⟨fun | 6 => 87 | 8 => 90 | 9 => 96 | 19 => 106 | 20 => 107 | 21 => 110 | 22 => 111 | 23 => 112 | 24 => 113 | 25 => 114 | 26 => 115 | 27 => 116 | 28 => 117 | 29 => 118 | 36 => 128 | 31 => 123 | 32 => 124 | 37 => 129 | 38 => 130 | 39 => 131 | 41 => 141 | n => n, fun | 27 => 24 | 29 => 9 | 3 => 3 | 32 => 100 | 26 => 24 | 0 => 0 | 44 => 120 | 46 => 58 | 4 => 4 | 36 => 113 | 35 => 112 | 41 => 117 | 5 => 5 | 9 => 9 | 53 => 134 | 57 => 138 | 63 => 155 | 64 => 156 | n => n, fun | n => n⟩
theorem Tryz.sortS : Go.Proofs.SlLaysM.n6 Tryz.prog Tryz.sortS_ren := {
  mixed := by kernel_rfl
  f6 := ⟨Tryz.f87.name, by decide, Tryz.func87.trans (congrArg some (by kernel_rfl))⟩
  f8 := Tryz.func90.trans (congrArg some (by kernel_rfl))
  f9 := ⟨Tryz.f96.name, by decide, Tryz.func96.trans (congrArg some (by kernel_rfl))⟩
  f19 := Tryz.func106.trans (congrArg some (by kernel_rfl))
  f20 := Tryz.func107.trans (congrArg some (by kernel_rfl))
  f21 := ⟨Tryz.f110.name, by decide, Tryz.func110.trans (congrArg some (by kernel_rfl))⟩
  f22 := ⟨Tryz.f111.name, by decide, Tryz.func111.trans (congrArg some (by kernel_rfl))⟩
  f23 := ⟨Tryz.f112.name, by decide, Tryz.func112.trans (congrArg some (by kernel_rfl))⟩
  f24 := ⟨Tryz.f113.name, by decide, Tryz.func113.trans (congrArg some (by kernel_rfl))⟩
  f25 := ⟨Tryz.f114.name, by decide, Tryz.func114.trans (congrArg some (by kernel_rfl))⟩
  f26 := ⟨Tryz.f115.name, by decide, Tryz.func115.trans (congrArg some (by kernel_rfl))⟩
  f27 := ⟨Tryz.f116.name, by decide, Tryz.func116.trans (congrArg some (by kernel_rfl))⟩
  f28 := ⟨Tryz.f117.name, by decide, Tryz.func117.trans (congrArg some (by kernel_rfl))⟩
  f29 := ⟨Tryz.f118.name, by decide, Tryz.func118.trans (congrArg some (by kernel_rfl))⟩
  f31 := Tryz.func123.trans (congrArg some (by kernel_rfl))
  f32 := Tryz.func124.trans (congrArg some (by kernel_rfl))
  f36 := ⟨Tryz.f128.name, by decide, Tryz.func128.trans (congrArg some (by kernel_rfl))⟩
  f37 := ⟨Tryz.f129.name, by decide, Tryz.func129.trans (congrArg some (by kernel_rfl))⟩
  f38 := ⟨Tryz.f130.name, by decide, Tryz.func130.trans (congrArg some (by kernel_rfl))⟩
  f39 := ⟨Tryz.f131.name, by decide, Tryz.func131.trans (congrArg some (by kernel_rfl))⟩
  f41 := ⟨Tryz.f141.name, by decide, Tryz.func141.trans (congrArg some (by kernel_rfl))⟩
  t0 := Tryz.underlying0
  a0 := Tryz.isAgg0
  z0 := Tryz.sizeOf0
  v0 := Tryz.zeroValue0
  t3 := Tryz.underlying3
  a3 := Tryz.isAgg3
  z3 := Tryz.sizeOf3
  v3 := Tryz.zeroValue3
  t4 := Tryz.underlying4
  a4 := Tryz.isAgg4
  z4 := Tryz.sizeOf4
  v4 := Tryz.zeroValue4
  t5 := Tryz.underlying5
  a5 := Tryz.isAgg5
  z5 := Tryz.sizeOf5
  v5 := Tryz.zeroValue5
  t9 := Tryz.underlying9
  a9 := Tryz.isAgg9
  z9 := Tryz.sizeOf9
  v9 := Tryz.zeroValue9
  t26 := Tryz.underlying24
  a26 := Tryz.isAgg24
  z26 := Tryz.sizeOf24
  v26 := Tryz.zeroValue24
  t27 := Tryz.underlying24
  a27 := Tryz.isAgg24
  z27 := Tryz.sizeOf24
  v27 := Tryz.zeroValue24
  t29 := Tryz.underlying9
  a29 := Tryz.isAgg9
  z29 := Tryz.sizeOf9
  v29 := Tryz.zeroValue9
  t32 := Tryz.underlying100
  a32 := Tryz.isAgg100
  z32 := Tryz.sizeOf100
  v32 := Tryz.zeroValue100
  t35 := Tryz.underlying112
  a35 := Tryz.isAgg112
  z35 := Tryz.sizeOf112
  v35 := Tryz.zeroValue112
  t36 := Tryz.underlying113
  a36 := Tryz.isAgg113
  z36 := Tryz.sizeOf113
  v36 := Tryz.zeroValue113
  t41 := Tryz.underlying117
  a41 := Tryz.isAgg117
  z41 := Tryz.sizeOf117
  v41 := Tryz.zeroValue117
  t44 := Tryz.underlying120
  a44 := Tryz.isAgg120
  z44 := Tryz.sizeOf120
  v44 := Tryz.zeroValue120
  t46 := Tryz.underlying58
  a46 := Tryz.isAgg58
  z46 := Tryz.sizeOf58
  v46 := Tryz.zeroValue58
  t53 := Tryz.underlying134
  a53 := Tryz.isAgg134
  z53 := Tryz.sizeOf134
  v53 := Tryz.zeroValue134
  t57 := Tryz.underlying138
  a57 := Tryz.isAgg138
  z57 := Tryz.sizeOf138
  v57 := Tryz.zeroValue138
  t63 := Tryz.underlying155
  a63 := Tryz.isAgg155
  z63 := Tryz.sizeOf155
  v63 := Tryz.zeroValue155
  t64 := Tryz.underlying156
  a64 := Tryz.isAgg156
  z64 := Tryz.sizeOf156
  v64 := Tryz.zeroValue156 }
end Go.Proofs

/- Walks: the program's files of a map, sorted by name. -/
namespace Go.Proofs.YtoahfhidekmodaaGreatDoor
open Go.RowKit Go.Maps Go.Sort Go.Lib Pth

theorem cmp_lt (a b : List UInt8) : decide (Lib.compareBytes a b < 0) = ltT a b := by
  induction a generalizing b with
  | nil => cases b <;> rfl
  | cons x t ih =>
    cases b with
    | nil => rfl
    | cons y u =>
      rw [ltT_cons, Lib.compareBytes, ← ih u]
      by_cases h1 : x < y
      · rw [if_pos h1]; simp [h1]
      · rw [if_neg h1]
        by_cases h2 : y < x
        · rw [if_pos h2]
          have : ¬ x = y := fun e => by subst e; exact UInt8.lt_irrefl _ h2
          simp [h1, this]
        · rw [if_neg h2]
          have : x = y := UInt8.toNat_inj.1 (by have a1 : ¬ x.toNat < y.toNat := fun h => h1 (UInt8.lt_iff_toNat_lt.2 h); have a2 : ¬ y.toNat < x.toNat := fun h => h2 (UInt8.lt_iff_toNat_lt.2 h); omega)
          simp [this]
/-- How the program compares files. -/
def cmpF (a b : FileT) : Int := Lib.compareBytes a.1 b.1
theorem ltOf_cmp (a b : FileT) : ltOf cmpF a b = ltT a.1 b.1 := cmp_lt a.1 b.1
theorem swoF : SWO (ltOf cmpF) where
  irrefl x := by rw [ltOf_cmp]; exact ltT_irrefl _
  trans x y z h1 h2 := by rw [ltOf_cmp] at *; exact ltT_trans h1 h2
  ntrans x y z h1 h2 := by
    rw [ltOf_cmp] at *
    rcases h : ltT x.1 z.1 with _ | _
    · rfl
    · rcases ltT_total x.1 y.1 with h3 | h3 | h3
      · rw [h3] at h1; cases h1
      · rw [h3, h2] at h; cases h
      · rw [ltT_trans h3 h] at h2; cases h2

set_option maxHeartbeats 1000000 in
theorem compareNames_any (x y : FileT) (W : World) :
    Calls Tryz.prog 79 #[.agg #[.string ⟨x.1.toArray⟩, .string ⟨x.2.toArray⟩], .agg #[.string ⟨y.1.toArray⟩, .string ⟨y.2.toArray⟩]] W fun e w' => e = .returned (.int .i64 (cmpF x y)) ∧ ∃ q os', w' = grow (W.drewN q) os' := by
  have HC := Lib.hid (fun w' => Tryz.strings_Compare ⟨x.1.toArray⟩ ⟨y.1.toArray⟩ w')
  have HE : Hid (cmpF x y = Lib.compareBytes x.1 y.1) := rfl
  go_enter Tryz.func79, Tryz.ntmps79
  go_wp2_with fail
  refine (HC.out _).mono ?_
  rintro e w1 ⟨rfl, rfl⟩
  go_wp2_with fail
  go_ret
  exact ⟨by rw [HE.out]; rfl, 0, _, by rw [alloc_eq_grow, alloc_eq_grow, grow_grow]; rfl⟩
theorem cmpLaysF (blk off size : Nat) (w : World) : CmpLays Tryz.prog 79 #[] fileC 2 cmpF blk off size w := fun _ _ _ _ x y => compareNames_any x y _

theorem flat_FC (l : List FileT) : flatK fileC 2 l.toArray = (FC l).toArray := by
  refine ext_get! (by simp [FC_len]) fun t ht => ?_
  have ht' : t < l.length * 2 := by simpa using ht
  rw [get_flatK _ _ _ t (by simpa using ht')]
  have hi : t / 2 < l.length := by omega
  have e1 : l.toArray[t / 2]! = l[t / 2] := by simp [hi]
  have e2 : (FC l).toArray[t]! = (FC l)[t]'(by rw [FC_len]; exact ht') := by
    rw [getElem!_pos _ t (by simpa [FC_len] using ht')]
    simp
  rw [e1, e2]
  rcases Nat.mod_two_eq_zero_or_one t with e | e
  · have h2 : (FC l)[t]'(by rw [FC_len]; exact ht') = (FC l)[t / 2 * 2]'(by rw [FC_len]; omega) := by congr 1; omega
    rw [h2, FC_name hi, e]; rfl
  · have h2 : (FC l)[t]'(by rw [FC_len]; exact ht') = (FC l)[t / 2 * 2 + 1]'(by rw [FC_len]; omega) := by congr 1; omega
    rw [h2, FC_body hi, e]; rfl
theorem holds_own {w : World} {B e g cap n : Nat} {l : List FileT} (h : w.ownsRow B e 2 (.slice (some ⟨g, 0, none⟩) n cap) n (FC l)) : HoldsK fileC 2 w g 0 l.toArray := by
  unfold HoldsK
  rw [flat_FC]
  intro j hj
  have hj' : j < (FC l).length := by simpa using hj
  have hc := h.cellAt j (by have := h.1; omega)
  refine ⟨?_, by rw [Nat.zero_add]; exact h.frozenAt j⟩
  rw [Nat.zero_add, hc, List.getElem?_eq_getElem hj', getElem!_pos _ j (by simpa using hj')]
  simp
theorem heap_sortedK {w : World} {g n : Nat} {os : Array Obj} {cur : Array Value} {e : TypeId} {fr : Nat × Nat} (F : Array Value) (hb : w.heap[g]? = some (.cells cur e fr)) :
    (grow (putRow id (Sort.ahead w n) g 0 F) os).heap[g]? = some (.cells (putCells id 0 F cur) e fr) := by
  have hg : g < w.heap.size := (Array.getElem?_eq_some_iff.1 hb).1
  rw [heap_grow_old _ _ (by simpa using hg)]
  simp [putRow, mapBlock, Sort.ahead, Array.getElem?_modify, hb, onCells]
theorem grownBy_sortedK {w : World} {g n : Nat} {os : Array Obj} (F : Array Value) : w.grownBy (grow (putRow id (Sort.ahead w n) g 0 F) os) (some g) := by
  refine ⟨rfl, rfl, rfl, by simp, fun k hk hne => ?_⟩
  rw [heap_grow_old _ _ (by simpa using hk)]
  have : g ≠ k := fun e => hne (by rw [e])
  simp [putRow, mapBlock, Sort.ahead, Array.getElem?_modify, this]
theorem take_putId (cur : Array Value) (xs : List Value) (h : xs.length ≤ cur.size) : (putCells id 0 xs.toArray cur).toList.take xs.length = xs := by
  apply List.ext_getElem?
  intro j
  by_cases hj : j < xs.length
  · rw [List.getElem?_take_of_lt hj, Array.getElem?_toList]
    simp [putCells, hj, show j < cur.size by omega]
  · rw [List.getElem?_take_eq_none (by omega), List.getElem?_eq_none (by omega)]
/-- Behind the sort the same slice owns the sorted files. -/
theorem own_sortedF {w : World} {B e g cap n : Nat} {os : Array Obj} {l l' : List FileT} (hl : l'.length = l.length) (h : w.ownsRow B e 2 (.slice (some ⟨g, 0, none⟩) l.length cap) l.length (FC l)) :
    (sortWorldK fileC 2 w g 0 n l'.toArray os).ownsRow B e 2 (.slice (some ⟨g, 0, none⟩) l.length cap) l.length (FC l') := by
  rcases h.2 with ⟨hv, _⟩ | ⟨g', cap', cur, hv, hB, hh, h1, h2, h3, h4⟩
  · cases hv
  · obtain ⟨rfl, rfl⟩ : g = g' ∧ cap = cap' := by injection hv with a b c; injection a with a; injection a with a; exact ⟨a, c⟩
    unfold sortWorldK putRowK
    rw [flat_FC]
    refine ⟨by rw [FC_len, hl], .inr ⟨g, cap, _, rfl, hB, heap_sortedK _ hh, h1, h2, by simp [putCells, h3], ?_⟩⟩
    have e1 : l.length * 2 = (FC l').length := by rw [FC_len, hl]
    rw [e1]
    exact take_putId cur (FC l') (by rw [← e1, h3]; omega)
theorem grown_sortedF {w : World} {g n : Nat} {os : Array Obj} (l' : List FileT) : w.grownBy (sortWorldK fileC 2 w g 0 n l'.toArray os) (some g) := by
  unfold sortWorldK putRowK
  exact grownBy_sortedK _
theorem sorted_list {l : List FileT} {d' : Array FileT} (hp : PermIn 0 l.toArray.size l.toArray d') (hs : SortedIn (ltOf cmpF) 0 l.toArray.size d') : d'.toList.Perm l ∧ d'.toList.Pairwise (fun a b => ltT b.1 a.1 = false) := by
  have h0 : d'.size = l.length := by simpa using hp.1
  constructor
  · have := hp.2.2
    rw [show (l.toArray.size) = d'.size by simpa using h0.symm, Array.extract_size] at this
    rw [show d'.size = l.toArray.size by simpa using h0, Array.extract_size] at this
    simpa using this
  · rw [List.pairwise_iff_getElem]
    intro i j hi hj hij
    have := hs i j (Nat.zero_le _) hij (by simpa [h0] using hj)
    rw [ltOf_cmp] at this
    rw [getElem!_pos _ j (by simpa using hj), getElem!_pos _ i (by simpa using hi)] at this
    simpa using this

/-- The sort, at files of a rising list in whatever order. -/
theorem sort_any (l acc : List FileT) (v : Value) (B : Nat) (w : World) (hown : w.ownsRow B 45 2 v acc.length (FC acc)) (hp : acc.Perm l) (hr : RiseF l) (hl : acc.length ≤ 1000000) (hB : B ≤ w.heap.size) :
    Calls Tryz.prog 78 #[v, .func (.func 79) #[] #[]] w fun e w' => e = .returned (.tuple #[]) ∧ w'.ownsRow B 45 2 v l.length (FC l) ∧ Below B w w' := by
  have eg : ∀ args w, (callFunc 79 args).run Tryz.prog w = .ok (.enter 79 args) w := enters_of Tryz.func79 (by kernel_rfl) rfl
  have hpl := hp.length_eq
  rcases hown.2 with ⟨hv, h0⟩ | ⟨g, cap, cur, hv, hBg, hh, h1, h2, h3, h4⟩
  · subst hv
    have h00 : acc = [] := List.eq_nil_of_length_eq_zero h0
    subst h00
    have hl0 : l = [] := List.Perm.nil_eq hp |>.symm
    subst hl0
    refine (AnyF.slices_SortFunc_none Tryz.sortF none 0 _ w).mono fun e w' ⟨he, hw⟩ => ?_
    subst hw
    exact ⟨he, hown, Below.refl _ _⟩
  · subst hv
    have hc := AnyQ.slices_SortFunc Tryz.sortF 2 Tryz.isAgg45 Tryz.sizeOf45 fileC (fun _ => rfl) (fun x v hv => by simp [fileC] at hv; rcases hv with rfl | rfl <;> rfl) cmpF swoF 79 #[] g 0 cap acc.toArray w eg (cmpLaysF g 0 _ w) (holds_own hown) (lt_of_block hh) (by simp; omega)
    have e0 : acc.toArray.size = acc.length := by simp
    rw [e0] at hc
    refine hc.mono ?_
    rintro e w' ⟨he, d', n, os, hpp, hss, rfl⟩
    obtain ⟨p1, p2⟩ := sorted_list (by rw [e0]; exact hpp) (by rw [e0]; exact hss)
    have hd : d'.toList = l := sorted_is (p1.trans hp) hr p2
    have hd2 : d' = l.toArray := by rw [← hd]
    subst hd2
    refine ⟨he, ?_, ?_⟩
    · have := own_sortedF (n := n) (os := os) hpl.symm hown
      rw [← hpl]
      exact this
    · exact (Below.refl B w).grown (grown_sortedF l) hB (fun k hk => by cases hk; exact hBg)

end Go.Proofs.YtoahfhidekmodaaGreatDoor

/- Walks: the program's files of a map. -/
namespace Go.Proofs.YtoahfhidekmodaaGreatDoor
open Go.RowKit Go.Maps Pth

theorem own_ne {w : World} {B e z n : Nat} {v : Value} {xs : List Value} (h : w.ownsRow B e z v n xs) {k : Nat} (hk : k < B) : some k ≠ v.ownBlock := fun e => by
  have := (h.lt k e.symm).1
  omega

set_option maxRecDepth 20000 in
set_option maxHeartbeats 4000000 in
theorem filesIn_any (l : List FileT) (b n : Nat) (w : World) (hm : MapF w b n l) (hl : l.length ≤ 5000) :
    Calls Tryz.prog 49 #[.map (some b)] w (FilesPost l w) := by
  have HM := Lib.hid hm
  have hb := hm.lt
  have HRI := Lib.hid hm.2
  clear hm
  go_enter Tryz.func49, Tryz.ntmps49
  go_wp2_with (at_range; refine wpRangeF _ rfl _ rfl b n l rfl HM.out ?_; intro w0 hrg0 hg0 hs0)
  go_frame
  have HR0 := Lib.hid hrg0
  have HB0 := Lib.hid ((Below.refl w.heap.size w).grown hg0 (Nat.le_refl _) (fun j hj => by cases hj))
  clear hrg0 hg0
  go_loopw [3] (fun v wr => ∃ (left : Lit → Bool) (cnt : Nat) (acc : List FileT), Hid (RangF wr b w.heap.size n l left cnt) ∧ Hid (wr.ownsRow (w.heap.size + 1) 45 2 v acc.length (FC acc)) ∧ Hid (CollF l left acc) ∧ acc.length + cnt ≤ l.length ∧ w.heap.size + 1 ≤ wr.heap.size ∧ Hid (Below w.heap.size w wr)) (fun _ wr => wr.rangeLeft b w.heap.size)
  case atStart => exact ⟨_, _, [], HR0, ⟨rfl, .inl ⟨rfl, rfl⟩⟩, CollF.start l, by simp, by omega, HB0⟩
  case round =>
    clear HR0 HB0 hs0
    obtain ⟨left, cnt, acc, HR, HN, HC, hcs, hsz, HB⟩ := hrel
    go_wp2_with (at_next; refine wpNextF _ rfl _ rfl b w.heap.size n l left cnt rfl HR.out ?_ ?_)
    · intro hc0 hl0
      have HS := Lib.hid (sort_any l acc u3 (w.heap.size + 1) wr HN.out (HC.out.perm HRI.out hl0) HRI.out (by omega) hsz)
      clear hl0 HC HR HN
      go_wp2_with fail
      refine HS.out.mono ?_
      rintro e w1 ⟨rfl, hown1, hb1⟩
      have HN1 := Lib.hid (own_baseG hown1 (Nat.le_succ _))
      have HB1 := Lib.hid (HB.out.trans (hb1.mono (Nat.le_succ _)))
      clear hown1 hb1 HS HB
      go_wp2_with fail
      go_ret
      exact ⟨_, rfl, HN1.out, HB1.out⟩
    · intro x c w1 cnt1 hmem hx hc hlx hrg1 hlt hg1 hs1 hen
      have HN1 := Lib.hid (HN.out.kept hg1 (.inr (own_ne HN.out (Nat.lt_succ_self _)).symm))
      have HB1 := Lib.hid (HB.out.grown hg1 HB.out.size (fun j hj => by cases hj; exact Nat.le_refl _))
      have HC1 := Lib.hid (HC.out.step HRI.out hmem hlx)
      have HR1 := Lib.hid hrg1
      have HSZ : Hid (w.heap.size + 1 ≤ w1.heap.size) := by show _ ≤ _; omega
      clear hmem hx hc hlx hrg1 hg1 hs1 HC HN HB
      go_wp2_with (at_builtin; refine wpAppOneG elemF rfl _ _ rfl (w.heap.size + 1) _ acc.length (FC acc) rfl HN1.out _ rfl rfl rfl (by intro u hu; simp at hu; rcases hu with rfl | rfl <;> rfl) (by omega) HSZ.out ?_; intro v2 w2 hown2 hg2; go_frame)
      have HN2 := Lib.hid (file_snoc hown2)
      have HR2 : Hid (RangF w2 b w.heap.size n l (fun z => left z && !z.sameKey (.string x)) cnt1) := ⟨HR1.out.1.kept hg2 (own_ne HN1.out (by omega)) (own_ne HN1.out (Nat.lt_succ_self _)), HR1.out.2⟩
      have HB2 := Lib.hid (HB1.out.trans ((below_ownG HN1.out hg2 HSZ.out).mono (Nat.le_succ _)))
      have hz2 : w.heap.size + 1 ≤ w2.heap.size := Nat.le_trans HSZ.out hg2.size
      have hml : wr.rangeLeft b w.heap.size = cnt := HR.out.1.left_eq
      have hml2 : w2.rangeLeft b w.heap.size = cnt1 := HR2.out.1.left_eq
      clear hown2 hg2
      go_roundw
      case rel => exact ⟨_, cnt1, acc ++ [(x, c)], HR2, HN2, HC1, by simp; omega, hz2, HB2⟩
      case measure => rw [hml, hml2]; exact hlt

end Go.Proofs.YtoahfhidekmodaaGreatDoor

/- Walks: the program's good stores. -/
namespace Go.Proofs.YtoahfhidekmodaaGreatDoor
open Go.RowKit Go.Maps Pth

theorem find_has (l : List FileT) (n : List UInt8) : findF l n = -1 ↔ hasF l n = false := by
  constructor
  · intro h
    have := find_miss h
    rw [hasF, List.any_eq_false]
    intro f hf
    simpa using this f hf
  · intro h
    rw [hasF, List.any_eq_false] at h
    exact find_none (fun f hf => by simpa using h f hf)
theorem good_rise {l : List FileT} (h : goodF l = true) : RiseF l := by
  rw [riseF_iff]
  rw [goodF_parts, Bool.and_eq_true, namesOk, Bool.and_eq_true] at h
  exact h.1.2
theorem goodS_parts (s : StoreT) : goodS s = (goodF s.files && (goodF s.staged && (decide (s.gone.length ≤ 12) && (namesOk s.gone && (s.gone.all (fun n => !hasF s.staged n) && goodF (takenF s)))))) := by
  have e : goneOk s = (namesOk s.gone && s.gone.all (fun n => !hasF s.staged n)) := by
    have e1 : s.gone.all (fun n => nameOk n && decide (findF s.staged n = -1)) = (s.gone.all nameOk && s.gone.all (fun n => !hasF s.staged n)) := by
      induction s.gone with
      | nil => rfl
      | cons n t ih =>
        rw [List.all_cons, List.all_cons, List.all_cons, ih]
        have : decide (findF s.staged n = -1) = !hasF s.staged n := by
          rcases h : hasF s.staged n with _ | _
          · exact decide_eq_true ((find_has _ _).2 h)
          · exact decide_eq_false (fun e => by rw [(find_has _ _).1 e] at h; cases h)
        rw [this]
        cases nameOk n <;> cases hasF s.staged n <;> simp
    rw [goneOk, namesOk, e1]
    cases s.gone.all nameOk <;> cases riseN s.gone <;> simp
  rw [goodS, e]
  cases namesOk s.gone <;> simp

theorem goodFiles_m {b : Bool} {l : List FileT} {v : Value} (hx : ∀ f ∈ l, f.1.length ≤ maxLen ∧ f.2.length ≤ maxLen) (h : goodF l = b) : ∀ w, RowF w v l → MaxAt w → Calls Tryz.prog 31 #[v] w (BoolPost b w) := fun w hr hm => by
  have := implGoodFiles_any l v w hr hx hm
  rwa [h] at this
theorem areNames_m {b : Bool} {l : List (List UInt8)} {v : Value} (hx : ∀ n ∈ l, n.length ≤ maxLen) (h : namesOk l = b) : ∀ w, RowV w v (S l) → MaxAt w → Calls Tryz.prog 48 #[v] w (BoolPost b w) := fun w hr hm => by
  have := areNames_any l v w hr hx hm
  rwa [h] at this
theorem taken_fits {s : StoreT} (hx : Fits s) : ∀ f ∈ takenF s, f.1.length ≤ maxLen ∧ f.2.length ≤ maxLen := fun f hf => by
  rcases mem_taken hf with h | h
  · exact hx.2.1 f h
  · exact hx.1 f h
theorem taken_len (s : StoreT) : (takenF s).length ≤ s.files.length + s.staged.length := by
  have h1 := foldl_put_len s.staged s.files
  have h2 : ∀ (g : List (List UInt8)) (m : List FileT), (g.foldl dropF m).length ≤ m.length := by
    intro g
    induction g with
    | nil => intro m; exact Nat.le_refl _
    | cons n t ih => intro m; exact Nat.le_trans (ih _) (dropF_len m n)
  exact Nat.le_trans (h2 _ _) h1

set_option maxRecDepth 20000 in
set_option maxHeartbeats 8000000 in
theorem implGoodStore_any (s : StoreT) (v : Value) (w : World) (hst : StoreV w v s) (hx : Fits s) (hm : MaxAt w) :
    Calls Tryz.prog 13 #[v] w (BoolPost (goodS s) w) := by
  have HST := Lib.hid hst
  have HFX := Lib.hid hx
  have HM := Lib.hid hm
  obtain ⟨vf, vs, vg, rfl, h1, h2, h3⟩ := hst
  have H1 := Lib.hid h1
  have H2 := Lib.hid h2
  have H3 := Lib.hid h3
  obtain ⟨af, cf, rfl, hf1, hf2, _⟩ := h1.files
  obtain ⟨a2, cs, rfl, hs1, hs2, _⟩ := h2.files
  obtain ⟨ag, cg, rfl, hg1, hg2, hat3⟩ := h3.texts
  clear h1 h2 h3 hm
  unfold maxLen at hf2 hs2 hg2
  obtain ⟨hx1, hx2, hx3⟩ := hx
  obtain ⟨wa, hwa⟩ : ∃ wa, wa = w.alloc (.cells #[.slice af s.files.length cf, .slice a2 s.staged.length cs, .slice ag s.gone.length cg] 26) := ⟨_, rfl⟩
  have hsz : wa.heap.size = w.heap.size + 1 := by rw [hwa]; simp
  have P0 : Hid (Blk3 wa w.heap.size 26 (.slice af s.files.length cf) (.slice a2 s.staged.length cs) (.slice ag s.gone.length cg)) := by rw [hwa]; exact Blk3.new
  have HA : Hid (Below w.heap.size w wa) := by rw [hwa]; exact (Below.refl w.heap.size w).alloc (Nat.le_refl _) _
  have HMA := Lib.hid (HM.out.below HA.out)
  have hlt0 : w.heap.size < wa.heap.size := by omega
  obtain ⟨c0, c1, c2⟩ := P0.out.cells
  have HWA := Lib.hid hwa
  clear hwa
  have HTP := Lib.hid (goodS_parts s)
  rcases e1 : goodF s.files with _ | _
  · have HT : Hid (goodS s = false) := by show _ = _; rw [HTP.out, e1]; rfl
    have HC := Lib.hid (goodFiles_m hx1 e1 wa (H1.out.below HA.out) HMA.out)
    clear hat3 hx1 hx2 hx3 e1 HTP
    go_enter Tryz.func13, Tryz.ntmps13
    go_wp2_with fail
    rw [← HWA.out]
    refine HC.out.mono ?_
    rintro e w1 ⟨rfl, hb1⟩
    have HB1 := Lib.hid (HA.out.trans (hb1.mono HA.out.size))
    clear hb1 HC
    go_wp2_with fail
    go_ret
    exact ⟨ret_bool HT.out.symm, HB1.out⟩
  · have HC1 := Lib.hid (goodFiles_m hx1 e1 wa (H1.out.below HA.out) HMA.out)
    rcases e2 : goodF s.staged with _ | _
    · have HT : Hid (goodS s = false) := by show _ = _; rw [HTP.out, e1, e2]; rfl
      have HC2 := Lib.hid (goodFiles_m (v := .slice a2 s.staged.length cs) hx2 e2)
      clear hat3 hx1 hx2 hx3 e1 e2 HTP
      go_enter Tryz.func13, Tryz.ntmps13
      go_wp2_with fail
      rw [← HWA.out]
      refine HC1.out.mono ?_
      rintro e w1 ⟨rfl, hb1⟩
      have HB1 := Lib.hid (HA.out.trans (hb1.mono HA.out.size))
      have P1 := Lib.hid (P0.out.below hb1 hlt0)
      obtain ⟨d0, d1, d2⟩ := P1.out.cells
      clear hb1 HC1 c0 c1 c2
      go_wp2_with fail
      refine (HC2.out w1 (H2.out.below HB1.out) (HM.out.below HB1.out)).mono ?_
      rintro e w2 ⟨rfl, hb2⟩
      have HB2 := Lib.hid (bth HB1.out hb2)
      clear hb2 HC2
      go_wp2_with fail
      go_ret
      exact ⟨ret_bool HT.out.symm, HB2.out⟩
    · have HC2 := Lib.hid (goodFiles_m (v := .slice a2 s.staged.length cs) hx2 e2)
      by_cases h12 : 12 < s.gone.length
      · have hd : decide ((s.gone.length : Int) > 12) = true := decide_eq_true (by omega)
        have HT : Hid (goodS s = false) := by show _ = _; rw [HTP.out, e1, e2, decide_eq_false (by omega : ¬ s.gone.length ≤ 12)]; rfl
        clear hat3 hx1 hx2 hx3 e1 e2 HTP
        go_enter Tryz.func13, Tryz.ntmps13
        go_wp2_with fail
        rw [← HWA.out]
        refine HC1.out.mono ?_
        rintro e w1 ⟨rfl, hb1⟩
        have HB1 := Lib.hid (HA.out.trans (hb1.mono HA.out.size))
        have P1 := Lib.hid (P0.out.below hb1 hlt0)
        have hlt1 : w.heap.size < w1.heap.size := Nat.lt_of_lt_of_le hlt0 hb1.size
        obtain ⟨d0, d1, d2⟩ := P1.out.cells
        clear hb1 HC1 c0 c1 c2
        go_wp2_with fail
        refine (HC2.out w1 (H2.out.below HB1.out) (HM.out.below HB1.out)).mono ?_
        rintro e w2 ⟨rfl, hb2⟩
        have HB2 := Lib.hid (bth HB1.out hb2)
        have P2 := Lib.hid (P1.out.below hb2 hlt1)
        clear hb2 HC2 d0 d1 d2
        obtain ⟨d0, d1, d2⟩ := P2.out.cells
        go_wp2_with fail
        go_ret
        exact ⟨ret_bool HT.out.symm, HB2.out⟩
      · have hd : decide ((s.gone.length : Int) > 12) = false := decide_eq_false (by omega)
        rcases e3 : namesOk s.gone with _ | _
        · have HT : Hid (goodS s = false) := by show _ = _; rw [HTP.out, e1, e2, e3]; simp
          have HC3 := Lib.hid (areNames_m (v := .slice ag s.gone.length cg) hx3 e3)
          clear hat3 hx1 hx2 hx3 e1 e2 e3 HTP
          go_enter Tryz.func13, Tryz.ntmps13
          go_wp2_with fail
          rw [← HWA.out]
          refine HC1.out.mono ?_
          rintro e w1 ⟨rfl, hb1⟩
          have HB1 := Lib.hid (HA.out.trans (hb1.mono HA.out.size))
          have P1 := Lib.hid (P0.out.below hb1 hlt0)
          have hlt1 : w.heap.size < w1.heap.size := Nat.lt_of_lt_of_le hlt0 hb1.size
          obtain ⟨d0, d1, d2⟩ := P1.out.cells
          clear hb1 HC1 c0 c1 c2
          go_wp2_with fail
          refine (HC2.out w1 (H2.out.below HB1.out) (HM.out.below HB1.out)).mono ?_
          rintro e w2 ⟨rfl, hb2⟩
          have HB2 := Lib.hid (bth HB1.out hb2)
          have P2 := Lib.hid (P1.out.below hb2 hlt1)
          clear hb2 HC2 d0 d1 d2
          obtain ⟨d0, d1, d2⟩ := P2.out.cells
          go_wp2_with fail
          refine (HC3.out w2 (H3.out.below HB2.out) (HM.out.below HB2.out)).mono ?_
          rintro e w3 ⟨rfl, hb3⟩
          have HB3 := Lib.hid (bth HB2.out hb3)
          clear hb3 HC3
          go_wp2_with fail
          go_ret
          exact ⟨ret_bool HT.out.symm, HB3.out⟩
        · have HT : Hid (goodS s = (s.gone.all (fun n => !hasF s.staged n) && goodF (takenF s))) := by show _ = _; rw [HTP.out, e1, e2, e3, decide_eq_true (by omega : s.gone.length ≤ 12)]; simp
          have HC3 := Lib.hid (areNames_m (v := .slice ag s.gone.length cg) hx3 e3)
          have hlf := good_len e1
          have hls := good_len e2
          have HR1 := Lib.hid (good_rise e1)
          have HR2 := Lib.hid (good_rise e2)
          have HX2 := Lib.hid hx2
          have HX3 := Lib.hid hx3
          clear hx1 hx2 hx3 e1 e2 e3 HTP
          go_enter Tryz.func13, Tryz.ntmps13
          go_wp2_with fail
          rw [← HWA.out]
          refine HC1.out.mono ?_
          rintro e w1 ⟨rfl, hb1⟩
          have HB1 := Lib.hid (HA.out.trans (hb1.mono HA.out.size))
          have P1 := Lib.hid (P0.out.below hb1 hlt0)
          have hlt1 : w.heap.size < w1.heap.size := Nat.lt_of_lt_of_le hlt0 hb1.size
          obtain ⟨d0, d1, d2⟩ := P1.out.cells
          clear hb1 HC1 c0 c1 c2
          go_wp2_with fail
          refine (HC2.out w1 (H2.out.below HB1.out) (HM.out.below HB1.out)).mono ?_
          rintro e w2 ⟨rfl, hb2⟩
          have HB2 := Lib.hid (bth HB1.out hb2)
          have P2 := Lib.hid (P1.out.below hb2 hlt1)
          have hlt2 : w.heap.size < w2.heap.size := Nat.lt_of_lt_of_le hlt1 hb2.size
          clear hb2 HC2 d0 d1 d2
          obtain ⟨d0, d1, d2⟩ := P2.out.cells
          go_wp2_with fail
          refine (HC3.out w2 (H3.out.below HB2.out) (HM.out.below HB2.out)).mono ?_
          rintro e w3 ⟨rfl, hb3⟩
          have HB3 := Lib.hid (bth HB2.out hb3)
          have P3 := Lib.hid (P2.out.below hb3 hlt2)
          have hlt3 : w.heap.size < w3.heap.size := Nat.lt_of_lt_of_le hlt2 hb3.size
          clear hb3 HC3 d0 d1 d2
          obtain ⟨d0, d1, d2⟩ := P3.out.cells
          have HC4 := Lib.hid (bodiesOf_any s.staged (.slice a2 s.staged.length cs) w3 (H2.out.below HB3.out) HX2.out (by omega))
          have e0 : s.staged.foldl putF [] = s.staged := by
            have := fill_is HR2.out s.staged.length
            rwa [List.take_of_length_le (Nat.le_refl _)] at this
          rw [e0] at HC4
          clear e0
          go_wp2_with fail
          refine HC4.out.mono ?_
          rintro e w4 ⟨rfl, hm4, hb4⟩
          have HB4 := Lib.hid (bth HB3.out hb4)
          have P4 := Lib.hid (P3.out.below hb4 hlt3)
          have hlt4 : w.heap.size < w4.heap.size := Nat.lt_of_lt_of_le hlt3 hb4.size
          have HM4 := Lib.hid hm4
          clear hm4 hb4 HC4 d0 d1 d2
          obtain ⟨d0, d1, d2⟩ := P4.out.cells
          generalize w3.heap.size = bm at HM4
          go_wp2_with fail
          go_loop [36] (fun i => ∃ k : Nat, k ≤ s.gone.length ∧ i = .int .i64 k ∧ Hid ((s.gone.take k).all (fun n => !hasF s.staged n) = true)) (fun i => s.gone.length - (intOf i).toNat)
          case atStart => exact ⟨0, Nat.zero_le _, rfl, by simp [Hid]⟩
          case round =>
            obtain ⟨k, hk, rfl, HO⟩ := hrel
            by_cases hlt : k < s.gone.length
            · obtain ⟨g, o, rfl, hg, hcell1⟩ := hat3 k hlt
              have hc1' : w4.cell? ⟨g, o + k, none⟩ = some (.string ⟨(s.gone[k]).toArray⟩) := by rw [HB4.out.cell (p := ⟨g, o + k, none⟩) hg]; exact hcell1
              have HXL := Lib.hid (HX3.out s.gone[k] (List.getElem_mem hlt))
              rcases eh : hasF s.staged s.gone[k] with _ | _
              · have HO2 : Hid ((s.gone.take (k + 1)).all (fun n => !hasF s.staged n) = true) := by
                  show _ = _
                  rw [List.take_succ_eq_append_getElem hlt, List.all_append, HO.out]; simp [eh]
                have HEH := Lib.hid eh
                clear hcell1 hat3 HO eh HT
                generalize s.gone[k] = x at hc1' HXL HEH
                go_wp2_with (at_lookup; refine wpLookF _ rfl _ _ rfl bm s.staged.length s.staged rfl HM4.out x rfl HXL.out ?_; rw [HEH.out])
                go_round
                case rel => exact ⟨k + 1, by omega, by go_num, HO2⟩
                case measure => simp [intOf]; omega
              · have HF2 : Hid (goodS s = false) := by
                  show _ = _
                  have : s.gone.all (fun n => !hasF s.staged n) = false := by
                    rw [List.all_eq_false]
                    exact ⟨s.gone[k], List.getElem_mem hlt, by simp [eh]⟩
                  rw [HT.out, this]; rfl
                have HEH := Lib.hid eh
                clear hcell1 hat3 HO eh HT
                generalize s.gone[k] = x at hc1' HXL HEH
                go_wp2_with (at_lookup; refine wpLookF _ rfl _ _ rfl bm s.staged.length s.staged rfl HM4.out x rfl HXL.out ?_; rw [HEH.out])
                go_ret
                exact ⟨ret_bool HF2.out.symm, HB4.out⟩
            · have HT2 : Hid (goodS s = goodF (takenF s)) := by
                have := HO.out
                rw [List.take_of_length_le (by omega)] at this
                show _ = _
                rw [HT.out, this]; rfl
              clear HO HT hat3
              have HC5 := Lib.hid (bodiesTaken_any s (.agg #[.slice af s.files.length cf, .slice a2 s.staged.length cs, .slice ag s.gone.length cg]) w4 (HST.out.below HB4.out) HFX.out HR1.out (by omega) (by omega))
              go_wp2_with fail
              refine HC5.out.mono ?_
              rintro e w5 ⟨b5, n5, rfl, _, _, hm5, hb5⟩
              have HB5 := Lib.hid (bth HB4.out hb5)
              have HC6 := Lib.hid (filesIn_any (takenF s) b5 n5 w5 hm5 (by have := taken_len s; omega))
              clear hm5 hb5 HC5
              go_wp2_with fail
              refine HC6.out.mono ?_
              rintro e w6 ⟨v6, rfl, hown6, hb6⟩
              have HB6 := Lib.hid (bth HB5.out hb6)
              have HC7 := Lib.hid (implGoodFiles_any (takenF s) v6 w6 (RowF.of_own hown6) (taken_fits HFX.out) (HM.out.below HB6.out))
              clear hown6 hb6 HC6
              go_wp2_with fail
              refine HC7.out.mono ?_
              rintro e w7 ⟨rfl, hb7⟩
              have HB7 := Lib.hid (bth HB6.out hb7)
              clear hb7 HC7
              go_wp2_with fail
              go_ret
              exact ⟨ret_bool HT2.out.symm, HB7.out⟩

end Go.Proofs.YtoahfhidekmodaaGreatDoor

/- Walks: files read, now and as they would be (the reference). -/
namespace Go.Proofs.YtoahfhidekmodaaGreatDoor
open Go.RowKit Pth

/-- A text and a bool are handed back. -/
def TextOk (t : List UInt8) (ok : Bool) (w : World) (e : Ending) (w' : World) : Prop := e = .returned (.tuple #[.string ⟨t.toArray⟩, .bool ok]) ∧ Below w.heap.size w w'
def bodyAt (l : List FileT) (k : Int) : List UInt8 := match l[k.toNat]? with | some f => f.2 | none => []
def readOk (s : StoreT) (n : List UInt8) : Bool := goodS s && decide (0 ≤ findF s.files n)
def readT (s : StoreT) (n : List UInt8) : List UInt8 := if readOk s n = true then bodyAt s.files (findF s.files n) else []
def seenOk (s : StoreT) (n : List UInt8) : Bool := goodS s && decide (0 ≤ findF (takenF s) n)
def seenT (s : StoreT) (n : List UInt8) : List UInt8 := if seenOk s n = true then bodyAt (takenF s) (findF (takenF s) n) else []
theorem body_at {l : List FileT} {k : Nat} (hk : k < l.length) : bodyAt l (k : Int) = l[k].2 := by
  have e : ((k : Int)).toNat = k := by omega
  rw [bodyAt, e, List.getElem?_eq_getElem hk]

set_option maxRecDepth 20000 in
set_option maxHeartbeats 4000000 in
theorem specRead_any (s : StoreT) (n : List UInt8) (v : Value) (w : World) (hst : StoreV w v s) (hx : Fits s) :
    Calls Tryz.prog 24 #[v, .string ⟨n.toArray⟩] w (TextOk (readT s n) (readOk s n) w) := by
  have HST := Lib.hid hst
  obtain ⟨vf, vs, vg, rfl, h1, h2, h3⟩ := hst
  have H1 := Lib.hid h1
  obtain ⟨af, cf, rfl, hf1, hf2, hatf⟩ := h1.files
  obtain ⟨a2, cs, rfl, hs1, hs2, _⟩ := h2.files
  obtain ⟨ag, cg, rfl, hg1, hg2, _⟩ := h3.texts
  clear h1 h2 h3
  have HF := Lib.hid (fun W hr => l3Find_any s.files n (.slice af s.files.length cf) W hr)
  have HG := Lib.hid (fun W hr => specGoodStore_any s (.agg #[.slice af s.files.length cf, .slice a2 s.staged.length cs, .slice ag s.gone.length cg]) W hr hx)
  clear hx
  unfold maxLen at hf2 hs2 hg2
  obtain ⟨wa, hwa⟩ : ∃ wa, wa = w.alloc (.cells #[.slice af s.files.length cf, .slice a2 s.staged.length cs, .slice ag s.gone.length cg] 26) := ⟨_, rfl⟩
  have c0 : wa.cell? ⟨w.heap.size, 0, none⟩ = some (.slice af s.files.length cf) := by rw [hwa]; simp
  have c1 : wa.cell? ⟨w.heap.size, 1, none⟩ = some (.slice a2 s.staged.length cs) := by rw [hwa]; simp
  have c2 : wa.cell? ⟨w.heap.size, 2, none⟩ = some (.slice ag s.gone.length cg) := by rw [hwa]; simp
  have HA : Hid (Below w.heap.size w wa) := by rw [hwa]; exact (Below.refl w.heap.size w).alloc (Nat.le_refl _) _
  have hsz : wa.heap.size = w.heap.size + 1 := by rw [hwa]; simp
  have HWA := Lib.hid hwa
  clear hwa
  have hfr := find_range s.files n
  rcases eg : goodS s with _ | _
  · have HT : Hid (readOk s n = false) := by rw [readOk, eg]; rfl
    have HT2 : Hid (readT s n = []) := by rw [readT, HT.out]; rfl
    rw [HT.out, HT2.out]
    rw [eg] at HG
    clear eg HT HT2 hatf
    generalize findF s.files n = fi at HF hfr
    go_enter Tryz.func24, Tryz.ntmps24
    go_wp2_with fail
    rw [← HWA.out]
    refine (HF.out wa (H1.out.below HA.out)).mono ?_
    rintro e w1 ⟨rfl, hb1⟩
    have HB1 := Lib.hid hb1
    clear hb1
    have d0 : w1.cell? ⟨w.heap.size, 0, none⟩ = some (.slice af s.files.length cf) := (HB1.out.cell (p := ⟨w.heap.size, 0, none⟩) (by show w.heap.size < wa.heap.size; omega)).trans c0
    have d1 : w1.cell? ⟨w.heap.size, 1, none⟩ = some (.slice a2 s.staged.length cs) := (HB1.out.cell (p := ⟨w.heap.size, 1, none⟩) (by show w.heap.size < wa.heap.size; omega)).trans c1
    have d2 : w1.cell? ⟨w.heap.size, 2, none⟩ = some (.slice ag s.gone.length cg) := (HB1.out.cell (p := ⟨w.heap.size, 2, none⟩) (by show w.heap.size < wa.heap.size; omega)).trans c2
    go_wp2_with fail
    refine (HG.out w1 (HST.out.below (HA.out.trans (HB1.out.mono HA.out.size)))).mono ?_
    rintro e w2 ⟨rfl, hb2⟩
    have HB2 := Lib.hid (HB1.out.trans (hb2.mono HB1.out.size))
    clear hb2
    go_wp2_with fail
    go_ret2
    exact ⟨rfl, HA.out.trans (HB2.out.mono HA.out.size)⟩
  · rw [eg] at HG
    by_cases ef : 0 ≤ findF s.files n
    · have HT : Hid (readOk s n = true) := by rw [readOk, eg, decide_eq_true ef]; rfl
      have HT2 : Hid (readT s n = bodyAt s.files (findF s.files n)) := by rw [readT, HT.out]; rfl
      rw [HT.out, HT2.out]
      obtain ⟨k, hkf⟩ : ∃ k : Nat, findF s.files n = k := ⟨(findF s.files n).toNat, by omega⟩
      rw [hkf] at HF hfr ⊢
      have hlt : k < s.files.length := by omega
      rw [body_at hlt]
      obtain ⟨g, o, rfl, hg, hcell1, hcell2⟩ := hatf k hlt
      have hkn : decide ((k : Int) < 0) = false := decide_eq_false (by omega)
      generalize s.files[k].2 = y at hcell2
      clear eg HT HT2 hatf ef hkf hcell1
      go_enter Tryz.func24, Tryz.ntmps24
      go_wp2_with fail
      rw [← HWA.out]
      refine (HF.out wa (H1.out.below HA.out)).mono ?_
      rintro e w1 ⟨rfl, hb1⟩
      have HB1 := Lib.hid hb1
      clear hb1
      have d0 : w1.cell? ⟨w.heap.size, 0, none⟩ = some (.slice (some ⟨g, o, none⟩) s.files.length cf) := (HB1.out.cell (p := ⟨w.heap.size, 0, none⟩) (by show w.heap.size < wa.heap.size; omega)).trans c0
      have d1 : w1.cell? ⟨w.heap.size, 1, none⟩ = some (.slice a2 s.staged.length cs) := (HB1.out.cell (p := ⟨w.heap.size, 1, none⟩) (by show w.heap.size < wa.heap.size; omega)).trans c1
      have d2 : w1.cell? ⟨w.heap.size, 2, none⟩ = some (.slice ag s.gone.length cg) := (HB1.out.cell (p := ⟨w.heap.size, 2, none⟩) (by show w.heap.size < wa.heap.size; omega)).trans c2
      go_wp2_with fail
      refine (HG.out w1 (HST.out.below (HA.out.trans (HB1.out.mono HA.out.size)))).mono ?_
      rintro e w2 ⟨rfl, hb2⟩
      have HB2 := Lib.hid (HB1.out.trans (hb2.mono HB1.out.size))
      have HW2 := Lib.hid (HA.out.trans (HB2.out.mono HA.out.size))
      have e0 : w2.cell? ⟨w.heap.size, 0, none⟩ = some (.slice (some ⟨g, o, none⟩) s.files.length cf) := (HB2.out.cell (p := ⟨w.heap.size, 0, none⟩) (by show w.heap.size < wa.heap.size; omega)).trans c0
      have hy2 := (HW2.out.cell (p := ⟨g, o + k * 2 + 1, none⟩) hg).trans hcell2
      clear hb2
      go_wp2_with fail
      go_ret2
      exact ⟨rfl, HW2.out⟩
    · have HT : Hid (readOk s n = false) := by rw [readOk, decide_eq_false ef]; simp [Hid]
      have HT2 : Hid (readT s n = []) := by rw [readT, HT.out]; rfl
      rw [HT.out, HT2.out]
      have hkn : decide (findF s.files n < 0) = true := decide_eq_true (by omega)
      clear eg HT HT2 hatf
      generalize findF s.files n = fi at HF hfr ef hkn
      go_enter Tryz.func24, Tryz.ntmps24
      go_wp2_with fail
      rw [← HWA.out]
      refine (HF.out wa (H1.out.below HA.out)).mono ?_
      rintro e w1 ⟨rfl, hb1⟩
      have HB1 := Lib.hid hb1
      clear hb1
      have d0 : w1.cell? ⟨w.heap.size, 0, none⟩ = some (.slice af s.files.length cf) := (HB1.out.cell (p := ⟨w.heap.size, 0, none⟩) (by show w.heap.size < wa.heap.size; omega)).trans c0
      have d1 : w1.cell? ⟨w.heap.size, 1, none⟩ = some (.slice a2 s.staged.length cs) := (HB1.out.cell (p := ⟨w.heap.size, 1, none⟩) (by show w.heap.size < wa.heap.size; omega)).trans c1
      have d2 : w1.cell? ⟨w.heap.size, 2, none⟩ = some (.slice ag s.gone.length cg) := (HB1.out.cell (p := ⟨w.heap.size, 2, none⟩) (by show w.heap.size < wa.heap.size; omega)).trans c2
      go_wp2_with fail
      refine (HG.out w1 (HST.out.below (HA.out.trans (HB1.out.mono HA.out.size)))).mono ?_
      rintro e w2 ⟨rfl, hb2⟩
      have HB2 := Lib.hid (HB1.out.trans (hb2.mono HB1.out.size))
      clear hb2
      go_wp2_with fail
      go_ret2
      exact ⟨rfl, HA.out.trans (HB2.out.mono HA.out.size)⟩

theorem good_sizes {s : StoreT} (h : goodS s = true) : s.files.length ≤ 12 ∧ s.staged.length ≤ 12 ∧ s.gone.length ≤ 12 := by
  simp only [goodS, Bool.and_eq_true, decide_eq_true_iff] at h
  exact ⟨good_len h.1, good_len h.2.1, h.2.2.1⟩

set_option maxRecDepth 20000 in
set_option maxHeartbeats 4000000 in
theorem specSeen_any (s : StoreT) (n : List UInt8) (v : Value) (w : World) (hst : StoreV w v s) (hx : Fits s) :
    Calls Tryz.prog 25 #[v, .string ⟨n.toArray⟩] w (TextOk (seenT s n) (seenOk s n) w) := by
  have HST := Lib.hid hst
  obtain ⟨vf, vs, vg, rfl, h1, h2, h3⟩ := hst
  obtain ⟨af, cf, rfl, hf1, hf2, _⟩ := h1.files
  obtain ⟨a2, cs, rfl, hs1, hs2, _⟩ := h2.files
  obtain ⟨ag, cg, rfl, hg1, hg2, _⟩ := h3.texts
  clear h1 h2 h3
  have HG := Lib.hid (fun W hr => specGoodStore_any s (.agg #[.slice af s.files.length cf, .slice a2 s.staged.length cs, .slice ag s.gone.length cg]) W hr hx)
  clear hx
  unfold maxLen at hf2 hs2 hg2
  obtain ⟨wa, hwa⟩ : ∃ wa, wa = w.alloc (.cells #[.slice af s.files.length cf, .slice a2 s.staged.length cs, .slice ag s.gone.length cg] 26) := ⟨_, rfl⟩
  have c0 : wa.cell? ⟨w.heap.size, 0, none⟩ = some (.slice af s.files.length cf) := by rw [hwa]; simp
  have c1 : wa.cell? ⟨w.heap.size, 1, none⟩ = some (.slice a2 s.staged.length cs) := by rw [hwa]; simp
  have c2 : wa.cell? ⟨w.heap.size, 2, none⟩ = some (.slice ag s.gone.length cg) := by rw [hwa]; simp
  have HA : Hid (Below w.heap.size w wa) := by rw [hwa]; exact (Below.refl w.heap.size w).alloc (Nat.le_refl _) _
  have hsz : wa.heap.size = w.heap.size + 1 := by rw [hwa]; simp
  have HWA := Lib.hid hwa
  clear hwa
  rcases eg : goodS s with _ | _
  · have HT : Hid (seenOk s n = false) := by rw [seenOk, eg]; rfl
    have HT2 : Hid (seenT s n = []) := by rw [seenT, HT.out]; rfl
    rw [HT.out, HT2.out]
    rw [eg] at HG
    clear eg HT HT2
    go_enter Tryz.func25, Tryz.ntmps25
    go_wp2_with fail
    rw [← HWA.out]
    refine (HG.out wa (HST.out.below HA.out)).mono ?_
    rintro e w1 ⟨rfl, hb1⟩
    have HB1 := Lib.hid hb1
    clear hb1
    go_wp2_with fail
    go_ret2
    exact ⟨rfl, HA.out.trans (HB1.out.mono HA.out.size)⟩
  · rw [eg] at HG
    obtain ⟨l1, l2, l3⟩ := good_sizes eg
    have hfr := find_range (takenF s) n
    have HF := Lib.hid (fun v W hr => l3Find_any (takenF s) n v W hr)
    by_cases ef : 0 ≤ findF (takenF s) n
    · have HT : Hid (seenOk s n = true) := by rw [seenOk, eg, decide_eq_true ef]; rfl
      have HT2 : Hid (seenT s n = bodyAt (takenF s) (findF (takenF s) n)) := by rw [seenT, HT.out]; rfl
      rw [HT.out, HT2.out]
      obtain ⟨k, hkf⟩ : ∃ k : Nat, findF (takenF s) n = k := ⟨(findF (takenF s) n).toNat, by omega⟩
      rw [hkf] at HF hfr ⊢
      have hlt : k < (takenF s).length := by omega
      rw [body_at hlt]
      obtain ⟨y, hy⟩ : ∃ y, (takenF s)[k].2 = y := ⟨_, rfl⟩
      rw [hy]
      have hkn : decide ((k : Int) < 0) = false := decide_eq_false (by omega)
      clear eg HT HT2 ef hkf
      go_enter Tryz.func25, Tryz.ntmps25
      go_wp2_with fail
      rw [← HWA.out]
      refine (HG.out wa (HST.out.below HA.out)).mono ?_
      rintro e w1 ⟨rfl, hb1⟩
      have HB1 := Lib.hid hb1
      clear hb1
      have d0 : w1.cell? ⟨w.heap.size, 0, none⟩ = some (.slice af s.files.length cf) := (HB1.out.cell (p := ⟨w.heap.size, 0, none⟩) (by show w.heap.size < wa.heap.size; omega)).trans c0
      have d1 : w1.cell? ⟨w.heap.size, 1, none⟩ = some (.slice a2 s.staged.length cs) := (HB1.out.cell (p := ⟨w.heap.size, 1, none⟩) (by show w.heap.size < wa.heap.size; omega)).trans c1
      have d2 : w1.cell? ⟨w.heap.size, 2, none⟩ = some (.slice ag s.gone.length cg) := (HB1.out.cell (p := ⟨w.heap.size, 2, none⟩) (by show w.heap.size < wa.heap.size; omega)).trans c2
      go_wp2_with fail
      refine (l3Taken_any s _ w1 (HST.out.below (HA.out.trans (HB1.out.mono HA.out.size))) (by omega) (by omega) (by omega)).mono ?_
      rintro e w2 ⟨v2, rfl, hown2, hb2⟩
      have HB2 := Lib.hid (HB1.out.trans (hb2.mono HB1.out.size))
      have HR2 := Lib.hid (RowF.of_own hown2)
      clear hown2 hb2
      go_wp2_with fail
      refine (HF.out v2 w2 HR2.out).mono ?_
      rintro e w3 ⟨rfl, hb3⟩
      have HB3 := Lib.hid (HB2.out.trans (hb3.mono HB2.out.size))
      obtain ⟨a5, c5, rfl, hc51, hc52, hat5⟩ := (HR2.out.below hb3).files
      obtain ⟨g, o, rfl, hg, hcell1, hcell2⟩ := hat5 k hlt
      unfold maxLen at hc52
      clear hb3 hat5 hcell1 HR2 HF
      rw [hy] at hcell2
      clear hy
      generalize (takenF s).length = tl at hlt hc51 hfr ⊢
      go_wp2_with fail
      go_ret2
      exact ⟨rfl, HA.out.trans (HB3.out.mono HA.out.size)⟩
    · have HT : Hid (seenOk s n = false) := by rw [seenOk, decide_eq_false ef]; simp [Hid]
      have HT2 : Hid (seenT s n = []) := by rw [seenT, HT.out]; rfl
      rw [HT.out, HT2.out]
      have hkn : decide (findF (takenF s) n < 0) = true := decide_eq_true (by omega)
      clear eg HT HT2
      generalize findF (takenF s) n = fi at HF hfr ef hkn
      go_enter Tryz.func25, Tryz.ntmps25
      go_wp2_with fail
      rw [← HWA.out]
      refine (HG.out wa (HST.out.below HA.out)).mono ?_
      rintro e w1 ⟨rfl, hb1⟩
      have HB1 := Lib.hid hb1
      clear hb1
      have d0 : w1.cell? ⟨w.heap.size, 0, none⟩ = some (.slice af s.files.length cf) := (HB1.out.cell (p := ⟨w.heap.size, 0, none⟩) (by show w.heap.size < wa.heap.size; omega)).trans c0
      have d1 : w1.cell? ⟨w.heap.size, 1, none⟩ = some (.slice a2 s.staged.length cs) := (HB1.out.cell (p := ⟨w.heap.size, 1, none⟩) (by show w.heap.size < wa.heap.size; omega)).trans c1
      have d2 : w1.cell? ⟨w.heap.size, 2, none⟩ = some (.slice ag s.gone.length cg) := (HB1.out.cell (p := ⟨w.heap.size, 2, none⟩) (by show w.heap.size < wa.heap.size; omega)).trans c2
      go_wp2_with fail
      refine (l3Taken_any s _ w1 (HST.out.below (HA.out.trans (HB1.out.mono HA.out.size))) (by omega) (by omega) (by omega)).mono ?_
      rintro e w2 ⟨v2, rfl, hown2, hb2⟩
      have HB2 := Lib.hid (HB1.out.trans (hb2.mono HB1.out.size))
      have HR2 := Lib.hid (RowF.of_own hown2)
      clear hown2 hb2
      go_wp2_with fail
      refine (HF.out v2 w2 HR2.out).mono ?_
      rintro e w3 ⟨rfl, hb3⟩
      have HB3 := Lib.hid (HB2.out.trans (hb3.mono HB2.out.size))
      clear hb3
      go_wp2_with fail
      go_ret2
      exact ⟨rfl, HA.out.trans (HB3.out.mono HA.out.size)⟩

end Go.Proofs.YtoahfhidekmodaaGreatDoor

/- Walks: the program's files read, now and as they would be. -/
namespace Go.Proofs.YtoahfhidekmodaaGreatDoor
open Go.RowKit Go.Maps Pth

theorem has_find (l : List FileT) (n : List UInt8) : decide (0 ≤ findF l n) = hasF l n := by
  rcases h : hasF l n with _ | _
  · rw [(find_has l n).2 h]; rfl
  · have h1 := (find_range l n).1
    have h2 : ¬ findF l n = -1 := fun e => by rw [(find_has l n).1 e] at h; cases h
    exact decide_eq_true (by omega)
theorem bodyF_no {l : List FileT} {n : List UInt8} (h : hasF l n = false) : bodyF l n = [] := by
  rw [hasF, List.any_eq_false] at h
  rw [bodyF, List.find?_eq_none.2 (fun f hf => h f hf)]
theorem bodyF_at {l : List FileT} {n : List UInt8} (h : hasF l n = true) : bodyAt l (findF l n) = bodyF l n := by
  induction l with
  | nil => cases h
  | cons f t ih =>
    by_cases e : f.1 = n
    · have e1 : findF (f :: t) n = 0 := by rw [findF, if_pos e]
      rw [e1, bodyF, List.find?_cons_of_pos (by simpa using e)]; rfl
    · have ht : hasF t n = true := by
        rw [hasF, List.any_cons] at h
        have e' : (f.1 == n) = false := by simpa using e
        rw [e', Bool.false_or] at h
        exact h
      have h2 : ¬ findF t n = -1 := fun e => by rw [(find_has t n).1 e] at ht; cases ht
      have h3 := (find_range t n).1
      have e1 : findF (f :: t) n = findF t n + 1 := by rw [findF, if_neg e, if_neg h2]
      have e2 : (findF t n + 1).toNat = (findF t n).toNat + 1 := by omega
      have e3 : bodyF (f :: t) n = bodyF t n := by rw [bodyF, List.find?_cons_of_neg (by simpa using e)]; rfl
      rw [e1, e3, ← ih ht, bodyAt, e2, List.getElem?_cons_succ]; rfl
theorem body_of (l : List FileT) (n : List UInt8) : (if hasF l n = true then bodyAt l (findF l n) else []) = bodyF l n := by
  rcases h : hasF l n with _ | _
  · rw [bodyF_no h]; rfl
  · rw [if_pos rfl, bodyF_at h]
theorem read_good {s : StoreT} {n : List UInt8} (h : goodS s = true) : readOk s n = hasF s.files n ∧ readT s n = bodyF s.files n := by
  have e : readOk s n = hasF s.files n := by rw [readOk, h, has_find]; rfl
  exact ⟨e, by rw [readT, e, body_of]⟩
theorem read_bad {s : StoreT} {n : List UInt8} (h : goodS s = false) : readOk s n = false ∧ readT s n = [] := by
  have e : readOk s n = false := by rw [readOk, h]; rfl
  exact ⟨e, by rw [readT, e]; rfl⟩
theorem seen_good {s : StoreT} {n : List UInt8} (h : goodS s = true) : seenOk s n = hasF (takenF s) n ∧ seenT s n = bodyF (takenF s) n := by
  have e : seenOk s n = hasF (takenF s) n := by rw [seenOk, h, has_find]; rfl
  exact ⟨e, by rw [seenT, e, body_of]⟩
theorem seen_bad {s : StoreT} {n : List UInt8} (h : goodS s = false) : seenOk s n = false ∧ seenT s n = [] := by
  have e : seenOk s n = false := by rw [seenOk, h]; rfl
  exact ⟨e, by rw [seenT, e]; rfl⟩
theorem good_bodies {l : List FileT} (h : goodF l = true) : ∀ f ∈ l, f.2.length ≤ 40 := by
  rw [goodF_parts, Bool.and_eq_true, Bool.and_eq_true] at h
  intro f hf
  have := List.all_eq_true.1 h.2.1 f hf
  simpa using this
theorem goodS_files {s : StoreT} (h : goodS s = true) : goodF s.files = true ∧ goodF s.staged = true ∧ goodF (takenF s) = true := by
  rw [goodS] at h
  simp only [Bool.and_eq_true] at h
  exact ⟨h.1, h.2.1, h.2.2.2.2⟩
theorem goodStore_m {b : Bool} {s : StoreT} (hx : Fits s) (h : goodS s = b) : ∀ v w, StoreV w v s → MaxAt w → Calls Tryz.prog 13 #[v] w (BoolPost b w) := fun v w hr hm => by
  have := implGoodStore_any s v w hr hx hm
  rwa [h] at this

set_option maxRecDepth 20000 in
set_option maxHeartbeats 4000000 in
theorem implRead_any (s : StoreT) (n : List UInt8) (v : Value) (w : World) (hst : StoreV w v s) (hx : Fits s) (hn : n.length ≤ maxLen) (hm : MaxAt w) :
    Calls Tryz.prog 16 #[v, .string ⟨n.toArray⟩] w (TextOk (readT s n) (readOk s n) w) := by
  have HST := Lib.hid hst
  have HM := Lib.hid hm
  have HN := Lib.hid hn
  have HFX := Lib.hid hx
  obtain ⟨vf, vs, vg, rfl, h1, h2, h3⟩ := hst
  have H1 := Lib.hid h1
  obtain ⟨af, cf, rfl, hf1, hf2, _⟩ := h1.files
  obtain ⟨a2, cs, rfl, hs1, hs2, _⟩ := h2.files
  obtain ⟨ag, cg, rfl, hg1, hg2, _⟩ := h3.texts
  clear h1 h2 h3 hm hn
  unfold maxLen at hf2 hs2 hg2
  obtain ⟨wa, hwa⟩ : ∃ wa, wa = w.alloc (.cells #[.slice af s.files.length cf, .slice a2 s.staged.length cs, .slice ag s.gone.length cg] 26) := ⟨_, rfl⟩
  have hsz : wa.heap.size = w.heap.size + 1 := by rw [hwa]; simp
  have P0 : Hid (Blk3 wa w.heap.size 26 (.slice af s.files.length cf) (.slice a2 s.staged.length cs) (.slice ag s.gone.length cg)) := by rw [hwa]; exact Blk3.new
  have HA : Hid (Below w.heap.size w wa) := by rw [hwa]; exact (Below.refl w.heap.size w).alloc (Nat.le_refl _) _
  have hlt0 : w.heap.size < wa.heap.size := by omega
  obtain ⟨c0, c1, c2⟩ := P0.out.cells
  have HWA := Lib.hid hwa
  clear hwa
  rcases eg : goodS s with _ | _
  · have HC := Lib.hid (goodStore_m hx eg _ wa (HST.out.below HA.out) (HM.out.below HA.out))
    have HT := Lib.hid (read_bad (n := n) eg)
    rw [HT.out.1, HT.out.2]
    clear eg hx HT
    go_enter Tryz.func16, Tryz.ntmps16
    go_wp2_with fail
    rw [← HWA.out]
    refine HC.out.mono ?_
    rintro e w1 ⟨rfl, hb1⟩
    have HB1 := Lib.hid (bth HA.out hb1)
    clear hb1
    go_wp2_with fail
    go_ret2
    exact ⟨rfl, HB1.out⟩
  · have HC := Lib.hid (goodStore_m hx eg _ wa (HST.out.below HA.out) (HM.out.below HA.out))
    have HT := Lib.hid (read_good (n := n) eg)
    rw [HT.out.1, HT.out.2]
    have HG := Lib.hid (goodS_files eg).1
    have HU := Lib.hid (fun B K W hm => bodyUnder_any s.files n B K W hm (fun f hf => Nat.le_trans (good_bodies HG.out f hf) (by omega)) HN.out)
    clear eg hx HT
    generalize hasF s.files n = bo at HU ⊢
    generalize bodyF s.files n = t at HU ⊢
    go_enter Tryz.func16, Tryz.ntmps16
    go_wp2_with fail
    rw [← HWA.out]
    refine HC.out.mono ?_
    rintro e w1 ⟨rfl, hb1⟩
    have HB1 := Lib.hid (bth HA.out hb1)
    have P1 := Lib.hid (P0.out.below hb1 hlt0)
    obtain ⟨d0, d1, d2⟩ := P1.out.cells
    have HC2 := Lib.hid (bodiesOf_any s.files (.slice af s.files.length cf) w1 (H1.out.below HB1.out) HFX.out.1 (by have := good_len HG.out; omega))
    have e0 : s.files.foldl putF [] = s.files := by
      have := fill_is (good_rise HG.out) s.files.length
      rwa [List.take_of_length_le (Nat.le_refl _)] at this
    rw [e0] at HC2
    clear hb1 e0 c0 c1 c2 HC
    go_wp2_with fail
    refine HC2.out.mono ?_
    rintro e w2 ⟨rfl, hm2, hb2⟩
    have HB2 := Lib.hid (bth HB1.out hb2)
    have HC3 := Lib.hid (HU.out _ _ _ hm2)
    clear hm2 hb2 HC2 HG
    go_wp2_with fail
    refine HC3.out.mono ?_
    rintro e w3 ⟨rfl, hb3⟩
    have HB3 := Lib.hid (bth HB2.out hb3)
    clear hb3
    go_wp2_with fail
    go_ret2
    exact ⟨rfl, HB3.out⟩

set_option maxRecDepth 20000 in
set_option maxHeartbeats 4000000 in
theorem implSeen_any (s : StoreT) (n : List UInt8) (v : Value) (w : World) (hst : StoreV w v s) (hx : Fits s) (hn : n.length ≤ maxLen) (hm : MaxAt w) :
    Calls Tryz.prog 17 #[v, .string ⟨n.toArray⟩] w (TextOk (seenT s n) (seenOk s n) w) := by
  have HST := Lib.hid hst
  have HM := Lib.hid hm
  have HN := Lib.hid hn
  have HFX := Lib.hid hx
  obtain ⟨vf, vs, vg, rfl, h1, h2, h3⟩ := hst
  obtain ⟨af, cf, rfl, hf1, hf2, _⟩ := h1.files
  obtain ⟨a2, cs, rfl, hs1, hs2, _⟩ := h2.files
  obtain ⟨ag, cg, rfl, hg1, hg2, _⟩ := h3.texts
  clear h1 h2 h3 hm hn
  unfold maxLen at hf2 hs2 hg2
  obtain ⟨wa, hwa⟩ : ∃ wa, wa = w.alloc (.cells #[.slice af s.files.length cf, .slice a2 s.staged.length cs, .slice ag s.gone.length cg] 26) := ⟨_, rfl⟩
  have hsz : wa.heap.size = w.heap.size + 1 := by rw [hwa]; simp
  have P0 : Hid (Blk3 wa w.heap.size 26 (.slice af s.files.length cf) (.slice a2 s.staged.length cs) (.slice ag s.gone.length cg)) := by rw [hwa]; exact Blk3.new
  have HA : Hid (Below w.heap.size w wa) := by rw [hwa]; exact (Below.refl w.heap.size w).alloc (Nat.le_refl _) _
  have hlt0 : w.heap.size < wa.heap.size := by omega
  obtain ⟨c0, c1, c2⟩ := P0.out.cells
  have HWA := Lib.hid hwa
  clear hwa
  rcases eg : goodS s with _ | _
  · have HC := Lib.hid (goodStore_m hx eg _ wa (HST.out.below HA.out) (HM.out.below HA.out))
    have HT := Lib.hid (seen_bad (n := n) eg)
    rw [HT.out.1, HT.out.2]
    clear eg hx HT
    go_enter Tryz.func17, Tryz.ntmps17
    go_wp2_with fail
    rw [← HWA.out]
    refine HC.out.mono ?_
    rintro e w1 ⟨rfl, hb1⟩
    have HB1 := Lib.hid (bth HA.out hb1)
    clear hb1
    go_wp2_with fail
    go_ret2
    exact ⟨rfl, HB1.out⟩
  · have HC := Lib.hid (goodStore_m hx eg _ wa (HST.out.below HA.out) (HM.out.below HA.out))
    have HT := Lib.hid (seen_good (n := n) eg)
    rw [HT.out.1, HT.out.2]
    have HG := Lib.hid (goodS_files eg)
    have HU := Lib.hid (fun B K W hm => bodyUnder_any (takenF s) n B K W hm (fun f hf => Nat.le_trans (good_bodies HG.out.2.2 f hf) (by omega)) HN.out)
    clear eg hx HT
    generalize hasF (takenF s) n = bo at HU ⊢
    generalize bodyF (takenF s) n = t at HU ⊢
    go_enter Tryz.func17, Tryz.ntmps17
    go_wp2_with fail
    rw [← HWA.out]
    refine HC.out.mono ?_
    rintro e w1 ⟨rfl, hb1⟩
    have HB1 := Lib.hid (bth HA.out hb1)
    have P1 := Lib.hid (P0.out.below hb1 hlt0)
    obtain ⟨d0, d1, d2⟩ := P1.out.cells
    have HC2 := Lib.hid (bodiesTaken_any s (.agg #[.slice af s.files.length cf, .slice a2 s.staged.length cs, .slice ag s.gone.length cg]) w1 (HST.out.below HB1.out) HFX.out (good_rise HG.out.1) (by have := good_len HG.out.1; omega) (by have := good_len HG.out.2.1; omega))
    clear hb1 c0 c1 c2 HC
    go_wp2_with fail
    refine HC2.out.mono ?_
    rintro e w2 ⟨b2, n2, rfl, _, _, hm2, hb2⟩
    have HB2 := Lib.hid (bth HB1.out hb2)
    have HC3 := Lib.hid (HU.out _ _ _ hm2)
    clear hm2 hb2 HC2 HG
    go_wp2_with fail
    refine HC3.out.mono ?_
    rintro e w3 ⟨rfl, hb3⟩
    have HB3 := Lib.hid (bth HB2.out hb3)
    clear hb3
    go_wp2_with fail
    go_ret2
    exact ⟨rfl, HB3.out⟩

end Go.Proofs.YtoahfhidekmodaaGreatDoor
