/- Texts of one claim, joined in their order. -/
import Derived.Lib.SlicesCompact
import Derived.Shelf.Small.Bits
import Derived.Shelf.Small.Wraps
import Derived.Shelf.Strconv.Itoa0
import Derived.Shelf.Strconv.Itoa1
import Derived.Shelf.LaysM
import Derived.Shelf.Strconv.Itoa2
import Derived.Shelf.Strconv.Itoa3
import Derived.Shelf.Strconv.Clone
import Derived.Shelf.Sort.Plain
import Derived.Shelf.Slices.In.SortNone
import Derived.Test.YtngldlconipnnaaGreatDoorProg
import Derived.Lib.OwnBridge
import Derived.Sort.OwnSortedInts
import Derived.Test.YtngldlconipnnaaGreatDoorRows
import Derived.WalkKit
import Derived.Deep.Quiet
import Derived.StillTail
import Derived.BigQuiet
import Derived.Test.YtngldlconipnnaaGreatDoorM3
import Derived.Test.YtngldlconipnnaaGreatDoorM2

/- Plans in memory, wherever they lie and as0 memory of the call's own; the laws' helpers on them: how large, copies, whether they are the same. -/
namespace Go.Proofs.YtngldlconipnnaaGreatDoor
open Go.RowKit Pth

/-- A plan, wherever it lies. -/
def PlanV (w : World) (v : Value) (ls : List (List Int)) (l : List Int) (bs : List Bool) (rs : List (List OpT)) : Prop :=
  ∃ nv ov sv rv, v = .agg #[nv, ov, sv, rv] ∧ RowN w nv ls ∧ RowV w ov (I l) ∧ RowV w sv (BL bs) ∧ RowOO w rv rs
theorem PlanV.below {w w' : World} {v : Value} {ls : List (List Int)} {l : List Int} {bs : List Bool} {rs : List (List OpT)} (h : PlanV w v ls l bs rs) (hb : Below w.heap.size w w') : PlanV w' v ls l bs rs := by
  obtain ⟨nv, ov, sv, rv, hv, h1, h2, h3, h4⟩ := h
  exact ⟨nv, ov, sv, rv, hv, h1.below hb, h2.below hb, h3.below hb, h4.below hb⟩
/-- How large a plan is. -/
def planZ (ls : List (List Int)) (l : List Int) (bs : List Bool) (rs : List (List OpT)) : Nat := ls.length + total ls + l.length + bs.length + rs.length + totalO rs

theorem GraphO.set {B : Nat} {w : World} {v : Value} {ls : List (List Int)} {l : List Int} (h : GraphO B w v ls l) {p : Addr} (hp : p.block < B) (u : Value) : GraphO B (w.setCell p u) v ls l := by
  obtain ⟨nv, ov, sl, hv, h1, h2, h3⟩ := h
  exact ⟨nv, ov, sl, hv, h1, own_setI h2 hp u, h3.set hp u⟩
/-- A plan of the call's own. -/
def PlanO (B : Nat) (w : World) (v : Value) (ls : List (List Int)) (l : List Int) (bs : List Bool) (rs : List (List OpT)) : Prop :=
  ∃ nv ov sv rv so, v = .agg #[nv, ov, sv, rv] ∧ GraphO B w (.agg #[nv, ov]) ls l ∧ w.ownsRow B 4 1 sv bs.length (BL bs) ∧ OwnOO B w rv so rs
theorem PlanO.view {B : Nat} {w : World} {v : Value} {ls : List (List Int)} {l : List Int} {bs : List Bool} {rs : List (List OpT)} (h : PlanO B w v ls l bs rs) : PlanV w v ls l bs rs := by
  obtain ⟨nv, ov, sv, rv, so, hv, h1, h2, h3⟩ := h
  obtain ⟨nv', ov', he, h4, h5⟩ := h1.view
  simp only [Value.agg.injEq, Array.mk.injEq, List.cons.injEq, and_true] at he
  obtain ⟨rfl, rfl⟩ := he
  exact ⟨nv, ov, sv, rv, hv, h4, h5, RowV.of_own h2, h3.view⟩
theorem PlanO.below {B : Nat} {w w' : World} {v : Value} {ls : List (List Int)} {l : List Int} {bs : List Bool} {rs : List (List OpT)} (h : PlanO B w v ls l bs rs) (hb : Below w.heap.size w w') : PlanO B w' v ls l bs rs := by
  obtain ⟨nv, ov, sv, rv, so, hv, h1, h2, h3⟩ := h
  exact ⟨nv, ov, sv, rv, so, hv, h1.below hb, own_below h2 hb, h3.below hb⟩

/-- A block of four cells. -/
def Blk4 (w : World) (b t : Nat) (x y z u : Value) : Prop := w.heap[b]? = some (.cells #[x, y, z, u] t (0, 0))
theorem Blk4.cells {w : World} {b t : Nat} {x y z u : Value} (h : Blk4 w b t x y z u) : w.cell? ⟨b, 0, none⟩ = some x ∧ w.cell? ⟨b, 1, none⟩ = some y ∧ w.cell? ⟨b, 2, none⟩ = some z ∧ w.cell? ⟨b, 3, none⟩ = some u := by
  refine ⟨?_, ?_, ?_, ?_⟩ <;> rw [cell_of_row w b _ _ t (0, 0) h] <;> rfl
theorem Blk4.soft {w : World} {b t : Nat} {x y z u : Value} (h : Blk4 w b t x y z u) (j : Nat) : w.frozen? ⟨b, j, none⟩ = false := frozen_of_row w b j _ t h
theorem Blk4.set0 {w : World} {b t : Nat} {x y z u : Value} (h : Blk4 w b t x y z u) (n : Value) : Blk4 (w.setCell ⟨b, 0, none⟩ n) b t n y z u := heap_setCell_same w b 0 _ t n h
theorem Blk4.set1 {w : World} {b t : Nat} {x y z u : Value} (h : Blk4 w b t x y z u) (n : Value) : Blk4 (w.setCell ⟨b, 1, none⟩ n) b t x n z u := heap_setCell_same w b 1 _ t n h
theorem Blk4.set2 {w : World} {b t : Nat} {x y z u : Value} (h : Blk4 w b t x y z u) (n : Value) : Blk4 (w.setCell ⟨b, 2, none⟩ n) b t x y n u := heap_setCell_same w b 2 _ t n h
theorem Blk4.set3 {w : World} {b t : Nat} {x y z u : Value} (h : Blk4 w b t x y z u) (n : Value) : Blk4 (w.setCell ⟨b, 3, none⟩ n) b t x y z n := heap_setCell_same w b 3 _ t n h
theorem Blk4.below {w w' : World} {B b t : Nat} {x y z u : Value} (h : Blk4 w b t x y z u) (hb : Below B w w') (hlt : b < B) : Blk4 w' b t x y z u := (hb.block b hlt).trans h
theorem Blk4.new {w : World} {t : Nat} {x y z u : Value} : Blk4 (w.alloc (.cells #[x, y, z, u] t)) w.heap.size t x y z u := heap_alloc_new w _
theorem Blk4.old {w : World} {b t : Nat} {x y z u : Value} (h : Blk4 w b t x y z u) (o : Obj) : Blk4 (w.alloc o) b t x y z u := (Below.heap_alloc w o b (lt_of_block h)).trans h
theorem Blk4.other {w : World} {b t : Nat} {x y z u : Value} (h : Blk4 w b t x y z u) {p : Addr} (hp : b ≠ p.block) (n : Value) : Blk4 (w.setCell p n) b t x y z u := (Below.heap_setCell w p n b hp).trans h

set_option maxRecDepth 20000 in
set_option maxHeartbeats 2000000 in
theorem szPlan_any (ls : List (List Int)) (l : List Int) (bs : List Bool) (rs : List (List OpT)) (left : Nat) (v : Value) (w : World) (hp : PlanV w v ls l bs rs) (hx : ∀ l ∈ rs, ∀ f ∈ l, f.2.2.length ≤ maxLen) (hl : left ≤ 2000000) :
    Calls Tryz.prog 20 #[v, .int .i64 (left : Int)] w fun e w' => ∃ r : Int, e = .returned (.int .i64 r) ∧ r ≤ left ∧ (0 ≤ r → r + planZ ls l bs rs ≤ left) ∧ Below w.heap.size w w' := by
  obtain ⟨nv, ov, sv, rv, rfl, h1, h2, h3, h4⟩ := hp
  obtain ⟨as0, cs, rfl, hs1, hs2, _⟩ := h3.boolsW
  obtain ⟨an, cn, rfl, _⟩ := h1.lists
  obtain ⟨ao, co, rfl, _⟩ := h2.ints
  obtain ⟨ar, cr, rfl, _⟩ := h4.lists
  have hbl : bs.length ≤ maxLen := by omega
  obtain ⟨wa, hwa⟩ : ∃ wa, wa = w.alloc (.cells #[.slice an ls.length cn, .slice ao l.length co, .slice as0 bs.length cs, .slice ar rs.length cr] 51) := ⟨_, rfl⟩
  have P0 : Hid (Blk4 wa w.heap.size 51 (.slice an ls.length cn) (.slice ao l.length co) (.slice as0 bs.length cs) (.slice ar rs.length cr)) := by rw [hwa]; exact Blk4.new
  have hsz : wa.heap.size = w.heap.size + 1 := by rw [hwa]; simp
  have HA : Hid (Below w.heap.size w wa) := by rw [hwa]; exact (Below.refl w.heap.size w).alloc (Nat.le_refl _) _
  have HG : Hid (GraphV wa (.agg #[.slice an ls.length cn, .slice ao l.length co]) ls l) := ⟨_, _, rfl, h1.below HA.out, h2.below HA.out⟩
  have H4 := Lib.hid h4
  have HX := Lib.hid hx
  have HWA := Lib.hid hwa
  clear hwa h1 h2 h3 h4 hx
  go_enter Tryz.func20, Tryz.ntmps20
  go_wp2_with fail
  rw [← HWA.out]
  refine (szGraph_any ls l left _ wa HG.out hl).mono ?_
  rintro e w1 ⟨r1, rfl, hr1, hb1⟩
  have HR1 := Lib.hid hr1
  have HB1 := Lib.hid (bth HA.out hb1 (Nat.le_refl _))
  have P1 := Lib.hid (P0.out.below hb1 (by omega))
  clear hr1 hb1
  by_cases p1 : 0 ≤ r1
  · obtain ⟨n1, rfl⟩ : ∃ n1 : Nat, r1 = n1 := ⟨r1.toNat, by omega⟩
    have HQ := Lib.hid (HR1.out p1)
    have q1 : n1 ≤ 2000000 := by have := HQ.out; omega
    have t1 : decide ((n1 : Int) < 0) = false := decide_eq_false (by omega)
    have c2 := P1.out.cells.2.2.1
    clear HR1
    go_wp2_with fail
    refine (szBoolS_any as0 bs.length cs n1 w1 hbl q1).mono ?_
    rintro e w2 ⟨r2, rfl, hr2, rfl⟩
    have HR2 := Lib.hid hr2
    clear hr2
    by_cases p2 : 0 ≤ r2
    · obtain ⟨n2, rfl⟩ : ∃ n2 : Nat, r2 = n2 := ⟨r2.toNat, by omega⟩
      have HQ2 := Lib.hid (HR2.out p2)
      have q2 : n2 ≤ 2000000 := by have := HQ2.out; omega
      have t2 : decide ((n2 : Int) < 0) = false := decide_eq_false (by omega)
      have c3 := P1.out.cells.2.2.2
      clear HR2
      go_wp2_with fail
      refine (szOpSS_any rs n2 _ w1 (H4.out.below HB1.out) HX.out q2).mono ?_
      rintro e w3 ⟨r3, rfl, hle3, hr3, hb3⟩
      have HR3 := Lib.hid hr3
      have HB3 := Lib.hid (bth HB1.out hb3 (Nat.le_refl _))
      clear hr3 hb3
      by_cases p3 : 0 ≤ r3
      · have t3 : decide (r3 < 0) = false := decide_eq_false (by omega)
        go_wp2_with fail
        go_ret
        exact ⟨r3, rfl, by have := HQ.out; have := HQ2.out; omega, fun h => by have h1 := HQ.out; have h2 := HQ2.out; have h3 := HR3.out h; unfold planZ; omega, HB3.out⟩
      · have t3 : decide (r3 < 0) = true := decide_eq_true (by omega)
        go_wp2_with fail
        go_ret
        exact ⟨-1, rfl, by omega, fun h => by omega, HB3.out⟩
    · have t2 : decide (r2 < 0) = true := decide_eq_true (by omega)
      go_wp2_with fail
      go_ret
      exact ⟨-1, rfl, by omega, fun h => by omega, HB1.out⟩
  · have t1 : decide (r1 < 0) = true := decide_eq_true (by omega)
    clear HR1
    go_wp2_with fail
    go_ret
    exact ⟨-1, rfl, by omega, fun h => by omega, HB1.out⟩

set_option maxRecDepth 20000 in
set_option maxHeartbeats 2000000 in
theorem eqPlan_same (ls : List (List Int)) (l : List Int) (bs : List Bool) (rs : List (List OpT)) (v u : Value) (w : World) (hp : PlanV w v ls l bs rs) (hq : PlanV w u ls l bs rs) (hz : planZ ls l bs rs ≤ 2000000) :
    Calls Tryz.prog 30 #[v, u] w fun e w' => e = .returned (.bool true) ∧ Below w.heap.size w w' := by
  obtain ⟨nv, ov, sv, rv, rfl, h1, h2, h3, h4⟩ := hp
  obtain ⟨nu, ou, su, ru, rfl, k1, k2, k3, k4⟩ := hq
  unfold planZ at hz
  have H3 := Lib.hid h3
  have H4 := Lib.hid h4
  have K3 := Lib.hid k3
  have K4 := Lib.hid k4
  obtain ⟨as0, cs, rfl, _⟩ := h3.boolsW
  obtain ⟨an, cn, rfl, _⟩ := h1.lists
  obtain ⟨ao, co, rfl, _⟩ := h2.ints
  obtain ⟨ar, cr, rfl, _⟩ := h4.lists
  obtain ⟨bs', ds, rfl, _⟩ := k3.boolsW
  obtain ⟨bn, dn, rfl, _⟩ := k1.lists
  obtain ⟨bo, do', rfl, _⟩ := k2.ints
  obtain ⟨br, dr, rfl, _⟩ := k4.lists
  obtain ⟨wa, hwa⟩ : ∃ wa, wa = (w.alloc (.cells #[.slice an ls.length cn, .slice ao l.length co, .slice as0 bs.length cs, .slice ar rs.length cr] 30)).alloc (.cells #[.slice bn ls.length dn, .slice bo l.length do', .slice bs' bs.length ds, .slice br rs.length dr] 30) := ⟨_, rfl⟩
  have hsz : wa.heap.size = w.heap.size + 2 := by rw [hwa]; simp
  have P0 : Hid (Blk4 wa w.heap.size 30 (.slice an ls.length cn) (.slice ao l.length co) (.slice as0 bs.length cs) (.slice ar rs.length cr)) := by rw [hwa]; exact Blk4.new.old _
  have O0 : Hid (Blk4 wa (w.heap.size + 1) 30 (.slice bn ls.length dn) (.slice bo l.length do') (.slice bs' bs.length ds) (.slice br rs.length dr)) := by
    rw [hwa]
    have := Blk4.new (w := w.alloc (.cells #[.slice an ls.length cn, .slice ao l.length co, .slice as0 bs.length cs, .slice ar rs.length cr] 30)) (t := 30) (x := .slice bn ls.length dn) (y := .slice bo l.length do') (z := .slice bs' bs.length ds) (u := .slice br rs.length dr)
    simpa [Hid] using this
  have HA : Hid (Below w.heap.size w wa) := by rw [hwa]; exact ((Below.refl w.heap.size w).alloc (Nat.le_refl _) _).alloc (by simp) _
  have HG : Hid (GraphV wa (.agg #[.slice an ls.length cn, .slice ao l.length co]) ls l) := ⟨_, _, rfl, h1.below HA.out, h2.below HA.out⟩
  have HK : Hid (GraphV wa (.agg #[.slice bn ls.length dn, .slice bo l.length do']) ls l) := ⟨_, _, rfl, k1.below HA.out, k2.below HA.out⟩
  have HWA := Lib.hid hwa
  clear hwa h1 h2 h3 h4 k1 k2 k3 k4
  go_enter Tryz.func30, Tryz.ntmps30
  go_wp2_with fail
  rw [← HWA.out]
  refine (eqGraph_any ls ls l l _ _ wa HG.out HK.out (by omega)).mono ?_
  rw [sameG_self]
  rintro e w1 ⟨rfl, hb1⟩
  have HB1 := Lib.hid (bth HA.out hb1 (Nat.le_refl _))
  have P1 := Lib.hid (P0.out.below hb1 (by omega))
  have O1 := Lib.hid (O0.out.below hb1 (by omega))
  have hs1 := hb1.size
  have c2 := P1.out.cells.2.2.1
  have d2 := O1.out.cells.2.2.1
  clear hb1
  go_wp2_with fail
  refine (eqBoolS_any bs bs _ _ w1 (H3.out.below HB1.out) (K3.out.below HB1.out) (by omega)).mono ?_
  rw [decide_eq_true (rfl : bs = bs)]
  rintro e w2 ⟨rfl, hb2⟩
  have HB2 := Lib.hid (bth HB1.out hb2 (Nat.le_refl _))
  have c3 := (P1.out.below hb2 (by omega)).cells.2.2.2
  have d3 := (O1.out.below hb2 (by omega)).cells.2.2.2
  clear hb2 c2 d2
  go_wp2_with fail
  refine (eqOpSS_any rs rs _ _ w2 (H4.out.below HB2.out) (K4.out.below HB2.out) (by omega)).mono ?_
  rw [decide_eq_true (rfl : rs = rs)]
  rintro e w3 ⟨rfl, hb3⟩
  have HB3 := Lib.hid (bth HB2.out hb3 (Nat.le_refl _))
  clear hb3 c3 d3
  go_wp2_with fail
  go_ret
  exact ⟨rfl, HB3.out⟩

theorem load_plan {w : World} {b : Nat} {x y z u : Value} (h : Blk4 w b 30 x y z u) : (loadVar 30 ⟨b, 0, none⟩).run Tryz.prog w = .ok (.agg #[x, y, z, u]) w := by
  obtain ⟨h0, h1, h2, h3⟩ := h.cells
  clear h
  go_simp
end Go.Proofs.YtngldlconipnnaaGreatDoor

/- Walks: digests of both programs; the reference's good recipes. -/
namespace Go.Proofs.YtngldlconipnnaaGreatDoor
open Go.RowKit Pth

/-- A number and whether it was told. -/
def IntPost (x : Int) (b : Bool) (w : World) (e : Ending) (w' : World) : Prop := e = .returned (.tuple #[.int .i64 x, .bool b]) ∧ w = w'
theorem bytes_at {s : ByteArray} {k : Nat} (hk : k < s.size) : s.data.toList[k]'(by simpa using hk) = s[k] := rfl

/-- A bool is handed back; what lay there lies there. -/
def BoolPost (b : Bool) (w : World) (e : Ending) (w' : World) : Prop := e = .returned (.bool b) ∧ Below w.heap.size w w'
theorem in_l {n lo hi : Int} {b : Bool} (h : (decide (lo ≤ n) && decide (n ≤ hi)) = b) (w : World) : Calls Tryz.prog 169 #[.int .i64 n, .int .i64 lo, .int .i64 hi] w fun e w' => e = .returned (.bool b) ∧ w = w' := by
  have := l1In_any n lo hi w; rwa [h] at this
theorem nil_b {t : List UInt8} {b : Bool} (h : decide (t = []) = b) : (t == []) = b := by
  subst h; cases t <;> rfl

set_option maxRecDepth 20000 in
set_option maxHeartbeats 2000000 in
theorem l4Op_any (o : OpT) (ins : Int) (w : World) (h0 : 0 ≤ ins) (h1 : ins ≤ 10) (hx : o.2.2.length ≤ maxLen) :
    Calls Tryz.prog 172 #[opV o, .int .i64 ins] w (BoolPost (opOk ins o) w) := by
  obtain ⟨k, n, t⟩ := o
  unfold opV
  simp only at hx ⊢
  unfold maxLen at hx
  have HB := Lib.hid ((Below.refl w.heap.size w).alloc (Nat.le_refl _) (.cells #[.int .i64 k, .int .i64 n, .string ⟨t.toArray⟩] 189))
  by_cases k1 : k = 1
  · subst k1
    obtain ⟨b1, hb1⟩ : ∃ b, (decide (0 ≤ n) && decide (n ≤ ins - 1)) = b := ⟨_, rfl⟩
    obtain ⟨b2, hb2⟩ : ∃ b, decide (t = []) = b := ⟨_, rfl⟩
    have HT : Hid (opOk ins (1, n, t) = (b1 && b2)) := by rw [opOk_cat, hb1, hb2]; rfl
    have HC := Lib.hid (fun W => in_l hb1 W)
    have hn := nil_b hb2
    clear hb1 hb2
    rcases b1 with _ | _
    · go_enter Tryz.func172, Tryz.ntmps172
      go_wp2_with fail
      refine (HC.out _).mono ?_
      rintro e w1 ⟨rfl, rfl⟩
      go_wp2_with fail
      go_ret
      exact ⟨ret_bool HT.out.symm, HB.out⟩
    · go_enter Tryz.func172, Tryz.ntmps172
      go_wp2_with fail
      refine (HC.out _).mono ?_
      rintro e w1 ⟨rfl, rfl⟩
      go_wp2_with fail
      go_ret
      exact ⟨ret_bool HT.out.symm, HB.out⟩
  have e1 : (k == 1) = false := by simpa using k1
  by_cases k2 : k = 2
  · subst k2
    obtain ⟨b1, hb1⟩ : ∃ b, decide (n = 0) = b := ⟨_, rfl⟩
    obtain ⟨b2, hb2⟩ : ∃ b, decide (t.length ≤ 10) = b := ⟨_, rfl⟩
    have HT : Hid (opOk ins (2, n, t) = (b1 && b2)) := by rw [opOk_text, hb1, hb2]; rfl
    have hn1 : (n == 0) = b1 := hb1
    have hn2 : decide ((t.length : Int) ≤ 10) = b2 := by rw [← hb2]; exact decide_eq_decide.2 (by omega)
    clear hb1 hb2 e1 k1
    rcases b1 with _ | _ <;> rcases b2 with _ | _ <;>
      (go_enter Tryz.func172, Tryz.ntmps172
       go_wp2_with fail
       go_ret
       exact ⟨ret_bool HT.out.symm, HB.out⟩)
  have e2 : (k == 2) = false := by simpa using k2
  by_cases k5 : k = 5
  · subst k5
    obtain ⟨b1, hb1⟩ : ∃ b, (decide (0 ≤ n) && decide (n ≤ 40)) = b := ⟨_, rfl⟩
    obtain ⟨b2, hb2⟩ : ∃ b, decide (t = []) = b := ⟨_, rfl⟩
    have HT : Hid (opOk ins (5, n, t) = (b1 && b2)) := by rw [opOk_drop, hb1, hb2]; rfl
    have HC := Lib.hid (fun W => in_l hb1 W)
    have hn := nil_b hb2
    clear hb1 hb2 e1 k1 e2 k2
    rcases b1 with _ | _
    · go_enter Tryz.func172, Tryz.ntmps172
      go_wp2_with fail
      refine (HC.out _).mono ?_
      rintro e w1 ⟨rfl, rfl⟩
      go_wp2_with fail
      go_ret
      exact ⟨ret_bool HT.out.symm, HB.out⟩
    · go_enter Tryz.func172, Tryz.ntmps172
      go_wp2_with fail
      refine (HC.out _).mono ?_
      rintro e w1 ⟨rfl, rfl⟩
      go_wp2_with fail
      go_ret
      exact ⟨ret_bool HT.out.symm, HB.out⟩
  have e5 : (k == 5) = false := by simpa using k5
  by_cases k3 : k = 3 ∨ k = 4 ∨ k = 6 ∨ k = 7
  · obtain ⟨b1, hb1⟩ : ∃ b, decide (n = 0) = b := ⟨_, rfl⟩
    obtain ⟨b2, hb2⟩ : ∃ b, decide (t = []) = b := ⟨_, rfl⟩
    have HT : Hid (opOk ins (k, n, t) = (b1 && b2)) := by rw [opOk_bare k3, hb1, hb2]; rfl
    have hn1 : (n == 0) = b1 := hb1
    have hn := nil_b hb2
    clear hb1 hb2 k1 k2 k5 e1 e2 e5
    rcases k3 with rfl | rfl | rfl | rfl <;> rcases b1 with _ | _ <;>
      (go_enter Tryz.func172, Tryz.ntmps172
       go_wp2_with fail
       go_ret
       exact ⟨ret_bool HT.out.symm, HB.out⟩)
  · have k3' : k ≠ 3 ∧ k ≠ 4 ∧ k ≠ 6 ∧ k ≠ 7 := by omega
    have HT := Lib.hid (opOk_none (ins := ins) (n := n) (t := t) k1 k2 k3'.1 k3'.2.1 k5 k3'.2.2.1 k3'.2.2.2)
    have e3 : (k == 3) = false := by simpa using k3'.1
    have e4 : (k == 4) = false := by simpa using k3'.2.1
    have e6 : (k == 6) = false := by simpa using k3'.2.2.1
    have e7 : (k == 7) = false := by simpa using k3'.2.2.2
    clear k1 k2 k5 k3 k3'
    go_enter Tryz.func172, Tryz.ntmps172
    go_wp2_with fail
    go_ret
    exact ⟨ret_bool HT.out.symm, HB.out⟩

end Go.Proofs.YtngldlconipnnaaGreatDoor

/- Walks: the reference's good recipes, what they read, their texts. -/
namespace Go.Proofs.YtngldlconipnnaaGreatDoor
open Go.RowKit Pth

theorem l4Op_b {o : OpT} {ins : Int} {b : Bool} (h : opOk ins o = b) (h0 : 0 ≤ ins) (h1 : ins ≤ 10) (hx : o.2.2.length ≤ maxLen) (w : World) : Calls Tryz.prog 172 #[opV o, .int .i64 ins] w (BoolPost b w) := by
  have := l4Op_any o ins w h0 h1 hx; rwa [h] at this

set_option maxRecDepth 20000 in
set_option maxHeartbeats 2000000 in
theorem specGoodR_any (r : List OpT) (ins : Int) (v : Value) (w : World) (hrow : RowO w v r) (hx : ∀ f ∈ r, f.2.2.length ≤ maxLen) :
    Calls Tryz.prog 129 #[v, .int .i64 ins] w (BoolPost (goodR r ins) w) := by
  obtain ⟨a, cap, rfl, hc1, hc2, hat⟩ := hrow.ops
  clear hrow
  unfold maxLen at hc2
  by_cases hi : 0 ≤ ins ∧ ins ≤ 10
  · have HC0 := Lib.hid (fun W => in_l (n := ins) (lo := 0) (hi := 10) (b := true) (by simp [hi.1, hi.2]) W)
    by_cases h8 : 8 < r.length
    · have HT := Lib.hid (goodR_long (ins := ins) h8)
      have hd : decide ((r.length : Int) > 8) = true := decide_eq_true (by omega)
      clear hat hx
      go_enter Tryz.func129, Tryz.ntmps129
      go_wp2_with fail
      refine (HC0.out _).mono ?_
      rintro e w1 ⟨rfl, rfl⟩
      go_wp2_with fail
      go_ret
      exact ⟨ret_bool HT.out.symm, Below.refl _ _⟩
    · have hd : decide ((r.length : Int) > 8) = false := decide_eq_false (by omega)
      obtain ⟨hi0, hi1⟩ := hi
      go_enter Tryz.func129, Tryz.ntmps129
      go_wp2_with fail
      refine (HC0.out _).mono ?_
      rintro e w1 ⟨rfl, rfl⟩
      go_wp2_with fail
      go_loopw [17] (fun i wr => ∃ k : Nat, k ≤ r.length ∧ i = .int .i64 k ∧ Hid (Below w.heap.size w wr) ∧ Hid ((r.take k).all (opOk ins) = true)) (fun i _ => r.length - (intOf i).toNat)
      case atStart => exact ⟨0, Nat.zero_le _, rfl, Below.refl _ _, by simp [Hid]⟩
      case round =>
        obtain ⟨k, hk, rfl, HB, HO⟩ := hrel
        have hbs := HB.out.size
        by_cases hlt : k < r.length
        · obtain ⟨g, o, rfl, hg, hcell1, hcell2, hcell3⟩ := hat k hlt
          have s1 := (HB.out.cell (p := ⟨g, o + k * 3, none⟩) hg).trans hcell1
          have s2 := (HB.out.cell (p := ⟨g, o + k * 3 + 1, none⟩) hg).trans hcell2
          have s3 := (HB.out.cell (p := ⟨g, o + k * 3 + 2, none⟩) hg).trans hcell3
          have HBA := Lib.hid (HB.out.alloc hbs (.cells #[.int .i64 r[k].1, .int .i64 r[k].2.1, .string ⟨r[k].2.2.toArray⟩] 189))
          have hxl := hx r[k] (List.getElem_mem hlt)
          obtain ⟨b, hbE⟩ : ∃ b, opOk ins r[k] = b := ⟨_, rfl⟩
          have HC := Lib.hid (fun W => l4Op_b hbE hi0 hi1 hxl W)
          have HS : Hid (if b then (r.take (k + 1)).all (opOk ins) = true else goodR r ins = false) := by
            unfold Hid
            rcases b with _ | _
            · exact goodR_bad hlt hbE
            · exact all_next hlt HO.out hbE
          clear hcell1 hcell2 hcell3 hat HO hx hxl hbE
          generalize r[k] = x at s1 s2 s3 HC HBA
          obtain ⟨x1, x2, x3⟩ := x
          unfold opV at HC
          simp only at s1 s2 s3 HC HBA
          go_wp2_with fail
          refine (HC.out _).mono ?_
          rintro e w1 ⟨rfl, hb1⟩
          have HB1 := Lib.hid (HBA.out.trans (hb1.mono HBA.out.size))
          clear hb1 HC
          rcases b with _ | _
          · go_wp2_with fail
            go_ret
            exact ⟨ret_bool (by have := HS.out; simpa using this.symm), HB1.out⟩
          · go_wp2_with fail
            go_roundw
            case rel => exact ⟨k + 1, by omega, by go_num, HB1, by have := HS.out; simpa [Hid] using this⟩
            case measure => simp [intOf]; omega
        · have HT := Lib.hid (goodR_end hi0 hi1 (by omega) (by omega : r.length ≤ k) HO.out)
          clear HO hat hx
          go_wp2_with fail
          go_ret
          exact ⟨ret_bool HT.out.symm, HB.out⟩
  · have HC0 := Lib.hid (fun W => in_l (n := ins) (lo := 0) (hi := 10) (b := false) (by
      rcases Int.lt_or_le ins 0 with h | h
      · simp; omega
      · simp; omega) W)
    have HT := Lib.hid (goodR_ins (r := r) hi)
    clear hat hx
    go_enter Tryz.func129, Tryz.ntmps129
    go_wp2_with fail
    refine (HC0.out _).mono ?_
    rintro e w1 ⟨rfl, rfl⟩
    go_wp2_with fail
    go_ret
    exact ⟨ret_bool HT.out.symm, Below.refl _ _⟩

theorem specGood_b {r : List OpT} {ins : Int} {b : Bool} (h : goodR r ins = b) (v : Value) (w : World) (hrow : RowO w v r) (hx : ∀ f ∈ r, f.2.2.length ≤ maxLen) : Calls Tryz.prog 129 #[v, .int .i64 ins] w (BoolPost b w) := by
  have := specGoodR_any r ins v w hrow hx; rwa [h] at this

/-- Numbers and whether they stand are handed back, the numbers in memory of the call's own. -/
def IntsOk (l : List Int) (ok : Bool) (w : World) (e : Ending) (w' : World) : Prop :=
  ∃ v, e = .returned (.tuple #[v, .bool ok]) ∧ w'.ownsRow w.heap.size 3 1 v l.length (I l) ∧ Below w.heap.size w w'
/-- A text and whether it stands. -/
def TextOk (t : List UInt8) (ok : Bool) (w : World) (e : Ending) (w' : World) : Prop := e = .returned (.tuple #[.string ⟨t.toArray⟩, .bool ok]) ∧ Below w.heap.size w w'
theorem none_own (w : World) (B e : Nat) : w.ownsRow B e 1 (.slice none 0 0) 0 [] := ⟨rfl, .inl ⟨rfl, rfl⟩⟩
theorem read1_cat {out : List Int} {o : OpT} (h : (o.1 == 1) = true) : read1 out o = putL out o.2.1 := by
  rw [read1, if_pos (by simpa using h)]
theorem read1_not {out : List Int} {o : OpT} (h : (o.1 == 1) = false) : read1 out o = out := by
  rw [read1, if_neg (by simpa using h)]
theorem fold_len (r : List OpT) (out : List Int) : (r.foldl read1 out).length ≤ out.length + r.length := by
  induction r generalizing out with
  | nil => simp
  | cons o t ih =>
    have h1 := ih (read1 out o)
    have h2 : (read1 out o).length ≤ out.length + 1 := by
      unfold read1
      split
      · exact put_len _ _
      · omega
    simp only [List.foldl_cons, List.length_cons] at h1 ⊢
    omega

end Go.Proofs.YtngldlconipnnaaGreatDoor

/- Plain mathematics: what is sorted and has no two alike any more; no program. -/
namespace Go.Proofs.YtngldlconipnnaaGreatDoor
namespace Pth
open Go.Lib

def sortI (l : List Int) : List Int := l.mergeSort fun x y => decide (x ≤ y)
theorem sortI_perm (l : List Int) : (sortI l).Perm l := List.mergeSort_perm _ _
theorem sortI_sorted (l : List Int) : (sortI l).Pairwise (· ≤ ·) := by
  have := List.pairwise_mergeSort (le := fun a b : Int => decide (a ≤ b)) (fun a b c h1 h2 => by simp only [decide_eq_true_eq] at *; omega) (fun a b => by simp only [Bool.or_eq_true, decide_eq_true_eq]; omega) l
  exact this.imp (fun h => by simpa using h)
theorem get_bang {l : List Int} {j : Nat} (hj : j < l.length) : l.toArray[j]! = l[j] := by
  simp [hj]
theorem mem_compact {l : List Int} {x : Int} : x ∈ compact l ↔ x ∈ l := by
  unfold compact compactUpTo
  constructor
  · intro h
    obtain ⟨j, hj, rfl⟩ := List.mem_map.1 h
    have hj' := List.mem_range.1 (List.mem_filter.1 hj).1
    rw [get_bang hj']
    exact List.getElem_mem hj'
  · intro h
    have key : ∀ j : Nat, (hj : j < l.length) → l[j] = x → x ∈ ((List.range l.length).filter (keeps l.toArray)).map (l.toArray[·]!) := by
      intro j
      induction j with
      | zero =>
        intro hj hx
        refine List.mem_map.2 ⟨0, List.mem_filter.2 ⟨List.mem_range.2 hj, by simp [keeps]⟩, by rw [get_bang hj]; exact hx⟩
      | succ j ih =>
        intro hj hx
        by_cases he : l[j] = x
        · exact ih (by omega) he
        · refine List.mem_map.2 ⟨j + 1, List.mem_filter.2 ⟨List.mem_range.2 hj, ?_⟩, by rw [get_bang hj]; exact hx⟩
          apply keeps_pos
          rw [get_bang hj, Nat.add_sub_cancel, get_bang (by omega : j < l.length), hx]
          exact fun h => he h.symm
    obtain ⟨j, hj, hx⟩ := List.mem_iff_getElem.1 h
    exact key j hj hx
theorem compact_rise {l : List Int} (h : l.Pairwise (· ≤ ·)) : Rise (compact l) := by
  unfold compact compactUpTo Rise
  rw [List.pairwise_map]
  refine List.Pairwise.imp_of_mem (R := fun a b => a < b) ?_ (List.pairwise_lt_range.filter _)
  intro i j hi hj hlt
  have hi' := List.mem_range.1 (List.mem_filter.1 hi).1
  have hj' := List.mem_range.1 (List.mem_filter.1 hj).1
  have hk := (List.mem_filter.1 hj).2
  rw [get_bang hi', get_bang hj']
  have hne : l[j] ≠ l[j - 1] := by
    simp only [keeps, decide_eq_true_eq] at hk
    rcases hk with h0 | h0
    · omega
    · rwa [get_bang hj', get_bang (by omega : j - 1 < l.length)] at h0
  have h1 : l[j - 1] ≤ l[j] := List.pairwise_iff_getElem.1 h (j - 1) j (by omega) hj' (by omega)
  have h2 : l[i] ≤ l[j - 1] := by
    by_cases e : i = j - 1
    · subst e; exact Int.le_refl _
    · exact List.pairwise_iff_getElem.1 h i (j - 1) hi' (by omega) (by omega)
  omega
theorem compact_reads (r : List OpT) : compact (sortI (catsL r)) = readsL r :=
  reads_is (compact_rise (sortI_sorted _)) (fun x => by rw [mem_compact]; exact (sortI_perm _).mem_iff)

end Pth
end Go.Proofs.YtngldlconipnnaaGreatDoor

/- The library's contracts that the walks use, at this program: each an application of the shelf's; each structure's fields are facts of the loaded program. -/
namespace Go.Proofs
open Go.Shelf Go.RowKit Go.Sort
def Tryz.lays125_ren : Go.Shelf.Ren := ⟨fun | 125 => 198 | 128 => 214 | 129 => 215 | n => n, fun | 46 => 219 | 3 => 3 | 51 => 252 | 53 => 78 | 4 => 4 | 5 => 5 | 9 => 9 | n => n, fun | n => n⟩
theorem Tryz.lays125 : Go.Proofs.Lays.n125 Tryz.prog Tryz.lays125_ren := {
  mixed := by kernel_rfl
  f125 := Tryz.func198.trans (congrArg some (by kernel_rfl))
  f128 := Tryz.func214.trans (congrArg some (by kernel_rfl))
  f129 := Tryz.func215.trans (congrArg some (by kernel_rfl))
  t3 := Tryz.underlying3
  a3 := Tryz.isAgg3
  z3 := Tryz.sizeOf3
  v3 := Tryz.zeroValue3
  t4 := Tryz.underlying4
  a4 := Tryz.isAgg4
  z4 := Tryz.sizeOf4
  v4 := Tryz.zeroValue4
  t5 := Tryz.underlying5
  a5 := Tryz.isAgg5
  z5 := Tryz.sizeOf5
  v5 := Tryz.zeroValue5
  t9 := Tryz.underlying9
  a9 := Tryz.isAgg9
  z9 := Tryz.sizeOf9
  v9 := Tryz.zeroValue9
  t46 := Tryz.underlying219
  a46 := Tryz.isAgg219
  z46 := Tryz.sizeOf219
  v46 := Tryz.zeroValue219
  t51 := Tryz.underlying252
  a51 := Tryz.isAgg252
  z51 := Tryz.sizeOf252
  v51 := Tryz.zeroValue252
  t53 := Tryz.underlying78
  a53 := Tryz.isAgg78
  z53 := Tryz.sizeOf78
  v53 := Tryz.zeroValue78 }
theorem Tryz.bits_Len (x : Int) (w : World) (h0 : 0 ≤ x) (h1 : x ≤ 18446744073709551615) :
    Calls Tryz.prog 198 #[.int .u64 x] w fun e w' => e = .returned (.int .i64 (Lib.bitLen x.toNat)) ∧ w' = w := Any.bits_Len Tryz.lays125 x w h0 h1
def Tryz.lays171_ren : Go.Shelf.Ren := ⟨fun | 171 => 204 | 243 => 219 | 246 => 228 | 283 => 239 | 284 => 240 | 285 => 241 | 286 => 242 | 129 => 215 | 317 => 247 | 318 => 248 | 319 => 249 | 320 => 250 | 337 => 252 | 338 => 253 | n => n, fun | 3 => 3 | 9 => 9 | 2 => 2 | 4 => 4 | 171 => 274 | 0 => 0 | 53 => 78 | 37 => 22 | 5 => 5 | 173 => 276 | 212 => 282 | 51 => 252 | 20 => 20 | 213 => 283 | 46 => 219 | 232 => 285 | 233 => 286 | n => n, fun | 17 => 0 | 18 => 1 | 19 => 2 | n => n⟩
theorem Tryz.lays171 : Go.Proofs.Lays.n171 Tryz.prog Tryz.lays171_ren := {
  mixed := by kernel_rfl
  f129 := Tryz.func215.trans (congrArg some (by kernel_rfl))
  f171 := Tryz.func204.trans (congrArg some (by kernel_rfl))
  f243 := Tryz.func219.trans (congrArg some (by kernel_rfl))
  f246 := Tryz.func228.trans (congrArg some (by kernel_rfl))
  f283 := Tryz.func239.trans (congrArg some (by kernel_rfl))
  f284 := Tryz.func240.trans (congrArg some (by kernel_rfl))
  f285 := Tryz.func241.trans (congrArg some (by kernel_rfl))
  f286 := Tryz.func242.trans (congrArg some (by kernel_rfl))
  f317 := Tryz.func247.trans (congrArg some (by kernel_rfl))
  f318 := Tryz.func248.trans (congrArg some (by kernel_rfl))
  f319 := Tryz.func249.trans (congrArg some (by kernel_rfl))
  f320 := Tryz.func250.trans (congrArg some (by kernel_rfl))
  f337 := Tryz.func252.trans (congrArg some (by kernel_rfl))
  f338 := Tryz.func253.trans (congrArg some (by kernel_rfl))
  t0 := Tryz.underlying0
  a0 := Tryz.isAgg0
  z0 := Tryz.sizeOf0
  v0 := Tryz.zeroValue0
  t2 := Tryz.underlying2
  a2 := Tryz.isAgg2
  z2 := Tryz.sizeOf2
  v2 := Tryz.zeroValue2
  t3 := Tryz.underlying3
  a3 := Tryz.isAgg3
  z3 := Tryz.sizeOf3
  v3 := Tryz.zeroValue3
  t4 := Tryz.underlying4
  a4 := Tryz.isAgg4
  z4 := Tryz.sizeOf4
  v4 := Tryz.zeroValue4
  t5 := Tryz.underlying5
  a5 := Tryz.isAgg5
  z5 := Tryz.sizeOf5
  v5 := Tryz.zeroValue5
  t9 := Tryz.underlying9
  a9 := Tryz.isAgg9
  z9 := Tryz.sizeOf9
  v9 := Tryz.zeroValue9
  t20 := Tryz.underlying20
  a20 := Tryz.isAgg20
  z20 := Tryz.sizeOf20
  v20 := Tryz.zeroValue20
  t37 := Tryz.underlying22
  a37 := Tryz.isAgg22
  z37 := Tryz.sizeOf22
  v37 := Tryz.zeroValue22
  t46 := Tryz.underlying219
  a46 := Tryz.isAgg219
  z46 := Tryz.sizeOf219
  v46 := Tryz.zeroValue219
  t51 := Tryz.underlying252
  a51 := Tryz.isAgg252
  z51 := Tryz.sizeOf252
  v51 := Tryz.zeroValue252
  t53 := Tryz.underlying78
  a53 := Tryz.isAgg78
  z53 := Tryz.sizeOf78
  v53 := Tryz.zeroValue78
  t171 := Tryz.underlying274
  a171 := Tryz.isAgg274
  z171 := Tryz.sizeOf274
  v171 := Tryz.zeroValue274
  t173 := Tryz.underlying276
  a173 := Tryz.isAgg276
  z173 := Tryz.sizeOf276
  v173 := Tryz.zeroValue276
  t212 := Tryz.underlying282
  a212 := Tryz.isAgg282
  z212 := Tryz.sizeOf282
  v212 := Tryz.zeroValue282
  t213 := Tryz.underlying283
  a213 := Tryz.isAgg283
  z213 := Tryz.sizeOf283
  t232 := Tryz.underlying285
  a232 := Tryz.isAgg285
  z232 := Tryz.sizeOf285
  v232 := Tryz.zeroValue285
  t233 := Tryz.underlying286
  a233 := Tryz.isAgg286
  z233 := Tryz.sizeOf286
  v233 := Tryz.zeroValue286
  g17 := by kernel_rfl
  g18 := by kernel_rfl
  g19 := by kernel_rfl }
theorem Tryz.strconv_Itoa_small (i : Nat) (hi : i < 100) (w : World) :
    Calls Tryz.prog 204 #[.int .i64 i] w fun e w' => e = .returned (.string ⟨(Lib.decDigits i).toArray⟩) ∧ w' = w := Any.strconv_Itoa_small Tryz.lays171 i hi w
def Tryz.laysM316_ren : Go.Shelf.Ren := ⟨fun | 316 => 164 | n => n, fun | 9 => 9 | 3 => 3 | 4 => 4 | 37 => 22 | 0 => 0 | 127 => 224 | 5 => 5 | n => n, fun | n => n⟩
theorem Tryz.laysM316 : Go.Proofs.LaysM.n316 Tryz.prog Tryz.laysM316_ren := {
  mixed := by kernel_rfl
  f316 := Tryz.func164.trans (congrArg some (by kernel_rfl))
  t0 := Tryz.underlying0
  a0 := Tryz.isAgg0
  z0 := Tryz.sizeOf0
  v0 := Tryz.zeroValue0
  t3 := Tryz.underlying3
  a3 := Tryz.isAgg3
  z3 := Tryz.sizeOf3
  v3 := Tryz.zeroValue3
  t4 := Tryz.underlying4
  a4 := Tryz.isAgg4
  z4 := Tryz.sizeOf4
  v4 := Tryz.zeroValue4
  t9 := Tryz.underlying9
  a9 := Tryz.isAgg9
  z9 := Tryz.sizeOf9
  v9 := Tryz.zeroValue9
  t37 := Tryz.underlying22
  a37 := Tryz.isAgg22
  z37 := Tryz.sizeOf22
  v37 := Tryz.zeroValue22
  t127 := Tryz.underlying224
  a127 := Tryz.isAgg224
  z127 := Tryz.sizeOf224
  v127 := Tryz.zeroValue224
  t5 := Tryz.underlying5
  a5 := Tryz.isAgg5
  z5 := Tryz.sizeOf5
  v5 := Tryz.zeroValue5
  i0 := by kernel_rfl
  i3 := by kernel_rfl
  i4 := by kernel_rfl
  i5 := by kernel_rfl
  i9 := by kernel_rfl
  i37 := by kernel_rfl
  i127 := by kernel_rfl }
theorem Tryz.stringslite_Clone (s : ByteArray) (w : World) (hlim : s.size ≤ 281474976710656) :
    Calls Tryz.prog 164 #[.string s] w fun e w' => e = .returned (.string s) ∧ Below w.heap.size w w' := Any.stringslite_Clone Tryz.laysM316 s w hlim
def Tryz.lays189_ren : Go.Shelf.Ren := ⟨fun | 189 => 178 | 125 => 198 | 257 => 197 | 128 => 214 | 129 => 215 | 294 => 205 | 295 => 206 | 296 => 207 | 297 => 208 | 298 => 209 | 299 => 210 | 216 => 211 | 300 => 212 | 301 => 213 | 328 => 220 | 329 => 221 | 330 => 222 | 331 => 223 | 332 => 224 | 215 => 225 | 343 => 229 | n => n, fun | 28 => 24 | 3 => 3 | 46 => 219 | 0 => 0 | 51 => 252 | 53 => 78 | 4 => 4 | 183 => 246 | 182 => 245 | 131 => 147 | 5 => 5 | 9 => 9 | 218 => 256 | 222 => 260 | 228 => 265 | 229 => 266 | n => n, fun | n => n⟩
theorem Tryz.lays189 : Go.Proofs.Lays.n189 Tryz.prog Tryz.lays189_ren := {
  mixed := by kernel_rfl
  f125 := Tryz.func198.trans (congrArg some (by kernel_rfl))
  f128 := Tryz.func214.trans (congrArg some (by kernel_rfl))
  f129 := Tryz.func215.trans (congrArg some (by kernel_rfl))
  f189 := Tryz.func178.trans (congrArg some (by kernel_rfl))
  f215 := Tryz.func225.trans (congrArg some (by kernel_rfl))
  f216 := Tryz.func211.trans (congrArg some (by kernel_rfl))
  f257 := Tryz.func197.trans (congrArg some (by kernel_rfl))
  f294 := Tryz.func205.trans (congrArg some (by kernel_rfl))
  f295 := Tryz.func206.trans (congrArg some (by kernel_rfl))
  f296 := Tryz.func207.trans (congrArg some (by kernel_rfl))
  f297 := Tryz.func208.trans (congrArg some (by kernel_rfl))
  f298 := Tryz.func209.trans (congrArg some (by kernel_rfl))
  f299 := Tryz.func210.trans (congrArg some (by kernel_rfl))
  f300 := Tryz.func212.trans (congrArg some (by kernel_rfl))
  f301 := Tryz.func213.trans (congrArg some (by kernel_rfl))
  f328 := Tryz.func220.trans (congrArg some (by kernel_rfl))
  f329 := Tryz.func221.trans (congrArg some (by kernel_rfl))
  f330 := Tryz.func222.trans (congrArg some (by kernel_rfl))
  f331 := Tryz.func223.trans (congrArg some (by kernel_rfl))
  f332 := Tryz.func224.trans (congrArg some (by kernel_rfl))
  f343 := Tryz.func229.trans (congrArg some (by kernel_rfl))
  t0 := Tryz.underlying0
  a0 := Tryz.isAgg0
  z0 := Tryz.sizeOf0
  v0 := Tryz.zeroValue0
  t3 := Tryz.underlying3
  a3 := Tryz.isAgg3
  z3 := Tryz.sizeOf3
  v3 := Tryz.zeroValue3
  t4 := Tryz.underlying4
  a4 := Tryz.isAgg4
  z4 := Tryz.sizeOf4
  v4 := Tryz.zeroValue4
  t5 := Tryz.underlying5
  a5 := Tryz.isAgg5
  z5 := Tryz.sizeOf5
  v5 := Tryz.zeroValue5
  t9 := Tryz.underlying9
  a9 := Tryz.isAgg9
  z9 := Tryz.sizeOf9
  v9 := Tryz.zeroValue9
  t28 := Tryz.underlying24
  a28 := Tryz.isAgg24
  z28 := Tryz.sizeOf24
  v28 := Tryz.zeroValue24
  t46 := Tryz.underlying219
  a46 := Tryz.isAgg219
  z46 := Tryz.sizeOf219
  v46 := Tryz.zeroValue219
  t51 := Tryz.underlying252
  a51 := Tryz.isAgg252
  z51 := Tryz.sizeOf252
  v51 := Tryz.zeroValue252
  t53 := Tryz.underlying78
  a53 := Tryz.isAgg78
  z53 := Tryz.sizeOf78
  v53 := Tryz.zeroValue78
  t131 := Tryz.underlying147
  a131 := Tryz.isAgg147
  z131 := Tryz.sizeOf147
  v131 := Tryz.zeroValue147
  t182 := Tryz.underlying245
  a182 := Tryz.isAgg245
  z182 := Tryz.sizeOf245
  v182 := Tryz.zeroValue245
  t183 := Tryz.underlying246
  a183 := Tryz.isAgg246
  z183 := Tryz.sizeOf246
  v183 := Tryz.zeroValue246
  t218 := Tryz.underlying256
  a218 := Tryz.isAgg256
  z218 := Tryz.sizeOf256
  v218 := Tryz.zeroValue256
  t222 := Tryz.underlying260
  a222 := Tryz.isAgg260
  z222 := Tryz.sizeOf260
  v222 := Tryz.zeroValue260
  t228 := Tryz.underlying265
  a228 := Tryz.isAgg265
  z228 := Tryz.sizeOf265
  v228 := Tryz.zeroValue265
  t229 := Tryz.underlying266
  a229 := Tryz.isAgg266
  z229 := Tryz.sizeOf266
  v229 := Tryz.zeroValue266 }
theorem Tryz.slices_Sort_int (blk off cap : Nat) (zs : List Int) (w : World) (hH : Holds (Value.int .i64) w blk off zs.toArray) (hblk : blk < w.heap.size) (hsz : zs.length < 4611686018427387904) :
    Calls Tryz.prog 178 #[.slice (some ⟨blk, off, none⟩) zs.length cap] w fun e w' =>
      e = .returned (.tuple #[]) ∧ ∃ n os, w' = grow (putRow (Value.int .i64) (Sort.ahead w n) blk off (zs.mergeSort fun x y => decide (x ≤ y)).toArray) os := Any.slices_Sort_int Tryz.lays189 blk off cap zs w hH hblk hsz
theorem Tryz.slices_Sort_int_none (p : Option Addr) (cap : Nat) (w : World) :
    Calls Tryz.prog 178 #[.slice p 0 cap] w fun e w' => e = .returned (.tuple #[]) ∧ w' = w := Any.slices_Sort_int_none Tryz.lays189 p cap w
end Go.Proofs

/- Numbers in memory of the call's own: sorted, and without two alike, by the library. -/
namespace Go.Proofs.YtngldlconipnnaaGreatDoor
open Go.RowKit Pth Go.Lib Go.Sort

theorem I_enc (l : List Int) : I l = l.map (Value.int .i64) := rfl
theorem sortI_len (l : List Int) : (sortI l).length = l.length := (sortI_perm l).length_eq
theorem sortInts_any (l : List Int) (v : Value) (B : Nat) (w : World) (hown : w.ownsRow B 3 1 v l.length (I l)) (hl : l.length ≤ 1000000) (hB : B ≤ w.heap.size) :
    Calls Tryz.prog 178 #[v] w fun e w' => e = .returned (.tuple #[]) ∧ w'.ownsRow B 3 1 v (sortI l).length (I (sortI l)) ∧ Below B w w' := by
  rcases hown.2 with ⟨hv, h0⟩ | ⟨g, cap, cur, hv, hBg, hh, h1, h2, h3, h4⟩
  · subst hv
    have h00 : l = [] := List.eq_nil_of_length_eq_zero h0
    subst h00
    refine (Tryz.slices_Sort_int_none none 0 w).mono fun e w' ⟨he, hw⟩ => ?_
    subst hw
    rw [show sortI [] = [] by simp [sortI]]
    exact ⟨he, hown, Below.refl _ _⟩
  · subst hv
    have hH := holds_of_blockI (ss := l) hh (by rw [Nat.mul_one] at h4; rw [← I_enc]; exact h4)
    refine (Tryz.slices_Sort_int g 0 cap l w hH (lt_of_block hh) (by omega)).mono ?_
    rintro e w' ⟨he, n, os, rfl⟩
    refine ⟨he, ?_, (Below.refl B w).grown (grownBy_sortedI _) hB (fun k hk => by cases hk; exact hBg)⟩
    have := ownsRow_sortedI (base := B) (n := n) (os := os) (ss := l) (ts := sortI l) (sortI_len l) hBg hh h1 h2 h3
    rw [sortI_len, I_enc]
    exact this
theorem compact_len (l : List Int) : (compact l).length ≤ l.length := compact_length_le l
end Go.Proofs.YtngldlconipnnaaGreatDoor

/- What a type assertion gives at each deed: closed facts of the loaded program. -/
namespace Go.Proofs.YtngldlconipnnaaGreatDoor
open Go.RowKit

theorem ta_cat_cat (v : Value) (w : World) : (Instr.typeAssert (.iface 234 v) 222 234 true).run Tryz.prog w = .ok (.tuple #[v, .bool true]) w := by kernel_rfl
theorem ta_cat_text (v : Value) (w : World) : (Instr.typeAssert (.iface 234 v) 222 236 true).run Tryz.prog w = .ok (.tuple #[.agg #[.string ByteArray.empty], .bool false]) w := by kernel_rfl
theorem ta_cat_upper (v : Value) (w : World) : (Instr.typeAssert (.iface 234 v) 222 238 true).run Tryz.prog w = .ok (.tuple #[.agg #[], .bool false]) w := by kernel_rfl
theorem ta_cat_sort (v : Value) (w : World) : (Instr.typeAssert (.iface 234 v) 222 239 true).run Tryz.prog w = .ok (.tuple #[.agg #[], .bool false]) w := by kernel_rfl
theorem ta_cat_drop (v : Value) (w : World) : (Instr.typeAssert (.iface 234 v) 222 241 true).run Tryz.prog w = .ok (.tuple #[.agg #[.int .i64 0], .bool false]) w := by kernel_rfl
theorem ta_cat_count (v : Value) (w : World) : (Instr.typeAssert (.iface 234 v) 222 242 true).run Tryz.prog w = .ok (.tuple #[.agg #[], .bool false]) w := by kernel_rfl
theorem ta_cat_fail (v : Value) (w : World) : (Instr.typeAssert (.iface 234 v) 222 243 true).run Tryz.prog w = .ok (.tuple #[.agg #[], .bool false]) w := by kernel_rfl
theorem ta_text_cat (v : Value) (w : World) : (Instr.typeAssert (.iface 236 v) 222 234 true).run Tryz.prog w = .ok (.tuple #[.agg #[.int .i64 0], .bool false]) w := by kernel_rfl
theorem ta_text_text (v : Value) (w : World) : (Instr.typeAssert (.iface 236 v) 222 236 true).run Tryz.prog w = .ok (.tuple #[v, .bool true]) w := by kernel_rfl
theorem ta_text_upper (v : Value) (w : World) : (Instr.typeAssert (.iface 236 v) 222 238 true).run Tryz.prog w = .ok (.tuple #[.agg #[], .bool false]) w := by kernel_rfl
theorem ta_text_sort (v : Value) (w : World) : (Instr.typeAssert (.iface 236 v) 222 239 true).run Tryz.prog w = .ok (.tuple #[.agg #[], .bool false]) w := by kernel_rfl
theorem ta_text_drop (v : Value) (w : World) : (Instr.typeAssert (.iface 236 v) 222 241 true).run Tryz.prog w = .ok (.tuple #[.agg #[.int .i64 0], .bool false]) w := by kernel_rfl
theorem ta_text_count (v : Value) (w : World) : (Instr.typeAssert (.iface 236 v) 222 242 true).run Tryz.prog w = .ok (.tuple #[.agg #[], .bool false]) w := by kernel_rfl
theorem ta_text_fail (v : Value) (w : World) : (Instr.typeAssert (.iface 236 v) 222 243 true).run Tryz.prog w = .ok (.tuple #[.agg #[], .bool false]) w := by kernel_rfl
theorem ta_upper_cat (v : Value) (w : World) : (Instr.typeAssert (.iface 238 v) 222 234 true).run Tryz.prog w = .ok (.tuple #[.agg #[.int .i64 0], .bool false]) w := by kernel_rfl
theorem ta_upper_text (v : Value) (w : World) : (Instr.typeAssert (.iface 238 v) 222 236 true).run Tryz.prog w = .ok (.tuple #[.agg #[.string ByteArray.empty], .bool false]) w := by kernel_rfl
theorem ta_upper_upper (v : Value) (w : World) : (Instr.typeAssert (.iface 238 v) 222 238 true).run Tryz.prog w = .ok (.tuple #[v, .bool true]) w := by kernel_rfl
theorem ta_upper_sort (v : Value) (w : World) : (Instr.typeAssert (.iface 238 v) 222 239 true).run Tryz.prog w = .ok (.tuple #[.agg #[], .bool false]) w := by kernel_rfl
theorem ta_upper_drop (v : Value) (w : World) : (Instr.typeAssert (.iface 238 v) 222 241 true).run Tryz.prog w = .ok (.tuple #[.agg #[.int .i64 0], .bool false]) w := by kernel_rfl
theorem ta_upper_count (v : Value) (w : World) : (Instr.typeAssert (.iface 238 v) 222 242 true).run Tryz.prog w = .ok (.tuple #[.agg #[], .bool false]) w := by kernel_rfl
theorem ta_upper_fail (v : Value) (w : World) : (Instr.typeAssert (.iface 238 v) 222 243 true).run Tryz.prog w = .ok (.tuple #[.agg #[], .bool false]) w := by kernel_rfl
theorem ta_sort_cat (v : Value) (w : World) : (Instr.typeAssert (.iface 239 v) 222 234 true).run Tryz.prog w = .ok (.tuple #[.agg #[.int .i64 0], .bool false]) w := by kernel_rfl
theorem ta_sort_text (v : Value) (w : World) : (Instr.typeAssert (.iface 239 v) 222 236 true).run Tryz.prog w = .ok (.tuple #[.agg #[.string ByteArray.empty], .bool false]) w := by kernel_rfl
theorem ta_sort_upper (v : Value) (w : World) : (Instr.typeAssert (.iface 239 v) 222 238 true).run Tryz.prog w = .ok (.tuple #[.agg #[], .bool false]) w := by kernel_rfl
theorem ta_sort_sort (v : Value) (w : World) : (Instr.typeAssert (.iface 239 v) 222 239 true).run Tryz.prog w = .ok (.tuple #[v, .bool true]) w := by kernel_rfl
theorem ta_sort_drop (v : Value) (w : World) : (Instr.typeAssert (.iface 239 v) 222 241 true).run Tryz.prog w = .ok (.tuple #[.agg #[.int .i64 0], .bool false]) w := by kernel_rfl
theorem ta_sort_count (v : Value) (w : World) : (Instr.typeAssert (.iface 239 v) 222 242 true).run Tryz.prog w = .ok (.tuple #[.agg #[], .bool false]) w := by kernel_rfl
theorem ta_sort_fail (v : Value) (w : World) : (Instr.typeAssert (.iface 239 v) 222 243 true).run Tryz.prog w = .ok (.tuple #[.agg #[], .bool false]) w := by kernel_rfl
theorem ta_drop_cat (v : Value) (w : World) : (Instr.typeAssert (.iface 241 v) 222 234 true).run Tryz.prog w = .ok (.tuple #[.agg #[.int .i64 0], .bool false]) w := by kernel_rfl
theorem ta_drop_text (v : Value) (w : World) : (Instr.typeAssert (.iface 241 v) 222 236 true).run Tryz.prog w = .ok (.tuple #[.agg #[.string ByteArray.empty], .bool false]) w := by kernel_rfl
theorem ta_drop_upper (v : Value) (w : World) : (Instr.typeAssert (.iface 241 v) 222 238 true).run Tryz.prog w = .ok (.tuple #[.agg #[], .bool false]) w := by kernel_rfl
theorem ta_drop_sort (v : Value) (w : World) : (Instr.typeAssert (.iface 241 v) 222 239 true).run Tryz.prog w = .ok (.tuple #[.agg #[], .bool false]) w := by kernel_rfl
theorem ta_drop_drop (v : Value) (w : World) : (Instr.typeAssert (.iface 241 v) 222 241 true).run Tryz.prog w = .ok (.tuple #[v, .bool true]) w := by kernel_rfl
theorem ta_drop_count (v : Value) (w : World) : (Instr.typeAssert (.iface 241 v) 222 242 true).run Tryz.prog w = .ok (.tuple #[.agg #[], .bool false]) w := by kernel_rfl
theorem ta_drop_fail (v : Value) (w : World) : (Instr.typeAssert (.iface 241 v) 222 243 true).run Tryz.prog w = .ok (.tuple #[.agg #[], .bool false]) w := by kernel_rfl
theorem ta_count_cat (v : Value) (w : World) : (Instr.typeAssert (.iface 242 v) 222 234 true).run Tryz.prog w = .ok (.tuple #[.agg #[.int .i64 0], .bool false]) w := by kernel_rfl
theorem ta_count_text (v : Value) (w : World) : (Instr.typeAssert (.iface 242 v) 222 236 true).run Tryz.prog w = .ok (.tuple #[.agg #[.string ByteArray.empty], .bool false]) w := by kernel_rfl
theorem ta_count_upper (v : Value) (w : World) : (Instr.typeAssert (.iface 242 v) 222 238 true).run Tryz.prog w = .ok (.tuple #[.agg #[], .bool false]) w := by kernel_rfl
theorem ta_count_sort (v : Value) (w : World) : (Instr.typeAssert (.iface 242 v) 222 239 true).run Tryz.prog w = .ok (.tuple #[.agg #[], .bool false]) w := by kernel_rfl
theorem ta_count_drop (v : Value) (w : World) : (Instr.typeAssert (.iface 242 v) 222 241 true).run Tryz.prog w = .ok (.tuple #[.agg #[.int .i64 0], .bool false]) w := by kernel_rfl
theorem ta_count_count (v : Value) (w : World) : (Instr.typeAssert (.iface 242 v) 222 242 true).run Tryz.prog w = .ok (.tuple #[v, .bool true]) w := by kernel_rfl
theorem ta_count_fail (v : Value) (w : World) : (Instr.typeAssert (.iface 242 v) 222 243 true).run Tryz.prog w = .ok (.tuple #[.agg #[], .bool false]) w := by kernel_rfl
theorem ta_fail_cat (v : Value) (w : World) : (Instr.typeAssert (.iface 243 v) 222 234 true).run Tryz.prog w = .ok (.tuple #[.agg #[.int .i64 0], .bool false]) w := by kernel_rfl
theorem ta_fail_text (v : Value) (w : World) : (Instr.typeAssert (.iface 243 v) 222 236 true).run Tryz.prog w = .ok (.tuple #[.agg #[.string ByteArray.empty], .bool false]) w := by kernel_rfl
theorem ta_fail_upper (v : Value) (w : World) : (Instr.typeAssert (.iface 243 v) 222 238 true).run Tryz.prog w = .ok (.tuple #[.agg #[], .bool false]) w := by kernel_rfl
theorem ta_fail_sort (v : Value) (w : World) : (Instr.typeAssert (.iface 243 v) 222 239 true).run Tryz.prog w = .ok (.tuple #[.agg #[], .bool false]) w := by kernel_rfl
theorem ta_fail_drop (v : Value) (w : World) : (Instr.typeAssert (.iface 243 v) 222 241 true).run Tryz.prog w = .ok (.tuple #[.agg #[.int .i64 0], .bool false]) w := by kernel_rfl
theorem ta_fail_count (v : Value) (w : World) : (Instr.typeAssert (.iface 243 v) 222 242 true).run Tryz.prog w = .ok (.tuple #[.agg #[], .bool false]) w := by kernel_rfl
theorem ta_fail_fail (v : Value) (w : World) : (Instr.typeAssert (.iface 243 v) 222 243 true).run Tryz.prog w = .ok (.tuple #[v, .bool true]) w := by kernel_rfl

end Go.Proofs.YtngldlconipnnaaGreatDoor

/- Walks: the program's deeds, one by one. -/
namespace Go.Proofs.YtngldlconipnnaaGreatDoor
open Go.RowKit Pth

def catV (n : Int) : Value := .iface 234 (.agg #[.int .i64 n])
def textV (t : List UInt8) : Value := .iface 236 (.agg #[.string ⟨t.toArray⟩])
def upperV : Value := .iface 238 (.agg #[])
def sortV : Value := .iface 239 (.agg #[])
def dropV (n : Int) : Value := .iface 241 (.agg #[.int .i64 n])
def countV : Value := .iface 242 (.agg #[])
def failV : Value := .iface 243 (.agg #[])
/-- A deed is told. -/
def DeedPost (d : Value) (b : Bool) (w : World) (e : Ending) (w' : World) : Prop := e = .returned (.tuple #[d, .bool b]) ∧ Below w.heap.size w w'
/-- An op is told. -/
def OpPost (o : OpT) (w : World) (e : Ending) (w' : World) : Prop := e = .returned (opV o) ∧ Below w.heap.size w w'
/-- A bool is handed back; what lay there lies there. -/
def BPost (b : Bool) (w : World) (e : Ending) (w' : World) : Prop := e = .returned (.bool b) ∧ Below w.heap.size w w'

set_option maxRecDepth 20000 in
set_option maxHeartbeats 2000000 in
theorem deedOf_cat (n : Int) (t : List UInt8) (w : World) : Calls Tryz.prog 194 #[opV (1, n, t)] w (DeedPost (catV n) true w) := by
  unfold opV catV
  simp only
  have HB := Lib.hid ((Below.refl w.heap.size w).alloc (Nat.le_refl _) (.cells #[.int .i64 1, .int .i64 n, .string ⟨t.toArray⟩] 189))
  go_enter Tryz.func194, Tryz.ntmps194
  go_wp2_with fail
  go_ret2
  exact ⟨rfl, HB.out⟩

set_option maxRecDepth 20000 in
set_option maxHeartbeats 2000000 in
theorem asOp_cat (n : Int) (w : World) : Calls Tryz.prog 270 #[.agg #[.int .i64 n]] w (OpPost (1, n, []) w) := by
  unfold OpPost opV
  simp only
  go_enter Tryz.func270, Tryz.ntmps270
  go_wp2_with fail
  refine bodyPost_ret (results_cellO rfl rfl (load_op (x := .int .i64 1) (y := .int .i64 n) (z := .string ⟨#[]⟩) (by go_simp) (by go_simp) (by go_simp))) rfl ?_
  exact ⟨rfl, ((Below.refl w.heap.size w).alloc (Nat.le_refl _) _).alloc (by simp) _⟩

set_option maxRecDepth 20000 in
set_option maxHeartbeats 2000000 in
theorem range_cat (n ins : Int) (w : World) : Calls Tryz.prog 195 #[catV n, .int .i64 ins] w (BPost (decide (0 ≤ n) && decide (n < ins)) w) := by
  unfold catV
  have HB := Lib.hid ((Below.refl w.heap.size w).alloc (Nat.le_refl _) (.cells #[.int .i64 n] 234))
  have qcat := ta_cat_cat (.agg #[.int .i64 n])
  obtain ⟨b1, hb1⟩ : ∃ b, decide (0 ≤ n) = b := ⟨_, rfl⟩
  obtain ⟨b2, hb2⟩ : ∃ b, decide (n < ins) = b := ⟨_, rfl⟩
  have HT : Hid ((decide (0 ≤ n) && decide (n < ins)) = (b1 && b2)) := by rw [hb1, hb2]; rfl
  rw [HT.out]
  rcases b1 with _ | _ <;> rcases b2 with _ | _ <;>
    (go_enter Tryz.func195, Tryz.ntmps195
     go_wp2_with fail
     go_ret
     exact ⟨rfl, HB.out⟩)

set_option maxRecDepth 20000 in
set_option maxHeartbeats 2000000 in
theorem deedOf_text (n : Int) (t : List UInt8) (w : World) : Calls Tryz.prog 194 #[opV (2, n, t)] w (DeedPost (textV t) true w) := by
  unfold opV textV
  simp only
  have HB := Lib.hid ((Below.refl w.heap.size w).alloc (Nat.le_refl _) (.cells #[.int .i64 2, .int .i64 n, .string ⟨t.toArray⟩] 189))
  go_enter Tryz.func194, Tryz.ntmps194
  go_wp2_with fail
  go_ret2
  exact ⟨rfl, HB.out⟩

set_option maxRecDepth 20000 in
set_option maxHeartbeats 2000000 in
theorem asOp_text (t : List UInt8) (w : World) : Calls Tryz.prog 271 #[.agg #[.string ⟨t.toArray⟩]] w (OpPost (2, 0, t) w) := by
  unfold OpPost opV
  simp only
  go_enter Tryz.func271, Tryz.ntmps271
  go_wp2_with fail
  refine bodyPost_ret (results_cellO rfl rfl (load_op (x := .int .i64 2) (y := .int .i64 0) (z := .string ⟨t.toArray⟩) (by go_simp) (by go_simp) (by go_simp))) rfl ?_
  exact ⟨rfl, ((Below.refl w.heap.size w).alloc (Nat.le_refl _) _).alloc (by simp) _⟩

set_option maxRecDepth 20000 in
set_option maxHeartbeats 2000000 in
theorem range_text (t : List UInt8) (ins : Int) (w : World) : Calls Tryz.prog 195 #[textV t, .int .i64 ins] w (BPost (decide (t.length ≤ 10)) w) := by
  unfold textV
  have HB := Lib.hid ((Below.refl w.heap.size w).alloc (Nat.le_refl _) (.cells #[.string ⟨t.toArray⟩] 236))
  have qcat := ta_text_cat (.agg #[.string ⟨t.toArray⟩])
  have qtext := ta_text_text (.agg #[.string ⟨t.toArray⟩])
  obtain ⟨b2, hb2⟩ : ∃ b, decide ((t.length : Int) ≤ 10) = b := ⟨_, rfl⟩
  have HT : Hid (decide (t.length ≤ 10) = b2) := by rw [← hb2]; exact decide_eq_decide.2 (by omega)
  rw [HT.out]
  rcases b2 with _ | _ <;>
    (go_enter Tryz.func195, Tryz.ntmps195
     go_wp2_with fail
     go_ret
     exact ⟨rfl, HB.out⟩)

set_option maxRecDepth 20000 in
set_option maxHeartbeats 2000000 in
theorem deedOf_upper (n : Int) (t : List UInt8) (w : World) : Calls Tryz.prog 194 #[opV (3, n, t)] w (DeedPost (upperV) true w) := by
  unfold opV upperV
  simp only
  have HB := Lib.hid ((Below.refl w.heap.size w).alloc (Nat.le_refl _) (.cells #[.int .i64 3, .int .i64 n, .string ⟨t.toArray⟩] 189))
  go_enter Tryz.func194, Tryz.ntmps194
  go_wp2_with fail
  go_ret2
  exact ⟨rfl, HB.out⟩

set_option maxRecDepth 20000 in
set_option maxHeartbeats 2000000 in
theorem asOp_upper (w : World) : Calls Tryz.prog 272 #[.agg #[]] w (OpPost (3, 0, []) w) := by
  unfold OpPost opV
  simp only
  go_enter Tryz.func272, Tryz.ntmps272
  go_wp2_with fail
  refine bodyPost_ret (results_cellO rfl rfl (load_op (x := .int .i64 3) (y := .int .i64 0) (z := .string ⟨#[]⟩) (by go_simp) (by go_simp) (by go_simp))) rfl ?_
  exact ⟨rfl, ((Below.refl w.heap.size w).alloc (Nat.le_refl _) _).alloc (by simp) _⟩

set_option maxRecDepth 20000 in
set_option maxHeartbeats 2000000 in
theorem range_upper (ins : Int) (w : World) : Calls Tryz.prog 195 #[upperV, .int .i64 ins] w (BPost true w) := by
  unfold upperV
  have qcat := ta_upper_cat (.agg #[])
  have qtext := ta_upper_text (.agg #[])
  have qdrop := ta_upper_drop (.agg #[])
  go_enter Tryz.func195, Tryz.ntmps195
  go_wp2_with fail
  go_ret
  exact ⟨rfl, Below.refl _ _⟩

set_option maxRecDepth 20000 in
set_option maxHeartbeats 2000000 in
theorem deedOf_sort (n : Int) (t : List UInt8) (w : World) : Calls Tryz.prog 194 #[opV (4, n, t)] w (DeedPost (sortV) true w) := by
  unfold opV sortV
  simp only
  have HB := Lib.hid ((Below.refl w.heap.size w).alloc (Nat.le_refl _) (.cells #[.int .i64 4, .int .i64 n, .string ⟨t.toArray⟩] 189))
  go_enter Tryz.func194, Tryz.ntmps194
  go_wp2_with fail
  go_ret2
  exact ⟨rfl, HB.out⟩

set_option maxRecDepth 20000 in
set_option maxHeartbeats 2000000 in
theorem asOp_sort (w : World) : Calls Tryz.prog 273 #[.agg #[]] w (OpPost (4, 0, []) w) := by
  unfold OpPost opV
  simp only
  go_enter Tryz.func273, Tryz.ntmps273
  go_wp2_with fail
  refine bodyPost_ret (results_cellO rfl rfl (load_op (x := .int .i64 4) (y := .int .i64 0) (z := .string ⟨#[]⟩) (by go_simp) (by go_simp) (by go_simp))) rfl ?_
  exact ⟨rfl, ((Below.refl w.heap.size w).alloc (Nat.le_refl _) _).alloc (by simp) _⟩

set_option maxRecDepth 20000 in
set_option maxHeartbeats 2000000 in
theorem range_sort (ins : Int) (w : World) : Calls Tryz.prog 195 #[sortV, .int .i64 ins] w (BPost true w) := by
  unfold sortV
  have qcat := ta_sort_cat (.agg #[])
  have qtext := ta_sort_text (.agg #[])
  have qdrop := ta_sort_drop (.agg #[])
  go_enter Tryz.func195, Tryz.ntmps195
  go_wp2_with fail
  go_ret
  exact ⟨rfl, Below.refl _ _⟩

set_option maxRecDepth 20000 in
set_option maxHeartbeats 2000000 in
theorem deedOf_drop (n : Int) (t : List UInt8) (w : World) : Calls Tryz.prog 194 #[opV (5, n, t)] w (DeedPost (dropV n) true w) := by
  unfold opV dropV
  simp only
  have HB := Lib.hid ((Below.refl w.heap.size w).alloc (Nat.le_refl _) (.cells #[.int .i64 5, .int .i64 n, .string ⟨t.toArray⟩] 189))
  go_enter Tryz.func194, Tryz.ntmps194
  go_wp2_with fail
  go_ret2
  exact ⟨rfl, HB.out⟩

set_option maxRecDepth 20000 in
set_option maxHeartbeats 2000000 in
theorem asOp_drop (n : Int) (w : World) : Calls Tryz.prog 274 #[.agg #[.int .i64 n]] w (OpPost (5, n, []) w) := by
  unfold OpPost opV
  simp only
  go_enter Tryz.func274, Tryz.ntmps274
  go_wp2_with fail
  refine bodyPost_ret (results_cellO rfl rfl (load_op (x := .int .i64 5) (y := .int .i64 n) (z := .string ⟨#[]⟩) (by go_simp) (by go_simp) (by go_simp))) rfl ?_
  exact ⟨rfl, ((Below.refl w.heap.size w).alloc (Nat.le_refl _) _).alloc (by simp) _⟩

set_option maxRecDepth 20000 in
set_option maxHeartbeats 2000000 in
theorem range_drop (n ins : Int) (w : World) : Calls Tryz.prog 195 #[dropV n, .int .i64 ins] w (BPost (decide (0 ≤ n) && decide (n ≤ 40)) w) := by
  unfold dropV
  have HB := Lib.hid ((Below.refl w.heap.size w).alloc (Nat.le_refl _) (.cells #[.int .i64 n] 241))
  have qcat := ta_drop_cat (.agg #[.int .i64 n])
  have qtext := ta_drop_text (.agg #[.int .i64 n])
  have qdrop := ta_drop_drop (.agg #[.int .i64 n])
  obtain ⟨b1, hb1⟩ : ∃ b, decide (0 ≤ n) = b := ⟨_, rfl⟩
  obtain ⟨b2, hb2⟩ : ∃ b, decide (n ≤ 40) = b := ⟨_, rfl⟩
  have HT : Hid ((decide (0 ≤ n) && decide (n ≤ 40)) = (b1 && b2)) := by rw [hb1, hb2]; rfl
  rw [HT.out]
  rcases b1 with _ | _ <;> rcases b2 with _ | _ <;>
    (go_enter Tryz.func195, Tryz.ntmps195
     go_wp2_with fail
     go_ret
     exact ⟨rfl, HB.out⟩)

set_option maxRecDepth 20000 in
set_option maxHeartbeats 2000000 in
theorem deedOf_count (n : Int) (t : List UInt8) (w : World) : Calls Tryz.prog 194 #[opV (6, n, t)] w (DeedPost (countV) true w) := by
  unfold opV countV
  simp only
  have HB := Lib.hid ((Below.refl w.heap.size w).alloc (Nat.le_refl _) (.cells #[.int .i64 6, .int .i64 n, .string ⟨t.toArray⟩] 189))
  go_enter Tryz.func194, Tryz.ntmps194
  go_wp2_with fail
  go_ret2
  exact ⟨rfl, HB.out⟩

set_option maxRecDepth 20000 in
set_option maxHeartbeats 2000000 in
theorem asOp_count (w : World) : Calls Tryz.prog 275 #[.agg #[]] w (OpPost (6, 0, []) w) := by
  unfold OpPost opV
  simp only
  go_enter Tryz.func275, Tryz.ntmps275
  go_wp2_with fail
  refine bodyPost_ret (results_cellO rfl rfl (load_op (x := .int .i64 6) (y := .int .i64 0) (z := .string ⟨#[]⟩) (by go_simp) (by go_simp) (by go_simp))) rfl ?_
  exact ⟨rfl, ((Below.refl w.heap.size w).alloc (Nat.le_refl _) _).alloc (by simp) _⟩

set_option maxRecDepth 20000 in
set_option maxHeartbeats 2000000 in
theorem range_count (ins : Int) (w : World) : Calls Tryz.prog 195 #[countV, .int .i64 ins] w (BPost true w) := by
  unfold countV
  have qcat := ta_count_cat (.agg #[])
  have qtext := ta_count_text (.agg #[])
  have qdrop := ta_count_drop (.agg #[])
  go_enter Tryz.func195, Tryz.ntmps195
  go_wp2_with fail
  go_ret
  exact ⟨rfl, Below.refl _ _⟩

set_option maxRecDepth 20000 in
set_option maxHeartbeats 2000000 in
theorem deedOf_fail (n : Int) (t : List UInt8) (w : World) : Calls Tryz.prog 194 #[opV (7, n, t)] w (DeedPost (failV) true w) := by
  unfold opV failV
  simp only
  have HB := Lib.hid ((Below.refl w.heap.size w).alloc (Nat.le_refl _) (.cells #[.int .i64 7, .int .i64 n, .string ⟨t.toArray⟩] 189))
  go_enter Tryz.func194, Tryz.ntmps194
  go_wp2_with fail
  go_ret2
  exact ⟨rfl, HB.out⟩

set_option maxRecDepth 20000 in
set_option maxHeartbeats 2000000 in
theorem asOp_fail (w : World) : Calls Tryz.prog 276 #[.agg #[]] w (OpPost (7, 0, []) w) := by
  unfold OpPost opV
  simp only
  go_enter Tryz.func276, Tryz.ntmps276
  go_wp2_with fail
  refine bodyPost_ret (results_cellO rfl rfl (load_op (x := .int .i64 7) (y := .int .i64 0) (z := .string ⟨#[]⟩) (by go_simp) (by go_simp) (by go_simp))) rfl ?_
  exact ⟨rfl, ((Below.refl w.heap.size w).alloc (Nat.le_refl _) _).alloc (by simp) _⟩

set_option maxRecDepth 20000 in
set_option maxHeartbeats 2000000 in
theorem range_fail (ins : Int) (w : World) : Calls Tryz.prog 195 #[failV, .int .i64 ins] w (BPost true w) := by
  unfold failV
  have qcat := ta_fail_cat (.agg #[])
  have qtext := ta_fail_text (.agg #[])
  have qdrop := ta_fail_drop (.agg #[])
  go_enter Tryz.func195, Tryz.ntmps195
  go_wp2_with fail
  go_ret
  exact ⟨rfl, Below.refl _ _⟩

set_option maxRecDepth 20000 in
set_option maxHeartbeats 2000000 in
theorem deedOf_none (k n : Int) (t : List UInt8) (w : World) (h1 : k ≠ 1) (h2 : k ≠ 2) (h3 : k ≠ 3) (h4 : k ≠ 4) (h5 : k ≠ 5) (h6 : k ≠ 6) (h7 : k ≠ 7) : Calls Tryz.prog 194 #[opV (k, n, t)] w (DeedPost .nilIface false w) := by
  unfold opV
  simp only
  have HB := Lib.hid ((Below.refl w.heap.size w).alloc (Nat.le_refl _) (.cells #[.int .i64 k, .int .i64 n, .string ⟨t.toArray⟩] 189))
  have e1 : (k == 1) = false := by simpa using h1
  have e2 : (k == 2) = false := by simpa using h2
  have e3 : (k == 3) = false := by simpa using h3
  have e4 : (k == 4) = false := by simpa using h4
  have e5 : (k == 5) = false := by simpa using h5
  have e6 : (k == 6) = false := by simpa using h6
  have e7 : (k == 7) = false := by simpa using h7
  clear h1 h2 h3 h4 h5 h6 h7
  go_enter Tryz.func194, Tryz.ntmps194
  go_wp2_with fail
  go_ret2
  exact ⟨rfl, HB.out⟩

end Go.Proofs.YtngldlconipnnaaGreatDoor

/- Walks: the program's deeds of a recipe. -/
namespace Go.Proofs.YtngldlconipnnaaGreatDoor
open Go.RowKit Pth

def asO (o : OpT) : OpT := if o.1 = 1 then (1, o.2.1, []) else if o.1 = 2 then (2, 0, o.2.2) else if o.1 = 5 then (5, o.2.1, []) else (o.1, 0, [])
def rangeB (ins : Int) (o : OpT) : Bool := if o.1 = 1 then decide (0 ≤ o.2.1) && decide (o.2.1 < ins) else if o.1 = 2 then decide (o.2.2.length ≤ 10) else if o.1 = 5 then decide (0 ≤ o.2.1) && decide (o.2.1 ≤ 40) else true
def deedV (o : OpT) : Value :=
  if o.1 = 1 then catV o.2.1 else if o.1 = 2 then textV o.2.2 else if o.1 = 3 then upperV else if o.1 = 4 then sortV else if o.1 = 5 then dropV o.2.1 else if o.1 = 6 then countV else if o.1 = 7 then failV else .nilIface
def knownB (o : OpT) : Bool := decide (1 ≤ o.1) && decide (o.1 ≤ 7)
theorem as_cat {n : Int} {t : List UInt8} : decide (asO (1, n, t) = (1, n, t)) = decide (t = []) := decide_eq_decide.2 (by simp [asO, eq_comm])
theorem as_text {n : Int} {t : List UInt8} : decide (asO (2, n, t) = (2, n, t)) = decide (n = 0) := decide_eq_decide.2 (by simp [asO, eq_comm])
theorem as_drop {n : Int} {t : List UInt8} : decide (asO (5, n, t) = (5, n, t)) = decide (t = []) := decide_eq_decide.2 (by simp [asO, eq_comm])
theorem as_bare {k n : Int} {t : List UInt8} (h1 : k ≠ 1) (h2 : k ≠ 2) (h5 : k ≠ 5) : decide (asO (k, n, t) = (k, n, t)) = (decide (n = 0) && decide (t = [])) := by
  rw [← Bool.decide_and]
  refine decide_eq_decide.2 ?_
  simp only [asO, if_neg h1, if_neg h2, if_neg h5, Prod.mk.injEq, true_and]
  rw [eq_comm (a := (0 : Int)), eq_comm (a := ([] : List UInt8))]
theorem opOk_is (ins : Int) (o : OpT) : opOk ins o = (knownB o && (decide (asO o = o) && rangeB ins o)) := by
  obtain ⟨k, n, t⟩ := o
  by_cases h1 : k = 1
  · subst h1
    rw [opOk_cat, as_cat]
    have e : decide (n ≤ ins - 1) = decide (n < ins) := decide_eq_decide.2 (by omega)
    rw [e]
    simp only [knownB, rangeB, if_true]
    rw [Bool.and_comm]; rfl
  by_cases h2 : k = 2
  · subst h2
    rw [opOk_text, as_text]
    rfl
  by_cases h5 : k = 5
  · subst h5
    rw [opOk_drop, as_drop]
    simp only [knownB, rangeB]
    rw [Bool.and_comm]; rfl
  by_cases h3 : k = 3 ∨ k = 4 ∨ k = 6 ∨ k = 7
  · rw [opOk_bare h3, as_bare h1 h2 h5]
    have e1 : knownB (k, n, t) = true := by simp only [knownB, Bool.and_eq_true, decide_eq_true_eq]; omega
    rw [e1, rangeB, if_neg h1, if_neg h2, if_neg h5]
    simp
  · have h3' : k ≠ 3 ∧ k ≠ 4 ∧ k ≠ 6 ∧ k ≠ 7 := by omega
    rw [opOk_none h1 h2 h3'.1 h3'.2.1 h5 h3'.2.2.1 h3'.2.2.2]
    have : knownB (k, n, t) = false := by
      simp only [knownB, Bool.and_eq_false_iff, decide_eq_false_iff_not]
      omega
    rw [this]; rfl

def DC (r : List OpT) : List Value := r.map deedV
theorem DC_len (r : List OpT) : (DC r).length = r.length := by simp [DC]
theorem elemD : Elem 196 222 .nilIface 16 := ⟨Tryz.underlying196, by kernel_rfl, rfl, by decide⟩
theorem deedOf_any (o : OpT) (w : World) : Calls Tryz.prog 194 #[opV o] w (DeedPost (deedV o) (knownB o) w) := by
  obtain ⟨k, n, t⟩ := o
  by_cases h1 : k = 1
  · subst h1; exact deedOf_cat n t w
  by_cases h2 : k = 2
  · subst h2; exact deedOf_text n t w
  by_cases h3 : k = 3
  · subst h3; exact deedOf_upper n t w
  by_cases h4 : k = 4
  · subst h4; exact deedOf_sort n t w
  by_cases h5 : k = 5
  · subst h5; exact deedOf_drop n t w
  by_cases h6 : k = 6
  · subst h6; exact deedOf_count n t w
  by_cases h7 : k = 7
  · subst h7; exact deedOf_fail n t w
  have e : deedV (k, n, t) = .nilIface := by simp [deedV, h1, h2, h3, h4, h5, h6, h7]
  have e2 : knownB (k, n, t) = false := by
    simp only [knownB, Bool.and_eq_false_iff, decide_eq_false_iff_not]
    omega
  rw [e, e2]
  exact deedOf_none k n t w h1 h2 h3 h4 h5 h6 h7


theorem neq_op (o p : OpT) (w : World) : (binOp .neq 189 (opV o) (opV p)).run Tryz.prog w = .ok (.bool (!decide (o = p))) w := by
  obtain ⟨k, n, t⟩ := o
  obtain ⟨k', n', t'⟩ := p
  unfold opV
  go_simp
  by_cases h1 : k = k' <;> by_cases h2 : n = n' <;> by_cases h3 : t = t' <;> simp [h1, h2, h3]

/-- What is known of a deed. -/
structure DeedAt (o : OpT) (T : TypeId) (v : Value) (K : FuncId) : Prop where
  val : deedV o = .iface T v
  meth : ∀ (F : Nat) (w : World), (method (F + 1) T v "loop.example/g00636/impl.asOp").run Tryz.prog w = .ok (K, v) w
  ent : ∀ w : World, (callFunc K #[v]).run Tryz.prog w = .ok (.enter K #[v]) w
  told : ∀ w : World, Calls Tryz.prog K #[v] w (OpPost (asO o) w)
  rng : ∀ (ins : Int) (w : World), Calls Tryz.prog 195 #[.iface T v, .int .i64 ins] w (BPost (rangeB ins o) w)
theorem deed_at {o : OpT} (h : knownB o = true) : ∃ T v K, DeedAt o T v K := by
  obtain ⟨k, n, t⟩ := o
  simp only [knownB, Bool.and_eq_true, decide_eq_true_eq] at h
  have hk : k = 1 ∨ k = 2 ∨ k = 3 ∨ k = 4 ∨ k = 5 ∨ k = 6 ∨ k = 7 := by omega
  rcases hk with rfl | rfl | rfl | rfl | rfl | rfl | rfl
  · exact ⟨234, (.agg #[.int .i64 n]), 270, rfl, fun _ _ => by kernel_rfl, fun _ => by kernel_rfl, fun w => asOp_cat n w, fun ins w => range_cat n ins w⟩
  · exact ⟨236, (.agg #[.string ⟨t.toArray⟩]), 271, rfl, fun _ _ => by kernel_rfl, fun _ => by kernel_rfl, fun w => asOp_text t w, fun ins w => range_text t ins w⟩
  · exact ⟨238, (.agg #[]), 272, rfl, fun _ _ => by kernel_rfl, fun _ => by kernel_rfl, fun w => asOp_upper w, fun ins w => range_upper ins w⟩
  · exact ⟨239, (.agg #[]), 273, rfl, fun _ _ => by kernel_rfl, fun _ => by kernel_rfl, fun w => asOp_sort w, fun ins w => range_sort ins w⟩
  · exact ⟨241, (.agg #[.int .i64 n]), 274, rfl, fun _ _ => by kernel_rfl, fun _ => by kernel_rfl, fun w => asOp_drop n w, fun ins w => range_drop n ins w⟩
  · exact ⟨242, (.agg #[]), 275, rfl, fun _ _ => by kernel_rfl, fun _ => by kernel_rfl, fun w => asOp_count w, fun ins w => range_count ins w⟩
  · exact ⟨243, (.agg #[]), 276, rfl, fun _ _ => by kernel_rfl, fun _ => by kernel_rfl, fun w => asOp_fail w, fun ins w => range_fail ins w⟩

end Go.Proofs.YtngldlconipnnaaGreatDoor

/- A region that draws its order, whose first operations come in one forced order (a call that makes memory among them) and whose others only read: one walk in the order of the text. -/
namespace Go.Proofs.YtngldlconipnnaaGreatDoor
open Go.RowKit

theorem oper_wp_Q {P : Program} {o : Oper} {a : Act} {w : World} {K : Act → World → Prop} {Q Q' : Exit → Act → World → Prop} (hq : ∀ e a w, e ≠ .normal → Q e a w → Q' e a w) (hh : o.wp P a w K Q) : o.wp P a w K Q' := by
  unfold Oper.wp at *
  generalize (execOp a.eval o).run P w = r at *
  cases r with
  | ok n w' =>
    cases n <;> simp only [Oper.upon] at hh ⊢ <;>
      first
        | exact hh
        | exact Calls.mono hh (fun e w'' he => by cases e <;> first | exact he | exact hq _ _ _ (by simp) he | exact (let ⟨a, w, h⟩ := he; ⟨a, w, hq _ _ _ (by simp) h⟩))
  | halt x w' => cases x <;> simp only [Oper.upon] at hh ⊢ <;> first | exact hh | exact hq _ _ _ (by simp) hh

theorem lets_Q {Q Q' : Exit → Act → World → Prop} (hq : ∀ e a w, e ≠ .normal → Q e a w → Q' e a w) (h : LetsOut Q) : LetsOut Q' :=
  let ⟨a, w, h⟩ := h; ⟨a, w, hq _ _ _ (by simp) h⟩

theorem wpOp_Q {P : Program} {ops : Array Oper} {i : Nat} {a : Act} {w : World} {K : Act → World → Prop} {Q Q' : Exit → Act → World → Prop} (hq : ∀ e a w, e ≠ .normal → Q e a w → Q' e a w) (hh : wpOp P ops Q i K a w) : wpOp P ops Q' i K a w := by
  unfold wpOp at *
  split
  · simpa [*] using hh
  · rename_i o ho
    simp only [ho] at hh
    split
    · rename_i hw; simp only [hw, if_true] at hh; exact hh.imp (oper_wp_Q hq) (fun h => ⟨h.1, lets_Q hq h.2⟩)
    · rename_i hw; simp only [hw] at hh; exact hh

/-- T behind the head, Q at whatever else. -/
def Then (T : Act → World → Prop) (Q : Exit → Act → World → Prop) : Exit → Act → World → Prop
  | .normal, a, w => T a w
  | e, a, w => Q e a w
theorem then_normal {T : Act → World → Prop} {Q : Exit → Act → World → Prop} {a : Act} {w : World} (h : T a w) : Then T Q .normal a w := h
theorem then_Q {T : Act → World → Prop} {Q : Exit → Act → World → Prop} : ∀ e a w, e ≠ .normal → Then T Q e a w → Q e a w := fun e a w he h => by
  cases e <;> first | exact absurd rfl he | exact h

def headB (ops : Array Oper) : Nat → Nat → Array Bool → Bool
  | 0, _, _ => true
  | g + 1, k, listed => decide (Region.ready .any ops listed = [k]) && headB ops g (k + 1) (listed.setIfInBounds k true)
def setAll : Nat → Nat → Array Bool → Array Bool
  | 0, _, listed => listed
  | g + 1, k, listed => setAll g (k + 1) (listed.setIfInBounds k true)

theorem wpAny_head {P : Program} {ops : Array Oper} {T : Act → World → Prop} {Q : Exit → Act → World → Prop} {r : Nat} : ∀ (l : List Oper) (k : Nat) (listed : Array Bool) (a : Act) (w : World), (∀ j, j < l.length → l[j]? = ops[k + j]?) →
    headB ops l.length k listed = true → (∀ a w, T a w → wpAny P .any ops Q r (setAll l.length k listed) a w) → wpList P ops (Then T Q) l a w → wpAny P .any ops Q (l.length + r) listed a w
  | [], _, _, _, _, _, _, hT, h => by
    simp only [List.length_nil, Nat.zero_add]
    exact hT _ _ h
  | o :: l, k, listed, a, w, hl, hB, hT, h => by
    have h0 : ops[k]? = some o := by have := hl 0 (by simp); simpa using this.symm
    simp only [List.length_cons, headB, Bool.and_eq_true, decide_eq_true_eq] at hB
    have e : (o :: l).length + r = (l.length + r) + 1 := by simp only [List.length_cons]; omega
    rw [e]
    refine ⟨fun h1 => (by rw [hB.1] at h1; cases h1), fun i hi => ?_⟩
    rw [hB.1] at hi
    have hik : i = k := by simpa using hi
    subst hik
    have hw : wpOp P ops (Then T Q) i (wpList P ops (Then T Q) l) a w := by unfold wpOp; simp only [h0]; exact h
    exact wpOp_Q then_Q (wpOp_mono (fun a' w' h' => wpAny_head l (i + 1) _ a' w' (fun j hj => by have := hl (j + 1) (by simp; omega); simpa [Nat.add_assoc, Nat.add_comm 1 j] using this) hB.2 hT h') hw)

theorem wp_region_head_quiet {P : Program} {id : Nat} {Q : Exit → Act → World → Prop} {a : Act} {w : World} {l : List Oper} (n : Nat) (hm : P.follows .mixedOrders = true) (hs : Region.noSelect l.toArray = true)
    (hH : headB l.toArray (l.take n).length 0 (Array.replicate l.toArray.size false) = true) (hL : Region.lexFrom .any l.toArray (l.drop n).length n (setAll (l.take n).length 0 (Array.replicate l.toArray.size false)) = true) (hn : n ≤ l.length)
    (h : wpList P l.toArray (Then (fun a' w' => wpQuiet P l.toArray (fun x => ∃ m, x = w'.drewN m) (fun a'' => ∀ x, (∃ m, x = w'.drewN m) → Q .normal a'' x) (l.drop n) a') Q) (l.take n) a { w with drawn := w.drawn + 1 }) : (Code.region id l.toArray true).wp P Q a w := by
  have htl : (l.take n).length = n := by rw [List.length_take]; omega
  refine wp_region_any hm ?_
  have H := wpAny_head (Q := Q) (r := (l.drop n).length) (l.take n) 0 (Array.replicate l.toArray.size false) a { w with drawn := w.drawn + 1 } (fun j hj => by
    rw [htl] at hj
    simp [hj]) hH (fun a' w' h' => ?_) h
  · have e : (l.take n).length + (l.drop n).length = l.toArray.size := by rw [htl, List.length_drop]; simp; omega
    rw [e] at H
    exact H
  · refine wpAny_of_quiet (C := fun x => ∃ m, x = w'.drewN m) (Q := fun a'' => ∀ x, (∃ m, x = w'.drewN m) → Q .normal a'' x) (fun a w hw h => h w hw) _ _ _ _ ⟨0, rfl⟩ ?_
    exact wpAnyQ_lex hs (l.drop n) n _ _ (fun j => by simp [List.getElem?_drop]) hL h'

end Go.Proofs.YtngldlconipnnaaGreatDoor

/- A region that draws its order, in which behind a forced head a call that makes memory and a load may change places, and whose others only read: three walks. -/
namespace Go.Proofs.YtngldlconipnnaaGreatDoor
open Go.RowKit

/-- Behind those that are listed: n and n + 2 may come, n + 1 behind n; nothing else ahead of all three. -/
def diaB (ops : Array Oper) (n : Nat) (L : Array Bool) : Bool :=
  decide (Region.ready .any ops L = [n, n + 2]) && (decide (Region.ready .any ops (L.setIfInBounds n true) = [n + 1, n + 2]) && (decide (Region.ready .any ops (L.setIfInBounds (n + 2) true) = [n]) &&
  (decide (Region.ready .any ops ((L.setIfInBounds n true).setIfInBounds (n + 1) true) = [n + 2]) && (decide (Region.ready .any ops ((L.setIfInBounds n true).setIfInBounds (n + 2) true) = [n + 1]) && (decide (Region.ready .any ops ((L.setIfInBounds (n + 2) true).setIfInBounds n true) = [n + 1]) &&
  (decide (((L.setIfInBounds n true).setIfInBounds (n + 2) true).setIfInBounds (n + 1) true = ((L.setIfInBounds n true).setIfInBounds (n + 1) true).setIfInBounds (n + 2) true) &&
  decide (((L.setIfInBounds (n + 2) true).setIfInBounds n true).setIfInBounds (n + 1) true = ((L.setIfInBounds n true).setIfInBounds (n + 1) true).setIfInBounds (n + 2) true)))))))

theorem wpAny_one {P : Program} {ops : Array Oper} {Q : Exit → Act → World → Prop} {r i : Nat} {L : Array Bool} {a : Act} {w : World} (hr : Region.ready .any ops L = [i]) (h : wpOp P ops Q i (wpAny P .any ops Q r (L.setIfInBounds i true)) a w) : wpAny P .any ops Q (r + 1) L a w := by
  refine ⟨fun h1 => (by rw [hr] at h1; cases h1), fun j hj => ?_⟩
  rw [hr] at hj
  have hj' : j = i := by simpa using hj
  subst hj'
  exact h
theorem wpAny_two {P : Program} {ops : Array Oper} {Q : Exit → Act → World → Prop} {r i k : Nat} {L : Array Bool} {a : Act} {w : World} (hr : Region.ready .any ops L = [i, k]) (h : wpOp P ops Q i (wpAny P .any ops Q r (L.setIfInBounds i true)) a w) (h' : wpOp P ops Q k (wpAny P .any ops Q r (L.setIfInBounds k true)) a w) : wpAny P .any ops Q (r + 1) L a w := by
  refine ⟨fun h1 => (by rw [hr] at h1; cases h1), fun j hj => ?_⟩
  rw [hr] at hj
  have hj' : j = i ∨ j = k := by simpa using hj
  rcases hj' with rfl | rfl
  · exact h
  · exact h'
theorem wpOp_of_list {P : Program} {ops : Array Oper} {Q Q' : Exit → Act → World → Prop} {i : Nat} {o : Oper} {rest : List Oper} {K : Act → World → Prop} {a : Act} {w : World} (ho : ops[i]? = some o) (hq : ∀ e a w, e ≠ .normal → Q' e a w → Q e a w)
    (hk : ∀ a w, wpList P ops Q' rest a w → K a w) (h : wpList P ops Q' (o :: rest) a w) : wpOp P ops Q i K a w := by
  have h1 : wpOp P ops Q' i (wpList P ops Q' rest) a w := by unfold wpOp; simp only [ho]; exact h
  exact wpOp_Q hq (wpOp_mono hk h1)

theorem wpOp_last {P : Program} {ops : Array Oper} {T : Act → World → Prop} {Q : Exit → Act → World → Prop} {i : Nat} {o : Oper} {K : Act → World → Prop} {a : Act} {w : World} (ho : ops[i]? = some o) (hT : ∀ a w, T a w → K a w) (h : wpList P ops (Then T Q) [o] a w) : wpOp P ops Q i K a w :=
  wpOp_of_list (rest := []) ho then_Q (fun a w k => hT a w k) h
theorem wpOp_more {P : Program} {ops : Array Oper} {T : Act → World → Prop} {Q : Exit → Act → World → Prop} {i : Nat} {o p : Oper} {rest : List Oper} {K : Act → World → Prop} {a : Act} {w : World} (ho : ops[i]? = some o) (hT : ∀ a w, wpList P ops (Then T Q) (p :: rest) a w → K a w) (h : wpList P ops (Then T Q) (o :: p :: rest) a w) : wpOp P ops Q i K a w :=
  wpOp_of_list (rest := p :: rest) ho then_Q hT h
theorem wpAny_dia {P : Program} {ops : Array Oper} {T : Act → World → Prop} {Q : Exit → Act → World → Prop} {r n : Nat} {L : Array Bool} {a : Act} {w : World} {x y z : Oper} (hx : ops[n]? = some x) (hy : ops[n + 1]? = some y) (hz : ops[n + 2]? = some z)
    (hD : diaB ops n L = true) (hT : ∀ a w, T a w → wpAny P .any ops Q r (((L.setIfInBounds n true).setIfInBounds (n + 1) true).setIfInBounds (n + 2) true) a w)
    (h1 : wpList P ops (Then (fun a w => wpList P ops (Then T Q) [y, z] a w ∧ wpList P ops (Then T Q) [z, y] a w) Q) [x] a w) (h3 : wpList P ops (Then T Q) [z, x, y] a w) : wpAny P .any ops Q (r + 3) L a w := by
  simp only [diaB, Bool.and_eq_true, decide_eq_true_eq] at hD
  obtain ⟨d1, d2, d3, d4, d5, d6, d7, d8⟩ := hD
  refine wpAny_two d1 ?_ ?_
  · refine wpOp_last hx (fun a w k => ?_) h1
    obtain ⟨k1, k2⟩ : wpList P ops (Then T Q) [y, z] a w ∧ wpList P ops (Then T Q) [z, y] a w := k
    exact wpAny_two d2 (wpOp_more hy (fun a w k => wpAny_one d4 (wpOp_last hz hT k)) k1)
      (wpOp_more hz (fun a w k => wpAny_one d5 (wpOp_last hy (fun a w k => by rw [d7]; exact hT a w k) k)) k2)
  · exact wpOp_more hz (fun a w k => wpAny_one d3 (wpOp_more hx (fun a w k => wpAny_one d6 (wpOp_last hy (fun a w k => by rw [d8]; exact hT a w k) k)) k)) h3

/-- What is left behind the three: it only reads. -/
def Quiets (P : Program) (l : List Oper) (m : Nat) (Q : Exit → Act → World → Prop) (a : Act) (w : World) : Prop :=
  wpQuiet P l.toArray (fun x => ∃ j, x = w.drewN j) (fun a' => ∀ x, (∃ j, x = w.drewN j) → Q .normal a' x) (l.drop m) a

theorem wp_region_dia {P : Program} {id : Nat} {Q : Exit → Act → World → Prop} {a : Act} {w : World} {l : List Oper} (n : Nat) (x y z : Oper) (hx : l[n]? = some x) (hy : l[n + 1]? = some y) (hz : l[n + 2]? = some z) (hm : P.follows .mixedOrders = true) (hs : Region.noSelect l.toArray = true)
    (hH : headB l.toArray (l.take n).length 0 (Array.replicate l.toArray.size false) = true) (hD : diaB l.toArray n (setAll (l.take n).length 0 (Array.replicate l.toArray.size false)) = true)
    (hL : Region.lexFrom .any l.toArray (l.drop (n + 3)).length (n + 3) ((((setAll (l.take n).length 0 (Array.replicate l.toArray.size false)).setIfInBounds n true).setIfInBounds (n + 1) true).setIfInBounds (n + 2) true) = true) (hn : n + 3 ≤ l.length)
    (h : wpList P l.toArray (Then (fun a' w' => wpList P l.toArray (Then (fun a w => wpList P l.toArray (Then (Quiets P l (n + 3) Q) Q) [y, z] a w ∧ wpList P l.toArray (Then (Quiets P l (n + 3) Q) Q) [z, y] a w) Q) [x] a' w' ∧ wpList P l.toArray (Then (Quiets P l (n + 3) Q) Q) [z, x, y] a' w') Q) (l.take n) a { w with drawn := w.drawn + 1 }) : (Code.region id l.toArray true).wp P Q a w := by
  have htl : (l.take n).length = n := by rw [List.length_take]; omega
  refine wp_region_any hm ?_
  have H := wpAny_head (Q := Q) (r := (l.drop (n + 3)).length + 3) (l.take n) 0 (Array.replicate l.toArray.size false) a { w with drawn := w.drawn + 1 } (fun j hj => by
    rw [htl] at hj
    simp [hj]) hH (fun a' w' h' => wpAny_dia (by simpa using hx) (by simpa using hy) (by simpa using hz) hD (fun a w hq => ?_) h'.1 h'.2) h
  · have e : (l.take n).length + ((l.drop (n + 3)).length + 3) = l.toArray.size := by rw [htl, List.length_drop]; simp; omega
    rw [e] at H
    exact H
  · refine wpAny_of_quiet (C := fun x => ∃ m, x = w.drewN m) (Q := fun a'' => ∀ x, (∃ m, x = w.drewN m) → Q .normal a'' x) (fun a w hw h => h w hw) _ _ _ _ ⟨0, rfl⟩ ?_
    exact wpAnyQ_lex hs (l.drop (n + 3)) (n + 3) _ _ (fun j => by simp [List.getElem?_drop]) hL hq

end Go.Proofs.YtngldlconipnnaaGreatDoor
