/- Texts of one claim, joined in their order. -/
import Derived.Defers
import Derived.Recover
import Derived.Laws.Pointers
import Derived.Test.YtgolhfmmlanmlaaGreatDoorM8
import Derived.Test.YtgolhfmmlanmlaaGreatDoorM2
import Derived.Test.YtgolhfmmlanmlaaGreatDoorM4
import Derived.Test.YtgolhfmmlanmlaaGreatDoorM7
import Derived.Test.YtgolhfmmlanmlaaGreatDoorM5

/- Walks: one step of the reference, a kind each. -/
namespace Go.Proofs.YtgolhfmmlanmlaaGreatDoor
open Go.RowKit Pth

/-- A text and whether it did not fail; only new memory. -/
def StepPost (t : Option (List UInt8)) (w : World) (e : Ending) (w' : World) : Prop := e = .returned (.tuple #[.string ⟨(txtO t).toArray⟩, .bool t.isSome]) ∧ Below w.heap.size w w'
theorem data_app (a b : List UInt8) : (⟨a.toArray⟩ : ByteArray) ++ ⟨b.toArray⟩ = ⟨(a ++ b).toArray⟩ := by
  apply ByteArray.ext; simp
theorem below_new {w w' : World} {o : Obj} (h : Below (w.alloc o).heap.size (w.alloc o) w') : Below w.heap.size w w' :=
  ⟨h.os, h.tape, h.output, Nat.le_trans (by simp) h.size, fun k hk => (h.block k (by simp; omega)).trans (Below.heap_alloc w _ k hk)⟩

set_option maxRecDepth 20000 in
set_option maxHeartbeats 2000000 in
theorem stepS_upper (ins : List (List UInt8)) (n : Int) (t : List UInt8) (v : Value) (acc : List UInt8) (w : World) (ha : acc.length ≤ 40) :
    Calls Tryz.prog 106 #[opV (3, n, t), v, .string ⟨acc.toArray⟩] w (StepPost (Pth.stepT (3, n, t) ins acc) w) := by
  have hl : (upT acc).length ≤ 40 := by rw [upT_len]; exact ha
  have HT := Lib.hid (show Pth.stepT (3, n, t) ins acc = some (upT acc) by simp [Pth.stepT, rawT, capT]; omega)
  have HC := Lib.hid (fun W => upperS_any acc W (by omega))
  obtain ⟨x, hx⟩ : ∃ x, x = upT acc := ⟨_, rfl⟩
  rw [← hx] at hl HT HC
  clear hx
  have hlz : ¬ ((40 : Int) < (x.length : Int)) := by omega
  unfold opV
  go_enter Tryz.func106, Tryz.ntmps106
  go_wp2_with fail
  refine (HC.out _).mono ?_
  rintro e w1 ⟨rfl, hb⟩
  have HB := Lib.hid (below_new hb)
  clear hb
  go_wp2_with fail
  go_ret2
  exact ⟨by rw [HT.out]; rfl, HB.out⟩

set_option maxRecDepth 20000 in
set_option maxHeartbeats 2000000 in
theorem stepS_sort (ins : List (List UInt8)) (n : Int) (t : List UInt8) (v : Value) (acc : List UInt8) (w : World) (ha : acc.length ≤ 40) :
    Calls Tryz.prog 106 #[opV (4, n, t), v, .string ⟨acc.toArray⟩] w (StepPost (Pth.stepT (4, n, t) ins acc) w) := by
  have hl : (sortT acc).length ≤ 40 := by rw [sortT_len]; exact ha
  have HT := Lib.hid (show Pth.stepT (4, n, t) ins acc = some (sortT acc) by simp [Pth.stepT, rawT, capT]; omega)
  have HC := Lib.hid (fun W => sortS_any acc W (by omega))
  obtain ⟨x, hx⟩ : ∃ x, x = sortT acc := ⟨_, rfl⟩
  rw [← hx] at hl HT HC
  clear hx
  have hlz : ¬ ((40 : Int) < (x.length : Int)) := by omega
  unfold opV
  go_enter Tryz.func106, Tryz.ntmps106
  go_wp2_with fail
  refine (HC.out _).mono ?_
  rintro e w1 ⟨rfl, hb⟩
  have HB := Lib.hid (below_new hb)
  clear hb
  go_wp2_with fail
  go_ret2
  exact ⟨by rw [HT.out]; rfl, HB.out⟩

set_option maxRecDepth 20000 in
set_option maxHeartbeats 2000000 in
theorem stepS_count (ins : List (List UInt8)) (n : Int) (t : List UInt8) (v : Value) (acc : List UInt8) (w : World) (ha : acc.length ≤ 40) :
    Calls Tryz.prog 106 #[opV (6, n, t), v, .string ⟨acc.toArray⟩] w (StepPost (Pth.stepT (6, n, t) ins acc) w) := by
  have hl : (numT acc.length).length ≤ 40 := Nat.le_trans (numT_len _) (by omega)
  have HT := Lib.hid (show Pth.stepT (6, n, t) ins acc = some (numT acc.length) by simp [Pth.stepT, rawT, capT]; omega)
  have HC := Lib.hid (fun W => num_any acc.length W (by omega))
  obtain ⟨x, hx⟩ : ∃ x, x = numT acc.length := ⟨_, rfl⟩
  rw [← hx] at hl HT HC
  clear hx
  have hlz : ¬ ((40 : Int) < (x.length : Int)) := by omega
  unfold opV
  go_enter Tryz.func106, Tryz.ntmps106
  go_wp2_with fail
  refine (HC.out _).mono ?_
  rintro e w1 ⟨rfl, hb⟩
  have HB := Lib.hid (below_new hb)
  clear hb
  go_wp2_with fail
  go_ret2
  exact ⟨by rw [HT.out]; rfl, HB.out⟩

set_option maxRecDepth 20000 in
set_option maxHeartbeats 2000000 in
theorem stepS_fail (ins : List (List UInt8)) (n : Int) (t : List UInt8) (v : Value) (acc : List UInt8) (w : World) :
    Calls Tryz.prog 106 #[opV (7, n, t), v, .string ⟨acc.toArray⟩] w (StepPost (Pth.stepT (7, n, t) ins acc) w) := by
  have HT := Lib.hid (show Pth.stepT (7, n, t) ins acc = none by simp [Pth.stepT, rawT])
  have HB := Lib.hid ((Below.refl w.heap.size w).alloc (Nat.le_refl _) (.cells #[.int .i64 7, .int .i64 n, .string ⟨t.toArray⟩] 141))
  unfold opV
  go_enter Tryz.func106, Tryz.ntmps106
  go_wp2_with fail
  go_ret2
  exact ⟨by rw [HT.out]; rfl, HB.out⟩

set_option maxRecDepth 20000 in
set_option maxHeartbeats 2000000 in
theorem stepS_text (ins : List (List UInt8)) (n : Int) (t : List UInt8) (v : Value) (acc : List UInt8) (w : World) (ha : acc.length ≤ 40) (ht : t.length ≤ 10) :
    Calls Tryz.prog 106 #[opV (2, n, t), v, .string ⟨acc.toArray⟩] w (StepPost (Pth.stepT (2, n, t) ins acc) w) := by
  have HB := Lib.hid ((Below.refl w.heap.size w).alloc (Nat.le_refl _) (.cells #[.int .i64 2, .int .i64 n, .string ⟨t.toArray⟩] 141))
  unfold opV
  by_cases hl : (acc ++ t).length ≤ 40
  · have HT := Lib.hid (show Pth.stepT (2, n, t) ins acc = some (acc ++ t) by have h := hl; simp [Pth.stepT, rawT, capT] at h ⊢; exact h)
    have hlz : ¬ ((40 : Int) < (acc.length : Int) + (t.length : Int)) := by simp at hl; omega
    go_enter Tryz.func106, Tryz.ntmps106
    go_wp2_with fail
    go_ret2
    exact ⟨by rw [HT.out]; show _ = Ending.returned (.tuple #[.string ⟨(acc ++ t).toArray⟩, .bool true]); rw [← data_app]; rfl, HB.out⟩
  · have HT := Lib.hid (show Pth.stepT (2, n, t) ins acc = none by have h := hl; simp [Pth.stepT, rawT, capT] at h ⊢; exact h)
    have hlz : ((40 : Int) < (acc.length : Int) + (t.length : Int)) := by simp at hl; omega
    go_enter Tryz.func106, Tryz.ntmps106
    go_wp2_with fail
    go_ret2
    exact ⟨by rw [HT.out]; simp [txtO], HB.out⟩

set_option maxRecDepth 20000 in
set_option maxHeartbeats 2000000 in
theorem stepS_cat (ins : List (List UInt8)) (n : Nat) (t : List UInt8) (v : Value) (acc : List UInt8) (w : World) (hrow : RowV w v (S ins)) (ha : acc.length ≤ 40) (hn : n < ins.length) (hx : ∀ x ∈ ins, x.length ≤ 40) (_hi : ins.length ≤ 10) :
    Calls Tryz.prog 106 #[opV (1, n, t), v, .string ⟨acc.toArray⟩] w (StepPost (Pth.stepT (1, n, t) ins acc) w) := by
  obtain ⟨a, cap, rfl, hc1, hc2, hat⟩ := hrow.texts
  clear hrow
  obtain ⟨g, o, rfl, hg, hcell⟩ := hat n hn
  have hxl := hx ins[n] (List.getElem_mem hn)
  have HB := Lib.hid ((Below.refl w.heap.size w).alloc (Nat.le_refl _) (.cells #[.int .i64 1, .int .i64 (n : Int), .string ⟨t.toArray⟩] 141))
  have hcell2 : (w.alloc (.cells #[.int .i64 1, .int .i64 (n : Int), .string ⟨t.toArray⟩] 141)).cell? ⟨g, o + n, none⟩ = some (.string ⟨ins[n].toArray⟩) := by rw [World.cell?_alloc_lt _ _ _ hg]; exact hcell
  have HQ : Hid (∀ y, y = ins[n] → Pth.stepT (1, n, t) ins acc = capT (acc ++ y)) := fun y e => by
    rw [e]
    show capT (acc ++ (ins[(n : Int).toNat]?).getD []) = _
    simp [hn]
  obtain ⟨y, hy⟩ : ∃ y, y = ins[n] := ⟨_, rfl⟩
  have HT := Lib.hid (HQ.out y hy)
  rw [← hy] at hcell hxl hcell2
  have hnz : (n : Int) < (ins.length : Int) := by omega
  clear hat hx HQ hy hc1 hc2
  unfold opV
  by_cases hl : (acc ++ y).length ≤ 40
  · have HV := Lib.hid (HT.out.trans (if_pos hl))
    have hlz : ¬ ((40 : Int) < (acc.length : Int) + (y.length : Int)) := by simp at hl; omega
    go_enter Tryz.func106, Tryz.ntmps106
    go_wp2_with fail
    go_ret2
    exact ⟨by rw [HV.out]; show _ = Ending.returned (.tuple #[.string ⟨(acc ++ y).toArray⟩, .bool true]); rw [← data_app]; rfl, HB.out⟩
  · have HV := Lib.hid (HT.out.trans (if_neg hl))
    have hlz : ((40 : Int) < (acc.length : Int) + (y.length : Int)) := by simp at hl; omega
    go_enter Tryz.func106, Tryz.ntmps106
    go_wp2_with fail
    go_ret2
    exact ⟨by rw [HV.out]; rfl, HB.out⟩

end Go.Proofs.YtgolhfmmlanmlaaGreatDoor

/- Walks: one step of the reference. -/
namespace Go.Proofs.YtgolhfmmlanmlaaGreatDoor
open Go.RowKit Pth

theorem drop_min (acc : List UInt8) (n : Nat) : (⟨acc.toArray⟩ : ByteArray).extract (min acc.length n) acc.length = ⟨(acc.drop n).toArray⟩ := by
  apply ByteArray.ext
  simp only [ByteArray.data_extract]
  apply Array.ext'
  simp only [Array.toList_extract, List.extract_eq_take_drop]
  by_cases h : n ≤ acc.length
  · rw [Nat.min_eq_right h, List.take_of_length_le (by simp)]
  · rw [Nat.min_eq_left (by omega), show acc.drop n = [] from List.drop_eq_nil_of_le (by omega)]
    simp

set_option maxRecDepth 20000 in
set_option maxHeartbeats 2000000 in
theorem stepS_drop (ins : List (List UInt8)) (n : Nat) (t : List UInt8) (v : Value) (acc : List UInt8) (w : World) (ha : acc.length ≤ 40) (hn : n ≤ 40) :
    Calls Tryz.prog 106 #[opV (5, n, t), v, .string ⟨acc.toArray⟩] w (StepPost (Pth.stepT (5, n, t) ins acc) w) := by
  have HB := Lib.hid ((Below.refl w.heap.size w).alloc (Nat.le_refl _) (.cells #[.int .i64 5, .int .i64 (n : Int), .string ⟨t.toArray⟩] 141))
  have HC := Lib.hid (fun W => least_any acc.length n W (by omega) (by omega))
  have hd : (acc.drop n).length ≤ 40 := by simp; omega
  have HT := Lib.hid (show Pth.stepT (5, n, t) ins acc = some (acc.drop n) by
    show capT (acc.drop (n : Int).toNat) = _
    simp only [Int.toNat_natCast]
    exact if_pos hd)
  have HD := Lib.hid (drop_min acc n)
  obtain ⟨m, hm⟩ : ∃ m, m = min acc.length n := ⟨_, rfl⟩
  rw [← hm] at HC HD
  have hm1 : m ≤ acc.length := by omega
  have hm2 : ((acc.length : Int) - (m : Int)) ≤ 40 := by omega
  clear hm
  unfold opV
  go_enter Tryz.func106, Tryz.ntmps106
  go_wp2_with fail
  refine (HC.out _).mono ?_
  rintro e w1 ⟨rfl, rfl⟩
  go_wp2_with fail
  go_ret2
  exact ⟨by rw [HT.out]; show _ = Ending.returned (.tuple #[.string ⟨(acc.drop n).toArray⟩, .bool true]); rw [← HD.out]; rfl, HB.out⟩

theorem stepS_any (o : OpT) (ins : List (List UInt8)) (v : Value) (acc : List UInt8) (w : World) (hrow : RowV w v (S ins)) (hok : opOk ins.length o = true) (ht : textsL ins = true) (ha : acc.length ≤ 40) :
    Calls Tryz.prog 106 #[opV o, v, .string ⟨acc.toArray⟩] w (StepPost (Pth.stepT o ins acc) w) := by
  obtain ⟨k, n, t⟩ := o
  simp only [textsL, Bool.and_eq_true, List.all_eq_true, decide_eq_true_eq] at ht
  simp only [opOk] at hok
  split at hok
  · rename_i h; subst h
    simp only [Bool.and_eq_true, decide_eq_true_eq] at hok
    obtain ⟨m, rfl⟩ : ∃ m : Nat, n = m := ⟨n.toNat, by omega⟩
    exact stepS_cat ins m t v acc w hrow ha (by omega) ht.1 ht.2
  split at hok
  · rename_i h; subst h
    simp only [Bool.and_eq_true, decide_eq_true_eq] at hok
    exact stepS_text ins n t v acc w ha hok.2
  split at hok
  · rename_i h; subst h
    simp only [Bool.and_eq_true, decide_eq_true_eq] at hok
    obtain ⟨m, rfl⟩ : ∃ m : Nat, n = m := ⟨n.toNat, by omega⟩
    exact stepS_drop ins m t v acc w ha (by omega)
  split at hok
  · rename_i h
    rcases h with h | h | h | h <;> subst h
    · exact stepS_upper ins n t v acc w ha
    · exact stepS_sort ins n t v acc w ha
    · exact stepS_count ins n t v acc w ha
    · exact stepS_fail ins n t v acc w
  · cases hok

end Go.Proofs.YtgolhfmmlanmlaaGreatDoor

/- Walks: the reference's StepRecipe. -/
namespace Go.Proofs.YtgolhfmmlanmlaaGreatDoor
open Go.RowKit Pth

/-- A text, whether it did not fail, whether it was told; only new memory. -/
def TellPost (ok : Bool) (t : Option (List UInt8)) (w : World) (e : Ending) (w' : World) : Prop := e = .returned (.tuple #[.string ⟨(txtO t).toArray⟩, .bool t.isSome, .bool ok]) ∧ Below w.heap.size w w'
theorem below_step {w w1 w2 : World} (h : Below w.heap.size w w1) (k : Below w1.heap.size w1 w2) : Below w.heap.size w w2 :=
  ⟨k.os.trans h.os, k.tape.trans h.tape, k.output.trans h.output, Nat.le_trans h.size k.size, fun i hi => (k.block i (Nat.lt_of_lt_of_le hi h.size)).trans (h.block i hi)⟩

theorem op_cells {w w1 : World} {k n : Int} {t : List UInt8} (hb : Below (w.alloc (.cells #[.int .i64 k, .int .i64 n, .string ⟨t.toArray⟩] 141)).heap.size (w.alloc (.cells #[.int .i64 k, .int .i64 n, .string ⟨t.toArray⟩] 141)) w1) :
    w1.cell? ⟨w.heap.size, 0, none⟩ = some (.int .i64 k) ∧ w1.cell? ⟨w.heap.size, 1, none⟩ = some (.int .i64 n) ∧ w1.cell? ⟨w.heap.size, 2, none⟩ = some (.string ⟨t.toArray⟩) := by
  have hh : (w.alloc (.cells #[.int .i64 k, .int .i64 n, .string ⟨t.toArray⟩] 141)).heap[w.heap.size]? = some (.cells #[.int .i64 k, .int .i64 n, .string ⟨t.toArray⟩] 141 (0, 0)) := Array.getElem?_push_size
  refine ⟨?_, ?_, ?_⟩ <;> (rw [hb.cell (by simp), Lib.cell_of_heap hh]; rfl)

end Go.Proofs.YtgolhfmmlanmlaaGreatDoor

/- Walks: the reference's RunRecipe. -/
namespace Go.Proofs.YtgolhfmmlanmlaaGreatDoor
open Go.RowKit Pth

theorem run_none {ins : List (List UInt8)} {r : List OpT} {k : Nat} {acc : List UInt8} {R : Option (List UInt8)} (h : R = Pth.runT ins (r.drop k) acc) (hk : k < r.length) (hs : Pth.stepT r[k] ins acc = none) : R = none := by
  rw [h, run_step hk, hs]; rfl
theorem run_some {ins : List (List UInt8)} {r : List OpT} {k : Nat} {acc y : List UInt8} {R : Option (List UInt8)} (h : R = Pth.runT ins (r.drop k) acc) (hk : k < r.length) (hs : Pth.stepT r[k] ins acc = some y) : R = Pth.runT ins (r.drop (k + 1)) y := by
  rw [h, run_step hk, hs]; rfl

/-- What is left to run behind a step. -/
def RunAt (R : Option (List UInt8)) (ins : List (List UInt8)) (r : List OpT) : Option (List UInt8) → Prop
  | none => R = none
  | some z => R = Pth.runT ins r z ∧ z.length ≤ 40

set_option maxRecDepth 20000 in
set_option maxHeartbeats 2000000 in
theorem runS_any (r : List OpT) (ins : List (List UInt8)) (v u : Value) (w : World) (hrow : RowO w v r) (hins : RowV w u (S ins)) (hok : r.all (opOk ins.length) = true) (ht : textsL ins = true) :
    Calls Tryz.prog 74 #[v, u] w (StepPost (Pth.runT ins r []) w) := by
  obtain ⟨a, cap, rfl, hc1, hc2, hat⟩ := hrow.ops
  have HI := Lib.hid hins
  have HK : Hid (∀ k (hk : k < r.length), opOk ins.length r[k] = true) := fun k hk => List.all_eq_true.1 hok _ (List.getElem_mem hk)
  have HX := Lib.hid ht
  clear hrow hins hok ht
  unfold maxLen at hc2
  obtain ⟨R, hR⟩ : ∃ R, R = Pth.runT ins r [] := ⟨_, rfl⟩
  rw [← hR]
  go_enter Tryz.func74, Tryz.ntmps74
  go_wp2_with fail
  go_loopw [6, 13] (fun s i wr => ∃ (k : Nat) (acc : List UInt8), k ≤ r.length ∧ acc.length ≤ 40 ∧ s = .string ⟨acc.toArray⟩ ∧ i = .int .i64 k ∧ Hid (Below w.heap.size w wr) ∧ Hid (R = Pth.runT ins (r.drop k) acc)) (fun _ i _ => r.length - (intOf i).toNat)
  case atStart => exact ⟨0, [], Nat.zero_le _, by simp, rfl, by go_num, Below.refl _ _, hR⟩
  case round =>
    clear hR
    obtain ⟨k, acc, hk, hacc, rfl, rfl, HB, HO⟩ := hrel
    have hbs := HB.out.size
    by_cases hlt : k < r.length
    · obtain ⟨g, o, rfl, hg, hcell1, hcell2, hcell3⟩ := hat k hlt
      have s1 := (HB.out.cell (p := ⟨g, o + k * 3, none⟩) hg).trans hcell1
      have s2 := (HB.out.cell (p := ⟨g, o + k * 3 + 1, none⟩) hg).trans hcell2
      have s3 := (HB.out.cell (p := ⟨g, o + k * 3 + 2, none⟩) hg).trans hcell3
      have HBA := Lib.hid (HB.out.alloc hbs (.cells #[.int .i64 r[k].1, .int .i64 r[k].2.1, .string ⟨r[k].2.2.toArray⟩] 141))
      have HC := Lib.hid (stepS_any r[k] ins u acc (wr.alloc (.cells #[.int .i64 r[k].1, .int .i64 r[k].2.1, .string ⟨r[k].2.2.toArray⟩] 141)) (HI.out.below HBA.out) (HK.out k hlt) HX.out hacc)
      obtain ⟨y, hy⟩ : ∃ y, Pth.stepT r[k] ins acc = y := ⟨_, rfl⟩
      have HS : Hid (RunAt R ins (r.drop (k + 1)) y) := by
        unfold Hid
        rcases y with _ | z
        · exact run_none HO.out hlt hy
        · exact ⟨run_some HO.out hlt hy, stepT_len hy⟩
      rw [hy] at HC
      clear hcell1 hcell2 hcell3 hat HO hy
      generalize r[k] = x at s1 s2 s3 HC HBA
      obtain ⟨x1, x2, x3⟩ := x
      unfold opV at HC
      simp only at s1 s2 s3 HC HBA
      rcases y with _ | z
      · have HV := Lib.hid (show R = none from HS.out)
        go_wp2_with fail
        refine HC.out.mono ?_
        rintro e w1 ⟨rfl, hb1⟩
        have HB1 := Lib.hid (HBA.out.trans (hb1.mono HBA.out.size))
        clear hb1 HC
        go_wp2_with fail
        go_ret2
        exact ⟨by rw [HV.out]; rfl, HB1.out⟩
      · have HV := Lib.hid (show R = Pth.runT ins (r.drop (k + 1)) z ∧ z.length ≤ 40 from HS.out)
        go_wp2_with fail
        refine HC.out.mono ?_
        rintro e w1 ⟨rfl, hb1⟩
        have HB1 := Lib.hid (HBA.out.trans (hb1.mono HBA.out.size))
        clear hb1 HC
        go_wp2_with fail
        go_roundw
        case rel => exact ⟨k + 1, z, by omega, HV.out.2, rfl, by go_num, HB1, HV.out.1⟩
        case measure => simp [intOf]; omega
    · have HV := Lib.hid (show R = some acc by rw [HO.out, List.drop_eq_nil_of_le (by omega)]; rfl)
      have hltz : ¬ ((k : Int) < (r.length : Int)) := by omega
      clear HO hat
      go_wp2_with fail
      go_ret2
      exact ⟨by rw [HV.out]; rfl, HB.out⟩

end Go.Proofs.YtgolhfmmlanmlaaGreatDoor

/- Walks: what is made of results as they are, of the reference. -/
namespace Go.Proofs.YtgolhfmmlanmlaaGreatDoor
open Go.RowKit Pth

theorem texts_of_sml {m : List ResT} {ns : List Int} (h : Sml m) (hn : ns.length ≤ 10) : textsL (bodiesL m ns) = true := by
  unfold textsL
  rw [Bool.and_eq_true, decide_eq_true_eq, bodies_len]
  refine ⟨List.all_eq_true.2 fun x hx => ?_, hn⟩
  obtain ⟨k, _, rfl⟩ := List.mem_map.1 hx
  rw [decide_eq_true_eq]
  unfold resAt
  rcases Nat.lt_or_ge k.toNat m.length with h1 | h1
  · rw [getD_at _ h1]; exact h _ (List.getElem_mem h1)
  · rw [List.getD_eq_getElem?_getD, List.getElem?_eq_none h1]; simp [noRes]

set_option maxRecDepth 20000 in
set_option maxHeartbeats 8000000 in
theorem specMake_any (ls : List (List Int)) (l : List Int) (bs : List Bool) (rs : List (List OpT)) (m : List ResT) (t : Nat) (v u : Value) (w : World) (hp : PlanV w v ls l bs rs) (hr : RowR w u m) (hpl : planA ls l bs rs = true) (hmb : m.length = bs.length) (ht : t < ls.length) (hxm : Sml m) :
    Calls Tryz.prog 40 #[v, u, .int .i64 (t : Int)] w fun e w' => e = .returned (resV (makeM ls rs m t)) ∧ Below w.heap.size w w' := by
  have hbl := (plan_parts hpl).2.1
  have hrl := (plan_parts hpl).2.2.1
  have htr : t < rs.length := by omega
  have HV := Lib.hid hp
  obtain ⟨nv, ov, sv, rv, rfl, h1, h2, h3, h4⟩ := hp
  obtain ⟨as0, cs, rfl, hs1, hs2, _⟩ := h3.boolsW
  obtain ⟨an, cn, rfl, hn1, hn2, hatn⟩ := h1.lists
  obtain ⟨ao, co, rfl, ho1, ho2, _⟩ := h2.ints
  obtain ⟨ar, cr, rfl, hr1, hr2, hatr⟩ := h4.lists
  clear h1 h2 h3 h4
  have HR := Lib.hid hr
  obtain ⟨am, cm, rfl, hm1, hm2, hatm⟩ := hr.res
  clear hr
  unfold maxLen at hs2 hn2 ho2 hr2 hm2
  obtain ⟨gr, or', ar2, cr2, rfl, hgr, hcr, hrr⟩ := hatr t htr
  obtain ⟨gn, on, an2, cn2, rfl, hgn, hcn, hrn⟩ := hatn t ht
  obtain ⟨_, _, hev, hcl, hcm, hatk⟩ := hrn.ints
  injection hev with hea _ hec
  subst hea hec
  unfold maxLen at hcm
  have hml : m.length = ls.length := by omega
  obtain ⟨hl10, hin⟩ := plan_task hpl ht
  obtain ⟨wp, hwp⟩ : ∃ wp, wp = w.alloc (.cells #[.slice (some ⟨gn, on, none⟩) ls.length cn, .slice ao l.length co, .slice as0 bs.length cs, .slice (some ⟨gr, or', none⟩) rs.length cr] 42) := ⟨_, rfl⟩
  obtain ⟨wa, hwa⟩ : ∃ wa, wa = wp.alloc (.cells #[.string ⟨#[]⟩, .int .i64 0] 75) := ⟨_, rfl⟩
  have ep : wp.heap.size = w.heap.size + 1 := by rw [hwp]; simp
  have ea : wa.heap.size = w.heap.size + 2 := by rw [hwa]; simp [ep]
  have P0 : Hid (Blk4 wa w.heap.size 42 (.slice (some ⟨gn, on, none⟩) ls.length cn) (.slice ao l.length co) (.slice as0 bs.length cs) (.slice (some ⟨gr, or', none⟩) rs.length cr)) := by rw [hwa, hwp]; exact Blk4.new.old _
  have R0 : Hid (Blk2 wa (w.heap.size + 1) 75 (.string ⟨#[]⟩) (.int .i64 0)) := by rw [hwa, ← ep]; exact Blk2.new
  have HA : Hid (Below w.heap.size w wa) := by rw [hwa, hwp]; exact ((Below.refl w.heap.size w).alloc (Nat.le_refl _) _).alloc (by simp) _
  have HWA : Hid ((w.alloc (.cells #[.slice (some ⟨gn, on, none⟩) ls.length cn, .slice ao l.length co, .slice as0 bs.length cs, .slice (some ⟨gr, or', none⟩) rs.length cr] 42)).alloc (.cells #[.string ⟨#[]⟩, .int .i64 0] 75) = wa) := by rw [hwa, hwp]; rfl
  have hsz : w.heap.size < wa.heap.size := by omega
  have hsz1 : w.heap.size + 1 < wa.heap.size := by omega
  clear hwa hwp ep
  have HATK := Lib.hid hatk
  have HATM := Lib.hid hatm
  have HIN := Lib.hid hin
  have HML := Lib.hid hml
  have HNC : Hid (wa.cell? ⟨gn, on + t, none⟩ = some (.slice an2 ls[t].length cn2)) := (HA.out.cell (p := ⟨gn, on + t, none⟩) hgn).trans hcn
  have HRC : Hid (wa.cell? ⟨gr, or' + t, none⟩ = some (.slice ar2 rs[t].length cr2)) := (HA.out.cell (p := ⟨gr, or' + t, none⟩) hgr).trans hcr
  have htz : (t : Int) < (ls.length : Int) := by omega
  have htq : (t : Int) < (rs.length : Int) := by omega
  have hgrw : gr < wa.heap.size := by omega
  have HSI := Lib.hid (fun W (h : Below w.heap.size w W) => specIns_any ls l bs rs m t _ _ W (HV.out.below h) (HR.out.below h) hpl hmb ht hxm)
  have hgood : goodR rs[t] (ls[t].length : Int) = true := by
    have := (plan_parts hpl).2.2.2 t ht
    rw [planP_at ht (by omega) htr, Bool.and_eq_true] at this
    exact this.1
  have hgo : rs[t].all (opOk ((bodiesL m ls[t]).length : Int)) = true := by rw [bodies_len]; exact (goodR_iff.1 hgood).2.2.2
  have htx : textsL (bodiesL m ls[t]) = true := texts_of_sml hxm (by omega)
  have HRUN := Lib.hid (fun W b (h : Below w.heap.size w W) (hb : RowV W b (S (bodiesL m ls[t]))) => runS_any rs[t] (bodiesL m ls[t]) _ b W (hrr.below h) hb hgo htx)
  obtain ⟨F, hF⟩ : ∃ F, firstL m ls[t] = F := ⟨_, rfl⟩
  obtain ⟨X, hX⟩ : ∃ X, Pth.runT (bodiesL m ls[t]) rs[t] [] = X := ⟨_, rfl⟩
  have HMK : Hid (makeM ls rs m t = madeR F.2 X.isSome (txtO X)) := by show _ = _; unfold makeM; rw [getD_at _ ht, getD_at _ htr, hF, hX]
  rw [hX] at HRUN
  obtain ⟨d, hd⟩ : ∃ d, X.isSome = d := ⟨_, rfl⟩
  obtain ⟨tx, htx2⟩ : ∃ tx, txtO X = tx := ⟨_, rfl⟩
  unfold StepPost at HRUN
  rw [hd, htx2] at HRUN HMK
  have HF := Lib.hid hF
  rw [HMK.out]
  clear hatn hatr hatm hatk hin hpl hrn hrr hml hmb hbl hrl hxm hgood hgo htx hX hcr hF hd htx2
  obtain ⟨c0, c1, c2, c3⟩ := P0.out.cells
  go_enter Tryz.func40, Tryz.ntmps40
  go_wp2_with fail
  rw [HWA.out]
  clear c0 c1 c2 c3 hcn
  go_loopw [18] (fun i wr => ∃ k : Nat, k ≤ ls[t].length ∧ i = .int .i64 k ∧ Hid (Below wa.heap.size wa wr) ∧ Hid (∀ x ∈ ls[t].take k, (resAt m x).2 = 0)) (fun i _ => ls[t].length - (intOf i).toNat)
  case atStart => exact ⟨0, Nat.zero_le _, rfl, Below.refl _ _, by simp [Hid]⟩
  case round =>
    obtain ⟨k, hk, rfl, HB, HO⟩ := hrel
    have HBW := Lib.hid (bth HA.out HB.out (Nat.le_refl _))
    by_cases hlt : k < ls[t].length
    · obtain ⟨g, o, rfl, hg, hcell0⟩ := HATK.out k hlt
      have hcell := (HBW.out.cell (p := ⟨g, o + k, none⟩) hg).trans hcell0
      obtain ⟨hx0, hx1⟩ := HIN.out _ (List.getElem_mem hlt)
      obtain ⟨y, hy⟩ : ∃ y : Nat, ls[t][k] = y := ⟨(ls[t][k]).toNat, by omega⟩
      have hym : y < m.length := by have := HML.out; omega
      obtain ⟨g2, o2, rfl, hg2, hm1', hm2'⟩ := HATM.out y hym
      have s1 := (HBW.out.cell (p := ⟨g2, o2 + y * 2, none⟩) hg2).trans hm1'
      have s2 := (HBW.out.cell (p := ⟨g2, o2 + y * 2 + 1, none⟩) hg2).trans hm2'
      have hra := resAt_nat hym
      have hyz : (y : Int) < (m.length : Int) := by omega
      by_cases hz : m[y].2 = 0
      · have HE : Hid (∀ x ∈ ls[t].take (k + 1), (resAt m x).2 = 0) := take_zero hlt HO.out (by rw [hy, hra]; exact hz)
        have e0 : (m[y].2 != 0) = false := by simp [hz]
        rw [hy] at hcell
        clear hcell0 hx0 hx1 hy hm1' hm2' HO hra hz HATK HATM HIN HF HRUN HSI HMK
        generalize m[y] = q at *
        obtain ⟨q1, q2⟩ := q
        simp only at s1 s2 e0
        obtain ⟨c0, c1, c2, c3⟩ := (P0.out.below HB.out hsz).cells
        go_wp2_with fail
        go_roundw
        case rel => exact ⟨k + 1, by omega, by go_num, HB, HE⟩
        case measure => simp [intOf]; omega
      · have HE : Hid (F = ((y : Int), true)) := by show _ = _; rw [← HF.out, first_yes hlt HO.out (by rw [hy, hra]; exact hz), hy]
        have e0 : (m[y].2 != 0) = true := by simp [hz]
        rw [hy] at hcell
        clear hcell0 hx0 hx1 hy hm1' hm2' HO hra hz HATK HATM HIN HF HRUN HSI HMK
        generalize m[y] = q at *
        obtain ⟨q1, q2⟩ := q
        simp only at s1 s2 e0
        have hRB := R0.out.below HB.out hsz1
        have HRB := Lib.hid hRB
        obtain ⟨r0, r1⟩ := hRB.cells
        have z0 := hRB.soft 0
        have z1 := hRB.soft 1
        clear hRB
        go_wp2_with fail
        have hZ := (HRB.out.set0 (.string ByteArray.empty)).set1 (.int .i64 2)
        refine bodyPost_ret (results_cellR rfl rfl (load_res hZ.cells.1 hZ.cells.2)) rfl ?_
        exact ⟨by rw [HE.out] <;> rfl, (HBW.out.setCell (p := ⟨w.heap.size + 1, 0, none⟩) (by show _ ≤ _ + 1; omega) _).setCell (p := ⟨w.heap.size + 1, 1, none⟩) (by show _ ≤ _ + 1; omega) _⟩
    · have HE : Hid (F = (0, false)) := by show _ = _; rw [← HF.out]; exact first_no (by have := HO.out; rwa [List.take_of_length_le (by omega)] at this)
      clear HO HATK HATM HIN HF HMK
      have hrc := (HB.out.cell (p := ⟨gr, or' + t, none⟩) hgrw).trans HRC.out
      have hszr : wa.heap.size ≤ wr.heap.size := HB.out.size
      have hltp : w.heap.size < wr.heap.size := by omega
      have hltr : w.heap.size + 1 < wr.heap.size := by omega
      have hltg : gr < wr.heap.size := by omega
      have PD : Hid (Blk4 wr.drew w.heap.size 42 (.slice (some ⟨gn, on, none⟩) ls.length cn) (.slice ao l.length co) (.slice as0 bs.length cs) (.slice (some ⟨gr, or', none⟩) rs.length cr)) := P0.out.below (Below.drew HB.out) hsz
      have RD : Hid (Blk2 wr.drew (w.heap.size + 1) 75 (.string ⟨#[]⟩) (.int .i64 0)) := R0.out.below (Below.drew HB.out) hsz1
      have HBD := Lib.hid (Below.drew HBW.out)
      have ks : (wr.drew.cell? ⟨w.heap.size, 0, none⟩ = some (.slice (some ⟨gn, on, none⟩) ls.length cn) ∧ wr.drew.cell? ⟨w.heap.size, 1, none⟩ = some (.slice ao l.length co) ∧ wr.drew.cell? ⟨w.heap.size, 2, none⟩ = some (.slice as0 bs.length cs) ∧ wr.drew.cell? ⟨w.heap.size, 3, none⟩ = some (.slice (some ⟨gr, or', none⟩) rs.length cr)) ∧ wr.drew.cell? ⟨gr, or' + t, none⟩ = some (.slice ar2 rs[t].length cr2) := ⟨PD.out.cells, hrc⟩
      have PDG : Hid (wr.drew.cell? ⟨gr, or' + t, none⟩ = some (.slice ar2 rs[t].length cr2)) := hrc
      clear hrc
      go_wp2_with fail
      go_region_held3 (fun w' => (w'.cell? ⟨w.heap.size, 0, none⟩ = some (.slice (some ⟨gn, on, none⟩) ls.length cn) ∧ w'.cell? ⟨w.heap.size, 1, none⟩ = some (.slice ao l.length co) ∧ w'.cell? ⟨w.heap.size, 2, none⟩ = some (.slice as0 bs.length cs) ∧ w'.cell? ⟨w.heap.size, 3, none⟩ = some (.slice (some ⟨gr, or', none⟩) rs.length cr)) ∧ w'.cell? ⟨gr, or' + t, none⟩ = some (.slice ar2 rs[t].length cr2)) (first | exact ks)
        (first
          | (go_at_call 41; refine (HSI.out _ (by exact HBD.out)).mono ?_; rintro e w7 ⟨v7, rfl, ho7, hb7⟩
             have ks := And.intro (PD.out.below hb7 hltp).cells ((hb7.cell (p := ⟨gr, or' + t, none⟩) hltg).trans PDG.out)
             have HRV7 := Lib.hid (RowV.of_own ho7)
             have C7 := Lib.hid hb7
             have D7 := Lib.hid (bth HBD.out hb7 (Nat.le_refl _))
             clear ho7 hb7)
          | (go_at_call 74; refine (HRUN.out _ _ (by exact D7.out) (by exact HRV7.out)).mono ?_; rintro e w8 ⟨rfl, hb8⟩
             have C8 := Lib.hid (bth C7.out hb8 (Nat.le_refl _))
             have ks := And.intro (PD.out.below C8.out hltp).cells ((C8.out.cell (p := ⟨gr, or' + t, none⟩) hltg).trans (PDG.out))
             clear hb8))
      all_goals
        have hRB := RD.out.below C8.out hltr
        have HR8 := Lib.hid hRB
        have HB8 := Lib.hid (bth HBD.out C8.out (Nat.le_refl _))
        obtain ⟨r0, r1⟩ := hRB.cells
        have z0 := hRB.soft 0
        have z1 := hRB.soft 1
        clear hRB ks
        rcases d with _ | _
        · go_wp2_with fail
          have hZ := (HR8.out.set0 (.string ByteArray.empty)).set1 (.int .i64 1)
          refine bodyPost_ret (results_cellR rfl rfl (load_res hZ.cells.1 hZ.cells.2)) rfl ?_
          exact ⟨by rw [HE.out] <;> rfl, (HB8.out.setCell (p := ⟨w.heap.size + 1, 0, none⟩) (by show _ ≤ _ + 1; omega) _).setCell (p := ⟨w.heap.size + 1, 1, none⟩) (by show _ ≤ _ + 1; omega) _⟩
        · go_wp2_with fail
          have hZ := (HR8.out.set0 (.string ⟨tx.toArray⟩)).set1 (.int .i64 0)
          refine bodyPost_ret (results_cellR rfl rfl (load_res hZ.cells.1 hZ.cells.2)) rfl ?_
          exact ⟨by rw [HE.out] <;> rfl, (HB8.out.setCell (p := ⟨w.heap.size + 1, 0, none⟩) (by show _ ≤ _ + 1; omega) _).setCell (p := ⟨w.heap.size + 1, 1, none⟩) (by show _ ≤ _ + 1; omega) _⟩

set_option maxRecDepth 20000 in
set_option maxHeartbeats 8000000 in
theorem specOne_any (ls : List (List Int)) (l : List Int) (bs : List Bool) (rs : List (List OpT)) (m : List ResT) (ts : List (List UInt8)) (t : Nat) (v u x : Value) (w : World) (hp : PlanV w v ls l bs rs) (hr : RowR w u m) (hts : RowV w x (S ts)) (hpl : planA ls l bs rs = true) (hmb : m.length = bs.length) (htb : ts.length = bs.length) (ht : t < ls.length) (hxm : Sml m) (hxt : ∀ y ∈ ts, y.length ≤ 40) :
    Calls Tryz.prog 96 #[v, u, x, .int .i64 (t : Int)] w fun e w' => e = .returned (resV (oneM ls bs rs ts m t)) ∧ Below w.heap.size w w' := by
  have hbl := (plan_parts hpl).2.1
  have htb' : t < bs.length := by omega
  have htt : t < ts.length := by omega
  have HV := Lib.hid hp
  obtain ⟨nv, ov, sv, rv, rfl, h1, h2, h3, h4⟩ := hp
  obtain ⟨as0, cs, rfl, hs1, hs2, hats⟩ := h3.boolsW
  obtain ⟨an, cn, rfl, hn1, hn2, _⟩ := h1.lists
  obtain ⟨ao, co, rfl, ho1, ho2, _⟩ := h2.ints
  obtain ⟨ar, cr, rfl, hr1, hr2, _⟩ := h4.lists
  clear h1 h2 h3 h4
  have HR := Lib.hid hr
  obtain ⟨am, cm, rfl, hm1, hm2, _⟩ := hr.res
  clear hr
  have HT := Lib.hid hts
  obtain ⟨at0, ct, rfl, ht1, ht2, hatt⟩ := hts.texts
  clear hts
  unfold maxLen at hs2 hn2 ho2 hr2 hm2 ht2
  obtain ⟨gs, os, rfl, hgs, hcs⟩ := hats t htb'
  obtain ⟨gt, ot, rfl, hgt, hct⟩ := hatt t htt
  obtain ⟨wp, hwp⟩ : ∃ wp, wp = w.alloc (.cells #[.slice an ls.length cn, .slice ao l.length co, .slice (some ⟨gs, os, none⟩) bs.length cs, .slice ar rs.length cr] 42) := ⟨_, rfl⟩
  obtain ⟨wa, hwa⟩ : ∃ wa, wa = wp.alloc (.cells #[.string ⟨#[]⟩, .int .i64 0] 75) := ⟨_, rfl⟩
  have ep : wp.heap.size = w.heap.size + 1 := by rw [hwp]; simp
  have ea : wa.heap.size = w.heap.size + 2 := by rw [hwa]; simp [ep]
  have P0 : Hid (Blk4 wa w.heap.size 42 (.slice an ls.length cn) (.slice ao l.length co) (.slice (some ⟨gs, os, none⟩) bs.length cs) (.slice ar rs.length cr)) := by rw [hwa, hwp]; exact Blk4.new.old _
  have R0 : Hid (Blk2 wa (w.heap.size + 1) 75 (.string ⟨#[]⟩) (.int .i64 0)) := by rw [hwa, ← ep]; exact Blk2.new
  have HA : Hid (Below w.heap.size w wa) := by rw [hwa, hwp]; exact ((Below.refl w.heap.size w).alloc (Nat.le_refl _) _).alloc (by simp) _
  have HWA : Hid ((w.alloc (.cells #[.slice an ls.length cn, .slice ao l.length co, .slice (some ⟨gs, os, none⟩) bs.length cs, .slice ar rs.length cr] 42)).alloc (.cells #[.string ⟨#[]⟩, .int .i64 0] 75) = wa) := by rw [hwa, hwp]; rfl
  have hsz : w.heap.size < wa.heap.size := by omega
  have hsz1 : w.heap.size + 1 < wa.heap.size := by omega
  clear hwa hwp ep
  have hzb : (t : Int) < (bs.length : Int) := by omega
  have hzt : (t : Int) < (ts.length : Int) := by omega
  have HMK := Lib.hid (specMake_any ls l bs rs m t _ _ wa (HV.out.below HA.out) (HR.out.below HA.out) hpl hmb ht hxm)
  have hxl : ts[t].length ≤ 40 := hxt _ (List.getElem_mem htt)
  have HO : Hid (oneM ls bs rs ts m t = if bs[t] then (ts[t], 0) else makeM ls rs m t) := by show _ = _; unfold oneM; rw [getD_at _ htb', getD_at _ htt]
  rw [HO.out]
  have hRB := R0.out
  obtain ⟨r0, r1⟩ := hRB.cells
  have z0 := hRB.soft 0
  have z1 := hRB.soft 1
  obtain ⟨c0, c1, c2, c3⟩ := P0.out.cells
  clear hats hatt hpl hmb hxm hxt HO hRB htb hbl
  generalize bs[t] = b at *
  generalize ts[t] = y at *
  generalize makeM ls rs m t = M at *
  obtain ⟨M1, M2⟩ := M
  rcases b with _ | _
  · go_enter Tryz.func96, Tryz.ntmps96
    go_wp2_with fail
    rw [HWA.out]
    unfold resV at HMK
    simp only at HMK
    refine HMK.out.mono ?_
    rintro e w1 ⟨rfl, hb1⟩
    have HB1 := Lib.hid hb1
    clear hb1 c0 c1 c2 c3 r0 r1 z0 z1
    have hRB := R0.out.below HB1.out hsz1
    have HRB := Lib.hid hRB
    obtain ⟨r0, r1⟩ := hRB.cells
    have z0 := hRB.soft 0
    have z1 := hRB.soft 1
    clear hRB
    go_wp2_with fail
    have hZ := (HRB.out.set0 (.string ⟨M1.toArray⟩)).set1 (.int .i64 M2)
    refine bodyPost_ret (results_cellR rfl rfl (load_res hZ.cells.1 hZ.cells.2)) rfl ?_
    exact ⟨by rfl, ((bth HA.out HB1.out (Nat.le_refl _)).setCell (p := ⟨w.heap.size + 1, 0, none⟩) (by show _ ≤ _ + 1; omega) _).setCell (p := ⟨w.heap.size + 1, 1, none⟩) (by show _ ≤ _ + 1; omega) _⟩
  · go_enter Tryz.func96, Tryz.ntmps96
    clear c0 c1 c2 c3 r0 r1 z0 z1
    go_wp2_with fail
    refine bodyPost_ret (results_cellR rfl rfl (load_res (x := .string ⟨y.toArray⟩) (y := .int .i64 0) (by go_simp) (by go_simp))) rfl ?_
    exact ⟨by rfl, ((Below.refl w.heap.size w).alloc (Nat.le_refl _) _).alloc (by simp) _⟩

end Go.Proofs.YtgolhfmmlanmlaaGreatDoor

/- Walks: a task made by the program; what it gives up with is caught. -/
namespace Go.Proofs.YtgolhfmmlanmlaaGreatDoor
open Go.RowKit Pth

theorem ta_given (v : Value) (w : World) : (Instr.typeAssert (.iface 152 v) 20 152 true).run Tryz.prog w = .ok (.tuple #[v, .bool true]) w := by kernel_rfl
theorem ta_given_nil (w : World) : (Instr.typeAssert .nilIface 20 152 true).run Tryz.prog w = .ok (.tuple #[.int .i64 0, .bool false]) w := by kernel_rfl
/-- What is given up with. -/
def gave (st : Int) : List PanicEntry := [{ v := .iface 152 (.int .i64 st), recovered := false }]

set_option maxRecDepth 20000 in
set_option maxHeartbeats 1000000 in
theorem catch_up (b : Nat) (st : Int) (x y : Value) (older : List PanicEntry) (w : World) (h0 : w.cell? ⟨b, 0, none⟩ = some x) (h1 : w.cell? ⟨b, 1, none⟩ = some y) (z0 : w.frozen? ⟨b, 0, none⟩ = false) (z1 : w.frozen? ⟨b, 1, none⟩ = false) :
    CallsD Tryz.prog 117 #[.pointer (some ⟨b, 0, none⟩)] (.panicking ({ v := .iface 152 (.int .i64 st), recovered := false } :: older)) w fun e u' w' =>
      e = .returned (.tuple #[]) ∧ u' = .panicking ({ v := .iface 152 (.int .i64 st), recovered := true } :: older) ∧ w' = (w.setCell ⟨b, 0, none⟩ (.string ByteArray.empty)).setCell ⟨b, 1, none⟩ (.int .i64 st) := by
  have q := ta_given (.int .i64 st)
  refine callsD_of_wpS Tryz.func117 rfl fun c₀ cs hu => ?_
  apply wpS_seq
  apply wpS_region
  simp [wpOpsS, go_sem, recoverD, hu, Tryz.ntmps117, Exit.thenS, q]
  apply wpS_seq
  apply wpS_region
  simp [wpOpsS, go_sem, Exit.thenS]
  refine wpS_cond (t := true) (by simp [Act.eval]) ?_
  simp only [if_true]
  apply wpS_region
  simp [wpOpsS, go_sem, h0, h1, z0, z1, bodyPostS, results, Tryz.results117]
  rfl

set_option maxRecDepth 20000 in
set_option maxHeartbeats 1000000 in
theorem catch_idle (b : Nat) (w : World) :
    CallsD Tryz.prog 117 #[.pointer (some ⟨b, 0, none⟩)] .returning w fun e u' w' => e = .returned (.tuple #[]) ∧ u' = .returning ∧ w' = w := by
  have q := ta_given_nil
  refine callsD_of_wpS Tryz.func117 rfl fun c₀ cs hu => ?_
  apply wpS_seq
  apply wpS_region
  simp [wpOpsS, go_sem, recoverD, hu, Tryz.ntmps117, Exit.thenS, q]
  apply wpS_seq
  apply wpS_region
  simp [wpOpsS, go_sem, Exit.thenS]
  refine wpS_cond (t := false) (by simp [Act.eval]) ?_
  simp only [Bool.false_eq_true, if_false]
  refine wpS_of_wp (wp_skip ?_)
  cases c₀
  simp_all [bodyPostS, results, Tryz.results117]

set_option maxHeartbeats 1000000 in
theorem textMade_b (t : List UInt8) (did ok : Bool) (v u : Value) (w : World)
    (HC : Calls Tryz.prog 140 #[v, u] w fun e w' => e = .returned (.tuple #[.string ⟨t.toArray⟩, .bool did, .bool ok]) ∧ Below w.heap.size w w') :
    Calls Tryz.prog 118 #[v, u] w fun e w' => (if did then e = .returned (.string ⟨t.toArray⟩) else e = .panicked (gave 1)) ∧ Below w.heap.size w w' := by
  have HC := Lib.hid HC
  rcases did with _ | _
  · go_enter Tryz.func118, Tryz.ntmps118
    go_wp2_with fail
    refine HC.out.mono ?_
    rintro e w1 ⟨rfl, hb1⟩
    have HB1 := Lib.hid hb1
    clear hb1
    go_wp2_with fail
    exact ⟨rfl, rfl, HB1.out⟩
  · go_enter Tryz.func118, Tryz.ntmps118
    go_wp2_with fail
    refine HC.out.mono ?_
    rintro e w1 ⟨rfl, hb1⟩
    have HB1 := Lib.hid hb1
    clear hb1
    go_wp2_with fail
    go_ret
    exact ⟨by simp, HB1.out⟩

/-- What is told of what a task needs, or what is given up with. -/
def ReadyPost (ts : List (List UInt8)) (blocked : Bool) (w : World) (e : Ending) (w' : World) : Prop :=
  Below w.heap.size w w' ∧ if blocked then e = .panicked (gave 2) else ∃ v, e = .returned v ∧ w'.ownsRow w.heap.size 9 1 v ts.length (S ts)

set_option maxRecDepth 20000 in
set_option maxHeartbeats 4000000 in
theorem bodiesReady_any (ls : List (List Int)) (l : List Int) (bs : List Bool) (rs : List (List OpT)) (m : List ResT) (t : Nat) (v u : Value) (w : World) (hp : PlanV w v ls l bs rs) (hr : RowR w u m) (hpl : planA ls l bs rs = true) (hmb : m.length = bs.length) (ht : t < ls.length) (hxm : ∀ f ∈ m, f.1.length ≤ 40) :
    Calls Tryz.prog 119 #[v, u, .int .i64 (t : Int)] w (ReadyPost (bodiesL m ls[t]) (firstL m ls[t]).2 w) := by
  have HV := Lib.hid hp
  have HR := Lib.hid hr
  obtain ⟨nv, ov, sv, rv, rfl, h1, h2, h3, h4⟩ := hp
  obtain ⟨as0, cs, rfl, hs1, hs2, _⟩ := h3.boolsW
  obtain ⟨an, cn, rfl, hn1, hn2, _⟩ := h1.lists
  obtain ⟨ao, co, rfl, ho1, ho2, _⟩ := h2.ints
  obtain ⟨ar, cr, rfl, hr1, hr2, _⟩ := h4.lists
  obtain ⟨am, cm, rfl, hm1, hm2, _⟩ := hr.res
  clear h1 h2 h3 h4 hr
  unfold maxLen at hs2 hn2 ho2 hr2 hm2
  obtain ⟨wa, hwa⟩ : ∃ wa, wa = w.alloc (.cells #[.slice an ls.length cn, .slice ao l.length co, .slice as0 bs.length cs, .slice ar rs.length cr] 42) := ⟨_, rfl⟩
  have hsz : w.heap.size < wa.heap.size := by rw [hwa]; simp
  have P0 : Hid (Blk4 wa w.heap.size 42 (.slice an ls.length cn) (.slice ao l.length co) (.slice as0 bs.length cs) (.slice ar rs.length cr)) := by rw [hwa]; exact Blk4.new
  have HA : Hid (Below w.heap.size w wa) := by rw [hwa]; exact (Below.refl w.heap.size w).alloc (Nat.le_refl _) _
  have HWA := Lib.hid hwa
  have HF := Lib.hid (first_any ls l bs rs m t _ _ wa (HV.out.below HA.out) (HR.out.below HA.out) hpl hmb ht)
  have HI := Lib.hid (fun W (h : Below w.heap.size w W) => implIns_any ls l bs rs m t _ _ W (HV.out.below h) (HR.out.below h) hpl hmb ht hxm)
  obtain ⟨c0, c1, c2, c3⟩ := P0.out.cells
  clear hwa hpl hmb hxm
  obtain ⟨r, hr⟩ : ∃ r, firstL m ls[t] = r := ⟨_, rfl⟩
  obtain ⟨ts, hts⟩ : ∃ ts, bodiesL m ls[t] = ts := ⟨_, rfl⟩
  rw [hr] at HF ⊢
  rw [hts] at HI ⊢
  clear hr hts
  obtain ⟨r1, r2⟩ := r
  unfold NumOk at HF
  simp only at HF ⊢
  cases r2 with
  | true =>
    go_enter Tryz.func119, Tryz.ntmps119
    go_wp2_with fail
    rw [← HWA.out]
    refine HF.out.mono ?_
    rintro e w1 ⟨rfl, hb1⟩
    have HB1 := Lib.hid (bth HA.out hb1 (Nat.le_refl _))
    clear hb1 c0 c1 c2 c3
    go_wp2_with fail
    exact ⟨rfl, HB1.out, rfl⟩
  | false =>
    go_enter Tryz.func119, Tryz.ntmps119
    go_wp2_with fail
    rw [← HWA.out]
    refine HF.out.mono ?_
    rintro e w1 ⟨rfl, hb1⟩
    have K1 := Lib.hid hb1
    have HB1 := Lib.hid (bth HA.out hb1 (Nat.le_refl _))
    clear hb1 c0 c1 c2 c3
    obtain ⟨c0, c1, c2, c3⟩ := (P0.out.below K1.out hsz).cells
    go_wp2_with fail
    refine (HI.out w1 HB1.out).mono ?_
    rintro e w2 ⟨v2, rfl, ho2', hb2⟩
    have HO2 := Lib.hid ho2'
    obtain ⟨q1, q2, rfl⟩ := own_slice ho2'
    have HB2 := Lib.hid (bth HB1.out hb2 (Nat.le_refl _))
    have hsb := HB1.out.size
    clear hb2 ho2' c0 c1 c2 c3
    go_wp2_with fail
    go_ret
    exact ⟨HB2.out, _, rfl, own_base HO2.out hsb⟩
end Go.Proofs.YtgolhfmmlanmlaaGreatDoor

/- A region that draws its order, by an invariant over what is done. -/
namespace Go.Proofs.YtgolhfmmlanmlaaGreatDoor
open Go.RowKit

/-- How many are still to do. -/
def leftB (L : Array Bool) : Nat := L.toList.countP (fun b => !b)
theorem left_set {L : Array Bool} {i : Nat} (h : L.getD i true = false) : leftB (L.setIfInBounds i true) + 1 = leftB L := by
  have hi : i < L.size := by
    rcases Nat.lt_or_ge i L.size with h1 | h1
    · exact h1
    · simp [Array.getD, Nat.not_lt.2 h1] at h
  have hv : L.toList[i]'(by simpa using hi) = false := by simpa [Array.getD, hi] using h
  unfold leftB
  have e : (L.setIfInBounds i true).toList = L.toList.set i true := by simp [Array.setIfInBounds, hi]
  rw [e]
  have key : ∀ (l : List Bool) (i : Nat) (hi : i < l.length), l[i] = false → (l.set i true).countP (fun b => !b) + 1 = l.countP (fun b => !b) := by
    intro l
    induction l with
    | nil => intro i hi; simp at hi
    | cons x t ih =>
      intro i hi hx
      cases i with
      | zero => simp only [List.getElem_cons_zero] at hx; subst hx; simp
      | succ i =>
        simp only [List.getElem_cons_succ] at hx
        have := ih i (by simpa using hi) hx
        simp only [List.set_cons_succ, List.countP_cons]
        omega
  exact key _ _ (by simpa using hi) hv
theorem ready_un {ops : Array Oper} {L : Array Bool} {i : Nat} (h : i ∈ Region.ready .any ops L) : L.getD i true = false := by
  unfold Region.ready at h
  have := (List.mem_filter.1 h).2
  rw [Bool.and_eq_true] at this
  simpa using this.1
theorem wpAny_inv {P : Program} {ops : Array Oper} {Q : Exit → Act → World → Prop} (Inv : Array Bool → Act → World → Prop)
    (hstep : ∀ L a w i, Inv L a w → i ∈ Region.ready .any ops L → wpOp P ops Q i (Inv (L.setIfInBounds i true)) a w) (hdone : ∀ L a w, Inv L a w → Region.ready .any ops L = [] → Q .normal a w) :
    ∀ r L a w, leftB L ≤ r → Inv L a w → wpAny P .any ops Q r L a w := by
  intro r
  induction r with
  | zero =>
    intro L a w hr hI
    have : Region.ready .any ops L = [] := by
      cases hq : Region.ready .any ops L with
      | nil => rfl
      | cons i t =>
        have := left_set (ready_un (ops := ops) (L := L) (i := i) (by rw [hq]; simp))
        omega
    exact ⟨this, hdone L a w hI this⟩
  | succ r ih =>
    intro L a w hr hI
    refine ⟨fun h => hdone L a w hI h, fun i hi => ?_⟩
    have hl := left_set (ready_un hi)
    exact wpOp_mono (fun a' w' h' => ih _ a' w' (by omega) h') (hstep L a w i hI hi)
/-- Of an invariant over what is done. -/
theorem wp_region_inv {P : Program} {id : Nat} {ops : Array Oper} {Q : Exit → Act → World → Prop} {a : Act} {w : World} (hm : P.follows .mixedOrders = true) (Inv : Array Bool → Act → World → Prop)
    (h0 : Inv (Array.replicate ops.size false) a w.drew)
    (hstep : ∀ L a w i, Inv L a w → i ∈ Region.ready .any ops L → wpOp P ops Q i (Inv (L.setIfInBounds i true)) a w) (hdone : ∀ L a w, Inv L a w → Region.ready .any ops L = [] → Q .normal a w) : (Code.region id ops true).wp P Q a w :=
  wp_region_any hm (wpAny_inv Inv hstep hdone _ _ _ _ (by unfold leftB; exact Nat.le_trans List.countP_le_length (by simp)) h0)
end Go.Proofs.YtgolhfmmlanmlaaGreatDoor

/- Walks: a task made by the program, given what its recipe makes. -/
namespace Go.Proofs.YtgolhfmmlanmlaaGreatDoor
open Go.RowKit Pth

/-- What holds while a task is made, whatever is done already. -/
def MakeAt (PV DV RS AR : Value) (x0 x1 x2 x3 : Value) (t gr or' : Nat) (ts : List (List UInt8)) (tx : List UInt8) (D : List Deferred) (ff dd : Bool) (w : World) (L : Array Bool) (a : Act) (W : World) : Prop :=
  ∃ (b0 b1 b2 b3 b4 b5 b6 b7 b8 b9 b10 b11 : Bool) (t8 t9 t10 t11 t12 t13 t14 t15 t16 t17 t18 : Value), L = #[b0, b1, b2, b3, b4, b5, b6, b7, b8, b9, b10, b11] ∧
    a = { tmps := #[PV, DV, .int .i64 (t : Int), .pointer (some ⟨w.heap.size, 0, none⟩), undef, undef, .pointer (some ⟨w.heap.size + 1, 0, none⟩), .func (.func 117) #[] #[.pointer (some ⟨w.heap.size + 1, 0, none⟩)], t8, t9, t10, t11, t12, t13, t14, t15, t16, t17, t18], defers := D } ∧
    Below w.heap.size w W ∧ Blk4 W w.heap.size 42 x0 x1 x2 x3 ∧ Blk2 W (w.heap.size + 1) 75 (.string ⟨if b11 then tx.toArray else #[]⟩) (.int .i64 0) ∧
    (b0 = true → t8 = .pointer (some ⟨w.heap.size, 3, none⟩)) ∧ (b1 = true → t9 = RS) ∧ (b2 = true → t10 = .int .i64 (t : Int)) ∧ (b3 = true → t11 = .pointer (some ⟨gr, or' + t, none⟩)) ∧ (b4 = true → t12 = AR) ∧
    (b5 = true → t13 = PV) ∧ (b6 = true → t14 = DV) ∧ (b7 = true → t15 = .int .i64 (t : Int)) ∧ (b8 = true → b9 = false → RowV W t16 (S ts)) ∧ (b9 = true → t17 = .string ⟨tx.toArray⟩) ∧ (b10 = true → t18 = .agg #[.string ⟨tx.toArray⟩, .int .i64 0]) ∧ (b8 = true → ff = false) ∧ (b9 = true → dd = true)

set_option maxRecDepth 20000 in
set_option maxHeartbeats 4000000 in
theorem makeTask_any (ls : List (List Int)) (l : List Int) (bs : List Bool) (rs : List (List OpT)) (m : List ResT) (t : Nat) (tx : List UInt8) (did ok : Bool) (v u : Value) (w : World) (hp : PlanV w v ls l bs rs) (hr : RowR w u m) (hpl : planA ls l bs rs = true) (hmb : m.length = bs.length) (ht : t < ls.length) (htr : t < rs.length) (hxm : ∀ f ∈ m, f.1.length ≤ 40)
    (hrun : ∀ W a b, RowO W a rs[t] → RowV W b (S (bodiesL m ls[t])) → Calls Tryz.prog 140 #[a, b] W fun e w' => e = .returned (.tuple #[.string ⟨tx.toArray⟩, .bool did, .bool ok]) ∧ Below W.heap.size W w') :
    Calls Tryz.prog 88 #[v, u, .int .i64 (t : Int)] w fun e w' => e = .returned (resV (madeR (firstL m ls[t]).2 did tx)) ∧ Below w.heap.size w w' := by
  have HV := Lib.hid hp
  have HR := Lib.hid hr
  obtain ⟨nv, ov, sv, rv, rfl, h1, h2, h3, h4⟩ := hp
  obtain ⟨as0, cs, rfl, hs1, hs2, _⟩ := h3.boolsW
  obtain ⟨an, cn, rfl, hn1, hn2, _⟩ := h1.lists
  obtain ⟨ao, co, rfl, ho1, ho2, _⟩ := h2.ints
  obtain ⟨ar, cr, rfl, hr1, hr2, hatr⟩ := h4.lists
  obtain ⟨am, cm, rfl, hm1, hm2, _⟩ := hr.res
  clear h1 h2 h3 h4 hr
  unfold maxLen at hs2 hn2 ho2 hr2 hm2
  obtain ⟨gr, or', ar2, cr2, rfl, hgr, hcr, hrr⟩ := hatr t htr
  obtain ⟨wp, hwp⟩ : ∃ wp, wp = w.alloc (.cells #[.slice an ls.length cn, .slice ao l.length co, .slice as0 bs.length cs, .slice (some ⟨gr, or', none⟩) rs.length cr] 42) := ⟨_, rfl⟩
  obtain ⟨wa, hwa⟩ : ∃ wa, wa = wp.alloc (.cells #[.string ⟨#[]⟩, .int .i64 0] 75) := ⟨_, rfl⟩
  have ep : wp.heap.size = w.heap.size + 1 := by rw [hwp]; simp
  have ea : wa.heap.size = w.heap.size + 2 := by rw [hwa]; simp [ep]
  have P0 : Hid (Blk4 wa w.heap.size 42 (.slice an ls.length cn) (.slice ao l.length co) (.slice as0 bs.length cs) (.slice (some ⟨gr, or', none⟩) rs.length cr)) := by rw [hwa, hwp]; exact Blk4.new.old _
  have R0 : Hid (Blk2 wa (w.heap.size + 1) 75 (.string ⟨#[]⟩) (.int .i64 0)) := by rw [hwa, ← ep]; exact Blk2.new
  have HA : Hid (Below w.heap.size w wa) := by rw [hwa, hwp]; exact ((Below.refl w.heap.size w).alloc (Nat.le_refl _) _).alloc (by simp) _
  have HWA : Hid ((w.alloc (.cells #[.slice an ls.length cn, .slice ao l.length co, .slice as0 bs.length cs, .slice (some ⟨gr, or', none⟩) rs.length cr] 42)).alloc (.cells #[.string ⟨#[]⟩, .int .i64 0] 75) = wa) := by rw [hwa, hwp]; rfl
  have HCR := Lib.hid hcr
  have hcell : wa.cell? ⟨gr, or' + t, none⟩ = some (.slice ar2 rs[t].length cr2) := (HA.out.cell (p := ⟨gr, or' + t, none⟩) hgr).trans hcr
  have HBR := Lib.hid (fun W (h : Below w.heap.size w W) => bodiesReady_any ls l bs rs m t _ _ W (HV.out.below h) (HR.out.below h) hpl hmb ht hxm)
  have HTM : Hid (∀ W b, Below w.heap.size w W → RowV W b (S (bodiesL m ls[t])) → Calls Tryz.prog 118 #[.slice ar2 rs[t].length cr2, b] W fun e w' => (if did then e = .returned (.string ⟨tx.toArray⟩) else e = .panicked (gave 1)) ∧ Below W.heap.size W w') := fun W b h hb => textMade_b tx did ok _ _ W (hrun W _ b (hrr.below h) hb)
  obtain ⟨fb, hfb⟩ : ∃ fb, (firstL m ls[t]).2 = fb := ⟨_, rfl⟩
  simp only [hfb] at HBR ⊢
  have hmf : ∀ (fn : Fn) (first cap : Array Value) (w : World), (Instr.makeFunc fn first cap).run Tryz.prog w = .ok (.func fn first cap) w := fun _ _ _ _ => rfl
  have htz : (t : Int) < (rs.length : Int) := by omega
  obtain ⟨c0, c1, c2, c3⟩ := P0.out.cells
  clear hfb hwa hwp ep hpl hmb hxm hrun hatr hcr
  go_enter_defers Tryz.func88, Tryz.ntmps88
  go_wp2_with fail
  rw [HWA.out]
  have hcr0 := HCR.out
  clear c0 c1 c2 c3 hcell
  unfold ReadyPost at HBR
  cases fb with
  | false =>
    simp only [Bool.false_eq_true, if_false] at HBR
    cases did with
    | true =>
      obtain ⟨Inv, hInv⟩ : ∃ Inv, Inv = MakeAt (.agg #[.slice an ls.length cn, .slice ao l.length co, .slice as0 bs.length cs, .slice (some ⟨gr, or', none⟩) rs.length cr]) (.slice am m.length cm) (.slice (some ⟨gr, or', none⟩) rs.length cr) (.slice ar2 rs[t].length cr2) (.slice an ls.length cn) (.slice ao l.length co) (.slice as0 bs.length cs) (.slice (some ⟨gr, or', none⟩) rs.length cr) t gr or' (bodiesL m ls[t]) tx [{ target := .fn (.func 117) #[.pointer (some ⟨w.heap.size + 1, 0, none⟩)], args := #[] }] false true w := ⟨_, rfl⟩
      have HInv := Lib.hid hInv
      clear hInv
      refine wp_region_inv (by kernel_rfl) Inv ?_ ?_ ?_
      · rw [HInv.out]
        exact ⟨false, false, false, false, false, false, false, false, false, false, false, false, undef, undef, undef, undef, undef, undef, undef, undef, undef, undef, undef, rfl, rfl, Below.drew HA.out, P0.out, R0.out, by simp, by simp, by simp, by simp, by simp, by simp, by simp, by simp, by simp, by simp, by simp, by simp, by simp⟩
      · intro L a W i hI hi
        rw [HInv.out] at hI
        obtain ⟨b0, b1, b2, b3, b4, b5, b6, b7, b8, b9, b10, b11, t8, t9, t10, t11, t12, t13, t14, t15, t16, t17, t18, hL, hact, hA, hP, hR, g0, g1, g2, g3, g4, g5, g6, g7, g8, g9, g10, g11, g12⟩ := hI
        subst hL hact
        obtain ⟨hi1, hi2⟩ := List.mem_filter.1 hi
        clear hi
        rw [Bool.and_eq_true] at hi2
        have hi3 : i < 12 := by simpa using hi1
        clear hi1
        rcases (by omega : i = 0 ∨ i = 1 ∨ i = 2 ∨ i = 3 ∨ i = 4 ∨ i = 5 ∨ i = 6 ∨ i = 7 ∨ i = 8 ∨ i = 9 ∨ i = 10 ∨ i = 11) with rfl | rfl | rfl | rfl | rfl | rfl | rfl | rfl | rfl | rfl | rfl | rfl
        · -- 0
          refine wpOp_last rfl (fun a w k => k) ?_
          go_wp2_with fail
          refine then_normal ?_
          rw [HInv.out]
          refine ⟨true, b1, b2, b3, b4, b5, b6, b7, b8, b9, b10, b11, _, t9, t10, t11, t12, t13, t14, t15, t16, t17, t18, rfl, rfl, hA, hP, hR, (fun _ => rfl), g1, g2, g3, g4, g5, g6, g7, g8, g9, g10, (fun h => by first | exact g11 h | rfl | simp_all), (fun h => by first | exact g12 h | rfl | simp_all)⟩
        · -- 1
          have d0 : b0 = true := by simpa [Region.binds] using hi2.2
          obtain rfl := g0 d0
          obtain ⟨c0, c1, c2, c3⟩ := hP.cells
          refine wpOp_last rfl (fun a w k => k) ?_
          go_wp2_with fail
          refine then_normal ?_
          rw [HInv.out]
          refine ⟨true, true, b2, b3, b4, b5, b6, b7, b8, b9, b10, b11, _, _, t10, t11, t12, t13, t14, t15, t16, t17, t18, rfl, rfl, hA, hP, hR, (fun _ => rfl), (fun _ => rfl), g2, g3, g4, g5, g6, g7, g8, g9, g10, (fun h => by first | exact g11 h | rfl | simp_all), (fun h => by first | exact g12 h | rfl | simp_all)⟩
        · -- 2
          refine wpOp_last rfl (fun a w k => k) ?_
          go_wp2_with fail
          refine then_normal ?_
          rw [HInv.out]
          refine ⟨b0, b1, true, b3, b4, b5, b6, b7, b8, b9, b10, b11, t8, t9, _, t11, t12, t13, t14, t15, t16, t17, t18, rfl, rfl, hA, hP, hR, g0, g1, (fun _ => rfl), g3, g4, g5, g6, g7, g8, g9, g10, (fun h => by first | exact g11 h | rfl | simp_all), (fun h => by first | exact g12 h | rfl | simp_all)⟩
        · -- 3
          obtain ⟨d1, d2⟩ : b1 = true ∧ b2 = true := by simpa [Region.binds] using hi2.2
          obtain rfl := g1 d1
          obtain rfl := g2 d2
          refine wpOp_last rfl (fun a w k => k) ?_
          go_wp2_with fail
          refine then_normal ?_
          rw [HInv.out]
          refine ⟨b0, true, true, true, b4, b5, b6, b7, b8, b9, b10, b11, t8, _, _, _, t12, t13, t14, t15, t16, t17, t18, rfl, rfl, hA, hP, hR, g0, (fun _ => rfl), (fun _ => rfl), (fun _ => rfl), g4, g5, g6, g7, g8, g9, g10, (fun h => by first | exact g11 h | rfl | simp_all), (fun h => by first | exact g12 h | rfl | simp_all)⟩
        · -- 4
          have d3 : b3 = true := by simpa [Region.binds] using hi2.2
          obtain rfl := g3 d3
          have hcw := (hA.cell (p := ⟨gr, or' + t, none⟩) hgr).trans hcr0
          refine wpOp_last rfl (fun a w k => k) ?_
          go_wp2_with fail
          refine then_normal ?_
          rw [HInv.out]
          refine ⟨b0, b1, b2, true, true, b5, b6, b7, b8, b9, b10, b11, t8, t9, t10, _, _, t13, t14, t15, t16, t17, t18, rfl, rfl, hA, hP, hR, g0, g1, g2, (fun _ => rfl), (fun _ => rfl), g5, g6, g7, g8, g9, g10, (fun h => by first | exact g11 h | rfl | simp_all), (fun h => by first | exact g12 h | rfl | simp_all)⟩
        · -- 5
          obtain ⟨c0, c1, c2, c3⟩ := hP.cells
          refine wpOp_last rfl (fun a w k => k) ?_
          go_wp2_with fail
          refine then_normal ?_
          rw [HInv.out]
          refine ⟨b0, b1, b2, b3, b4, true, b6, b7, b8, b9, b10, b11, t8, t9, t10, t11, t12, _, t14, t15, t16, t17, t18, rfl, rfl, hA, hP, hR, g0, g1, g2, g3, g4, (fun _ => rfl), g6, g7, g8, g9, g10, (fun h => by first | exact g11 h | rfl | simp_all), (fun h => by first | exact g12 h | rfl | simp_all)⟩
        · -- 6
          refine wpOp_last rfl (fun a w k => k) ?_
          go_wp2_with fail
          refine then_normal ?_
          rw [HInv.out]
          refine ⟨b0, b1, b2, b3, b4, b5, true, b7, b8, b9, b10, b11, t8, t9, t10, t11, t12, t13, _, t15, t16, t17, t18, rfl, rfl, hA, hP, hR, g0, g1, g2, g3, g4, g5, (fun _ => rfl), g7, g8, g9, g10, (fun h => by first | exact g11 h | rfl | simp_all), (fun h => by first | exact g12 h | rfl | simp_all)⟩
        · -- 7
          refine wpOp_last rfl (fun a w k => k) ?_
          go_wp2_with fail
          refine then_normal ?_
          rw [HInv.out]
          refine ⟨b0, b1, b2, b3, b4, b5, b6, true, b8, b9, b10, b11, t8, t9, t10, t11, t12, t13, t14, _, t16, t17, t18, rfl, rfl, hA, hP, hR, g0, g1, g2, g3, g4, g5, g6, (fun _ => rfl), g8, g9, g10, (fun h => by first | exact g11 h | rfl | simp_all), (fun h => by first | exact g12 h | rfl | simp_all)⟩
        · -- 8
          obtain ⟨d5, d6, d7⟩ : b5 = true ∧ b6 = true ∧ b7 = true := by simpa [Region.binds] using hi2.2
          obtain rfl := g5 d5
          obtain rfl := g6 d6
          obtain rfl := g7 d7
          refine wpOp_last rfl (fun a w k => k) ?_
          go_wp2_with fail
          refine (HBR.out W hA).mono ?_
          rintro e w7 ⟨hb7, v7, rfl, ho7⟩
          have hr7 := RowV.of_own ho7
          obtain ⟨q1, q2, rfl⟩ := own_slice ho7
          go_wp2_with fail
          refine then_normal ?_
          rw [HInv.out]
          refine ⟨b0, b1, b2, b3, b4, b5, b6, b7, true, b9, b10, b11, t8, t9, t10, t11, t12, _, _, _, _, t17, t18, rfl, rfl, bth hA hb7 (Nat.le_refl _), hP.below hb7 (lt_of_block hP), hR.below hb7 (lt_of_block hR), g0, g1, g2, g3, g4, (fun _ => rfl), (fun _ => rfl), (fun _ => rfl), (fun _ _ => hr7), g9, g10, (fun _ => rfl), (fun h => by first | exact g12 h | rfl | simp_all)⟩
        · -- 9
          obtain ⟨d4, d8⟩ : b4 = true ∧ b8 = true := by simpa [Region.binds] using hi2.2
          obtain rfl := g4 d4
          refine wpOp_last rfl (fun a w k => k) ?_
          go_wp2_with fail
          refine (HTM.out W _ hA (g8 d8 (by simpa using hi2.1))).mono ?_
          rintro e w7 ⟨he7, hb7⟩
          simp only [if_true] at he7
          subst he7
          go_wp2_with fail
          refine then_normal ?_
          rw [HInv.out]
          refine ⟨b0, b1, b2, b3, b4, b5, b6, b7, b8, true, b10, b11, t8, t9, t10, t11, _, t13, t14, t15, t16, _, t18, rfl, rfl, bth hA hb7 (Nat.le_refl _), hP.below hb7 (lt_of_block hP), hR.below hb7 (lt_of_block hR), g0, g1, g2, g3, (fun _ => rfl), g5, g6, g7, (fun _ h => absurd h (by simp)), (fun _ => rfl), g10, (fun h => by first | exact g11 h | rfl | simp_all), (fun _ => rfl)⟩
        · -- 10
          have d9 : b9 = true := by simpa [Region.binds] using hi2.2
          obtain rfl := g9 d9
          refine wpOp_last rfl (fun a w k => k) ?_
          go_wp2_with fail
          refine then_normal ?_
          rw [HInv.out]
          refine ⟨b0, b1, b2, b3, b4, b5, b6, b7, b8, true, true, b11, t8, t9, t10, t11, t12, t13, t14, t15, t16, _, _, rfl, rfl, hA, hP, hR, g0, g1, g2, g3, g4, g5, g6, g7, (fun _ h => absurd h (by simp)), (fun _ => rfl), (fun _ => rfl), (fun h => by first | exact g11 h | rfl | simp_all), (fun h => by first | exact g12 d9 | rfl | simp_all)⟩
        · -- 11
          have hd9 := hi2.2
          simp [Region.binds] at hd9
          have d10 : b10 = true := hd9.1
          have d9 : b9 = true := hd9.2.1
          clear hd9
          clear hi2
          obtain rfl := g10 d10
          obtain ⟨r0, r1⟩ := hR.cells
          have z0 := hR.soft 0
          have z1 := hR.soft 1
          refine wpOp_last rfl (fun a w k => k) ?_
          go_wp2_with fail
          refine then_normal ?_
          rw [HInv.out]
          (subst d10 d9; refine ⟨b0, b1, b2, b3, b4, b5, b6, b7, b8, true, true, true, t8, t9, t10, t11, t12, t13, t14, t15, t16, _, _, rfl, rfl, (hA.setCell (p := ⟨w.heap.size + 1, 0, none⟩) (by show _ ≤ _ + 1; omega) _).setCell (p := ⟨w.heap.size + 1, 1, none⟩) (by show _ ≤ _ + 1; omega) _, (hP.other (p := ⟨w.heap.size + 1, 0, none⟩) (by show _ ≠ _ + 1; omega) _).other (p := ⟨w.heap.size + 1, 1, none⟩) (by show _ ≠ _ + 1; omega) _, (hR.set0 _).set1 _, g0, g1, g2, g3, g4, g5, g6, g7, (fun _ h => absurd h (by simp)), (fun _ => rfl), (fun _ => rfl), (fun h => by first | exact g11 h | rfl | simp_all), (fun h => by first | exact g12 d9 | rfl | simp_all)⟩)
      · intro L a W hI hd
        rw [HInv.out] at hI
        obtain ⟨b0, b1, b2, b3, b4, b5, b6, b7, b8, b9, b10, b11, t8, t9, t10, t11, t12, t13, t14, t15, t16, t17, t18, hL, hact, hA, hP, hR, g0, g1, g2, g3, g4, g5, g6, g7, g8, g9, g10, g11, g12⟩ := hI
        subst hL hact
        have hall := List.filter_eq_nil_iff.1 hd
        clear hd
        have e0 : b0 = true := by have := hall 0 (by simp); simpa using this
        have e2 : b2 = true := by have := hall 2 (by simp); simpa using this
        have e5 : b5 = true := by have := hall 5 (by simp); simpa using this
        have e6 : b6 = true := by have := hall 6 (by simp); simpa using this
        have e7 : b7 = true := by have := hall 7 (by simp); simpa using this
        subst e0 e2 e5 e6 e7
        have e1 : b1 = true := by have := hall 1 (by simp); simpa [Region.binds] using this
        subst e1
        have e3 : b3 = true := by have := hall 3 (by simp); simpa [Region.binds] using this
        subst e3
        have e4 : b4 = true := by have := hall 4 (by simp); simpa [Region.binds] using this
        have e8 : b8 = true := by have := hall 8 (by simp); simpa [Region.binds] using this
        subst e4 e8
        have e9 : b9 = true := by have := hall 9 (by simp); simpa [Region.binds] using this
        subst e9
        have e10 : b10 = true := by have := hall 10 (by simp); simpa [Region.binds] using this
        subst e10
        have e11 : b11 = true := by have := hall 11 (by simp); simpa [Region.binds] using this
        subst e11
        clear hall
        go_wp2_with fail
        refine leaves_cons (f := 117) (args := #[.pointer (some ⟨w.heap.size + 1, 0, none⟩)]) (by simp) (by simp [go_sem]) ?_
        refine (catch_idle (w.heap.size + 1) W).mono ?_
        rintro e u' w'' ⟨rfl, rfl, rfl⟩
        exact ⟨_, results_cellR rfl rfl (load_res hR.cells.1 hR.cells.2), rfl, hA⟩
    | false =>
      obtain ⟨Inv, hInv⟩ : ∃ Inv, Inv = MakeAt (.agg #[.slice an ls.length cn, .slice ao l.length co, .slice as0 bs.length cs, .slice (some ⟨gr, or', none⟩) rs.length cr]) (.slice am m.length cm) (.slice (some ⟨gr, or', none⟩) rs.length cr) (.slice ar2 rs[t].length cr2) (.slice an ls.length cn) (.slice ao l.length co) (.slice as0 bs.length cs) (.slice (some ⟨gr, or', none⟩) rs.length cr) t gr or' (bodiesL m ls[t]) tx [{ target := .fn (.func 117) #[.pointer (some ⟨w.heap.size + 1, 0, none⟩)], args := #[] }] false false w := ⟨_, rfl⟩
      have HInv := Lib.hid hInv
      clear hInv
      refine wp_region_inv (by kernel_rfl) Inv ?_ ?_ ?_
      · rw [HInv.out]
        exact ⟨false, false, false, false, false, false, false, false, false, false, false, false, undef, undef, undef, undef, undef, undef, undef, undef, undef, undef, undef, rfl, rfl, Below.drew HA.out, P0.out, R0.out, by simp, by simp, by simp, by simp, by simp, by simp, by simp, by simp, by simp, by simp, by simp, by simp, by simp⟩
      · intro L a W i hI hi
        rw [HInv.out] at hI
        obtain ⟨b0, b1, b2, b3, b4, b5, b6, b7, b8, b9, b10, b11, t8, t9, t10, t11, t12, t13, t14, t15, t16, t17, t18, hL, hact, hA, hP, hR, g0, g1, g2, g3, g4, g5, g6, g7, g8, g9, g10, g11, g12⟩ := hI
        subst hL hact
        obtain ⟨hi1, hi2⟩ := List.mem_filter.1 hi
        clear hi
        rw [Bool.and_eq_true] at hi2
        have hi3 : i < 12 := by simpa using hi1
        clear hi1
        rcases (by omega : i = 0 ∨ i = 1 ∨ i = 2 ∨ i = 3 ∨ i = 4 ∨ i = 5 ∨ i = 6 ∨ i = 7 ∨ i = 8 ∨ i = 9 ∨ i = 10 ∨ i = 11) with rfl | rfl | rfl | rfl | rfl | rfl | rfl | rfl | rfl | rfl | rfl | rfl
        · -- 0
          refine wpOp_last rfl (fun a w k => k) ?_
          go_wp2_with fail
          refine then_normal ?_
          rw [HInv.out]
          refine ⟨true, b1, b2, b3, b4, b5, b6, b7, b8, b9, b10, b11, _, t9, t10, t11, t12, t13, t14, t15, t16, t17, t18, rfl, rfl, hA, hP, hR, (fun _ => rfl), g1, g2, g3, g4, g5, g6, g7, g8, g9, g10, (fun h => by first | exact g11 h | rfl | simp_all), (fun h => by first | exact g12 h | rfl | simp_all)⟩
        · -- 1
          have d0 : b0 = true := by simpa [Region.binds] using hi2.2
          obtain rfl := g0 d0
          obtain ⟨c0, c1, c2, c3⟩ := hP.cells
          refine wpOp_last rfl (fun a w k => k) ?_
          go_wp2_with fail
          refine then_normal ?_
          rw [HInv.out]
          refine ⟨true, true, b2, b3, b4, b5, b6, b7, b8, b9, b10, b11, _, _, t10, t11, t12, t13, t14, t15, t16, t17, t18, rfl, rfl, hA, hP, hR, (fun _ => rfl), (fun _ => rfl), g2, g3, g4, g5, g6, g7, g8, g9, g10, (fun h => by first | exact g11 h | rfl | simp_all), (fun h => by first | exact g12 h | rfl | simp_all)⟩
        · -- 2
          refine wpOp_last rfl (fun a w k => k) ?_
          go_wp2_with fail
          refine then_normal ?_
          rw [HInv.out]
          refine ⟨b0, b1, true, b3, b4, b5, b6, b7, b8, b9, b10, b11, t8, t9, _, t11, t12, t13, t14, t15, t16, t17, t18, rfl, rfl, hA, hP, hR, g0, g1, (fun _ => rfl), g3, g4, g5, g6, g7, g8, g9, g10, (fun h => by first | exact g11 h | rfl | simp_all), (fun h => by first | exact g12 h | rfl | simp_all)⟩
        · -- 3
          obtain ⟨d1, d2⟩ : b1 = true ∧ b2 = true := by simpa [Region.binds] using hi2.2
          obtain rfl := g1 d1
          obtain rfl := g2 d2
          refine wpOp_last rfl (fun a w k => k) ?_
          go_wp2_with fail
          refine then_normal ?_
          rw [HInv.out]
          refine ⟨b0, true, true, true, b4, b5, b6, b7, b8, b9, b10, b11, t8, _, _, _, t12, t13, t14, t15, t16, t17, t18, rfl, rfl, hA, hP, hR, g0, (fun _ => rfl), (fun _ => rfl), (fun _ => rfl), g4, g5, g6, g7, g8, g9, g10, (fun h => by first | exact g11 h | rfl | simp_all), (fun h => by first | exact g12 h | rfl | simp_all)⟩
        · -- 4
          have d3 : b3 = true := by simpa [Region.binds] using hi2.2
          obtain rfl := g3 d3
          have hcw := (hA.cell (p := ⟨gr, or' + t, none⟩) hgr).trans hcr0
          refine wpOp_last rfl (fun a w k => k) ?_
          go_wp2_with fail
          refine then_normal ?_
          rw [HInv.out]
          refine ⟨b0, b1, b2, true, true, b5, b6, b7, b8, b9, b10, b11, t8, t9, t10, _, _, t13, t14, t15, t16, t17, t18, rfl, rfl, hA, hP, hR, g0, g1, g2, (fun _ => rfl), (fun _ => rfl), g5, g6, g7, g8, g9, g10, (fun h => by first | exact g11 h | rfl | simp_all), (fun h => by first | exact g12 h | rfl | simp_all)⟩
        · -- 5
          obtain ⟨c0, c1, c2, c3⟩ := hP.cells
          refine wpOp_last rfl (fun a w k => k) ?_
          go_wp2_with fail
          refine then_normal ?_
          rw [HInv.out]
          refine ⟨b0, b1, b2, b3, b4, true, b6, b7, b8, b9, b10, b11, t8, t9, t10, t11, t12, _, t14, t15, t16, t17, t18, rfl, rfl, hA, hP, hR, g0, g1, g2, g3, g4, (fun _ => rfl), g6, g7, g8, g9, g10, (fun h => by first | exact g11 h | rfl | simp_all), (fun h => by first | exact g12 h | rfl | simp_all)⟩
        · -- 6
          refine wpOp_last rfl (fun a w k => k) ?_
          go_wp2_with fail
          refine then_normal ?_
          rw [HInv.out]
          refine ⟨b0, b1, b2, b3, b4, b5, true, b7, b8, b9, b10, b11, t8, t9, t10, t11, t12, t13, _, t15, t16, t17, t18, rfl, rfl, hA, hP, hR, g0, g1, g2, g3, g4, g5, (fun _ => rfl), g7, g8, g9, g10, (fun h => by first | exact g11 h | rfl | simp_all), (fun h => by first | exact g12 h | rfl | simp_all)⟩
        · -- 7
          refine wpOp_last rfl (fun a w k => k) ?_
          go_wp2_with fail
          refine then_normal ?_
          rw [HInv.out]
          refine ⟨b0, b1, b2, b3, b4, b5, b6, true, b8, b9, b10, b11, t8, t9, t10, t11, t12, t13, t14, _, t16, t17, t18, rfl, rfl, hA, hP, hR, g0, g1, g2, g3, g4, g5, g6, (fun _ => rfl), g8, g9, g10, (fun h => by first | exact g11 h | rfl | simp_all), (fun h => by first | exact g12 h | rfl | simp_all)⟩
        · -- 8
          obtain ⟨d5, d6, d7⟩ : b5 = true ∧ b6 = true ∧ b7 = true := by simpa [Region.binds] using hi2.2
          obtain rfl := g5 d5
          obtain rfl := g6 d6
          obtain rfl := g7 d7
          refine wpOp_last rfl (fun a w k => k) ?_
          go_wp2_with fail
          refine (HBR.out W hA).mono ?_
          rintro e w7 ⟨hb7, v7, rfl, ho7⟩
          have hr7 := RowV.of_own ho7
          obtain ⟨q1, q2, rfl⟩ := own_slice ho7
          go_wp2_with fail
          refine then_normal ?_
          rw [HInv.out]
          refine ⟨b0, b1, b2, b3, b4, b5, b6, b7, true, b9, b10, b11, t8, t9, t10, t11, t12, _, _, _, _, t17, t18, rfl, rfl, bth hA hb7 (Nat.le_refl _), hP.below hb7 (lt_of_block hP), hR.below hb7 (lt_of_block hR), g0, g1, g2, g3, g4, (fun _ => rfl), (fun _ => rfl), (fun _ => rfl), (fun _ _ => hr7), g9, g10, (fun _ => rfl), (fun h => by first | exact g12 h | rfl | simp_all)⟩
        · -- 9
          obtain ⟨d4, d8⟩ : b4 = true ∧ b8 = true := by simpa [Region.binds] using hi2.2
          obtain rfl := g4 d4
          refine wpOp_last rfl (fun a w k => k) ?_
          go_wp2_with fail
          refine (HTM.out W _ hA (g8 d8 (by simpa using hi2.1))).mono ?_
          rintro e w7 ⟨he7, hb7⟩
          simp only [Bool.false_eq_true, if_false] at he7
          subst he7
          go_wp2_with fail
          refine leaves_cons (f := 117) (args := #[.pointer (some ⟨w.heap.size + 1, 0, none⟩)]) (by simp) (by simp [go_sem]) ?_
          have hR7 := hR.below hb7 (lt_of_block hR)
          refine (catch_up (w.heap.size + 1) 1 _ _ [] w7 hR7.cells.1 hR7.cells.2 (hR7.soft 0) (hR7.soft 1)).mono ?_
          rintro e u' w'' ⟨rfl, rfl, rfl⟩
          have hZ := (hR7.set0 (.string ByteArray.empty)).set1 (.int .i64 1)
          exact ⟨_, results_cellR rfl rfl (load_res hZ.cells.1 hZ.cells.2), rfl, ((bth hA hb7 (Nat.le_refl _)).setCell (p := ⟨w.heap.size + 1, 0, none⟩) (by show _ ≤ _ + 1; omega) _).setCell (p := ⟨w.heap.size + 1, 1, none⟩) (by show _ ≤ _ + 1; omega) _⟩
        · -- 10
          have d9 : b9 = true := by simpa [Region.binds] using hi2.2
          exact absurd (g12 d9) (by simp)
        · -- 11
          have hd9 := hi2.2
          simp [Region.binds] at hd9
          exact absurd (g12 hd9.2.1) (by simp)
      · intro L a W hI hd
        rw [HInv.out] at hI
        obtain ⟨b0, b1, b2, b3, b4, b5, b6, b7, b8, b9, b10, b11, t8, t9, t10, t11, t12, t13, t14, t15, t16, t17, t18, hL, hact, hA, hP, hR, g0, g1, g2, g3, g4, g5, g6, g7, g8, g9, g10, g11, g12⟩ := hI
        subst hL hact
        have hall := List.filter_eq_nil_iff.1 hd
        clear hd
        have e0 : b0 = true := by have := hall 0 (by simp); simpa using this
        have e2 : b2 = true := by have := hall 2 (by simp); simpa using this
        have e5 : b5 = true := by have := hall 5 (by simp); simpa using this
        have e6 : b6 = true := by have := hall 6 (by simp); simpa using this
        have e7 : b7 = true := by have := hall 7 (by simp); simpa using this
        subst e0 e2 e5 e6 e7
        have e1 : b1 = true := by have := hall 1 (by simp); simpa [Region.binds] using this
        subst e1
        have e3 : b3 = true := by have := hall 3 (by simp); simpa [Region.binds] using this
        subst e3
        have e4 : b4 = true := by have := hall 4 (by simp); simpa [Region.binds] using this
        have e8 : b8 = true := by have := hall 8 (by simp); simpa [Region.binds] using this
        subst e4 e8
        have e9 : b9 = true := by have := hall 9 (by simp); simpa [Region.binds] using this
        subst e9
        have e10 : b10 = true := by have := hall 10 (by simp); simpa [Region.binds] using this
        subst e10
        have e11 : b11 = true := by have := hall 11 (by simp); simpa [Region.binds] using this
        subst e11
        clear hall
        exact absurd (g12 rfl) (by simp)
  | true =>
    simp only [if_true] at HBR
    obtain ⟨Inv, hInv⟩ : ∃ Inv, Inv = MakeAt (.agg #[.slice an ls.length cn, .slice ao l.length co, .slice as0 bs.length cs, .slice (some ⟨gr, or', none⟩) rs.length cr]) (.slice am m.length cm) (.slice (some ⟨gr, or', none⟩) rs.length cr) (.slice ar2 rs[t].length cr2) (.slice an ls.length cn) (.slice ao l.length co) (.slice as0 bs.length cs) (.slice (some ⟨gr, or', none⟩) rs.length cr) t gr or' (bodiesL m ls[t]) tx [{ target := .fn (.func 117) #[.pointer (some ⟨w.heap.size + 1, 0, none⟩)], args := #[] }] true did w := ⟨_, rfl⟩
    have HInv := Lib.hid hInv
    clear hInv
    refine wp_region_inv (by kernel_rfl) Inv ?_ ?_ ?_
    · rw [HInv.out]
      exact ⟨false, false, false, false, false, false, false, false, false, false, false, false, undef, undef, undef, undef, undef, undef, undef, undef, undef, undef, undef, rfl, rfl, Below.drew HA.out, P0.out, R0.out, by simp, by simp, by simp, by simp, by simp, by simp, by simp, by simp, by simp, by simp, by simp, by simp, by simp⟩
    · intro L a W i hI hi
      rw [HInv.out] at hI
      obtain ⟨b0, b1, b2, b3, b4, b5, b6, b7, b8, b9, b10, b11, t8, t9, t10, t11, t12, t13, t14, t15, t16, t17, t18, hL, hact, hA, hP, hR, g0, g1, g2, g3, g4, g5, g6, g7, g8, g9, g10, g11, g12⟩ := hI
      subst hL hact
      obtain ⟨hi1, hi2⟩ := List.mem_filter.1 hi
      clear hi
      rw [Bool.and_eq_true] at hi2
      have hi3 : i < 12 := by simpa using hi1
      clear hi1
      rcases (by omega : i = 0 ∨ i = 1 ∨ i = 2 ∨ i = 3 ∨ i = 4 ∨ i = 5 ∨ i = 6 ∨ i = 7 ∨ i = 8 ∨ i = 9 ∨ i = 10 ∨ i = 11) with rfl | rfl | rfl | rfl | rfl | rfl | rfl | rfl | rfl | rfl | rfl | rfl
      · -- 0
        refine wpOp_last rfl (fun a w k => k) ?_
        go_wp2_with fail
        refine then_normal ?_
        rw [HInv.out]
        refine ⟨true, b1, b2, b3, b4, b5, b6, b7, b8, b9, b10, b11, _, t9, t10, t11, t12, t13, t14, t15, t16, t17, t18, rfl, rfl, hA, hP, hR, (fun _ => rfl), g1, g2, g3, g4, g5, g6, g7, g8, g9, g10, (fun h => by first | exact g11 h | rfl | simp_all), (fun h => by first | exact g12 h | rfl | simp_all)⟩
      · -- 1
        have d0 : b0 = true := by simpa [Region.binds] using hi2.2
        obtain rfl := g0 d0
        obtain ⟨c0, c1, c2, c3⟩ := hP.cells
        refine wpOp_last rfl (fun a w k => k) ?_
        go_wp2_with fail
        refine then_normal ?_
        rw [HInv.out]
        refine ⟨true, true, b2, b3, b4, b5, b6, b7, b8, b9, b10, b11, _, _, t10, t11, t12, t13, t14, t15, t16, t17, t18, rfl, rfl, hA, hP, hR, (fun _ => rfl), (fun _ => rfl), g2, g3, g4, g5, g6, g7, g8, g9, g10, (fun h => by first | exact g11 h | rfl | simp_all), (fun h => by first | exact g12 h | rfl | simp_all)⟩
      · -- 2
        refine wpOp_last rfl (fun a w k => k) ?_
        go_wp2_with fail
        refine then_normal ?_
        rw [HInv.out]
        refine ⟨b0, b1, true, b3, b4, b5, b6, b7, b8, b9, b10, b11, t8, t9, _, t11, t12, t13, t14, t15, t16, t17, t18, rfl, rfl, hA, hP, hR, g0, g1, (fun _ => rfl), g3, g4, g5, g6, g7, g8, g9, g10, (fun h => by first | exact g11 h | rfl | simp_all), (fun h => by first | exact g12 h | rfl | simp_all)⟩
      · -- 3
        obtain ⟨d1, d2⟩ : b1 = true ∧ b2 = true := by simpa [Region.binds] using hi2.2
        obtain rfl := g1 d1
        obtain rfl := g2 d2
        refine wpOp_last rfl (fun a w k => k) ?_
        go_wp2_with fail
        refine then_normal ?_
        rw [HInv.out]
        refine ⟨b0, true, true, true, b4, b5, b6, b7, b8, b9, b10, b11, t8, _, _, _, t12, t13, t14, t15, t16, t17, t18, rfl, rfl, hA, hP, hR, g0, (fun _ => rfl), (fun _ => rfl), (fun _ => rfl), g4, g5, g6, g7, g8, g9, g10, (fun h => by first | exact g11 h | rfl | simp_all), (fun h => by first | exact g12 h | rfl | simp_all)⟩
      · -- 4
        have d3 : b3 = true := by simpa [Region.binds] using hi2.2
        obtain rfl := g3 d3
        have hcw := (hA.cell (p := ⟨gr, or' + t, none⟩) hgr).trans hcr0
        refine wpOp_last rfl (fun a w k => k) ?_
        go_wp2_with fail
        refine then_normal ?_
        rw [HInv.out]
        refine ⟨b0, b1, b2, true, true, b5, b6, b7, b8, b9, b10, b11, t8, t9, t10, _, _, t13, t14, t15, t16, t17, t18, rfl, rfl, hA, hP, hR, g0, g1, g2, (fun _ => rfl), (fun _ => rfl), g5, g6, g7, g8, g9, g10, (fun h => by first | exact g11 h | rfl | simp_all), (fun h => by first | exact g12 h | rfl | simp_all)⟩
      · -- 5
        obtain ⟨c0, c1, c2, c3⟩ := hP.cells
        refine wpOp_last rfl (fun a w k => k) ?_
        go_wp2_with fail
        refine then_normal ?_
        rw [HInv.out]
        refine ⟨b0, b1, b2, b3, b4, true, b6, b7, b8, b9, b10, b11, t8, t9, t10, t11, t12, _, t14, t15, t16, t17, t18, rfl, rfl, hA, hP, hR, g0, g1, g2, g3, g4, (fun _ => rfl), g6, g7, g8, g9, g10, (fun h => by first | exact g11 h | rfl | simp_all), (fun h => by first | exact g12 h | rfl | simp_all)⟩
      · -- 6
        refine wpOp_last rfl (fun a w k => k) ?_
        go_wp2_with fail
        refine then_normal ?_
        rw [HInv.out]
        refine ⟨b0, b1, b2, b3, b4, b5, true, b7, b8, b9, b10, b11, t8, t9, t10, t11, t12, t13, _, t15, t16, t17, t18, rfl, rfl, hA, hP, hR, g0, g1, g2, g3, g4, g5, (fun _ => rfl), g7, g8, g9, g10, (fun h => by first | exact g11 h | rfl | simp_all), (fun h => by first | exact g12 h | rfl | simp_all)⟩
      · -- 7
        refine wpOp_last rfl (fun a w k => k) ?_
        go_wp2_with fail
        refine then_normal ?_
        rw [HInv.out]
        refine ⟨b0, b1, b2, b3, b4, b5, b6, true, b8, b9, b10, b11, t8, t9, t10, t11, t12, t13, t14, _, t16, t17, t18, rfl, rfl, hA, hP, hR, g0, g1, g2, g3, g4, g5, g6, (fun _ => rfl), g8, g9, g10, (fun h => by first | exact g11 h | rfl | simp_all), (fun h => by first | exact g12 h | rfl | simp_all)⟩
      · -- 8
        obtain ⟨d5, d6, d7⟩ : b5 = true ∧ b6 = true ∧ b7 = true := by simpa [Region.binds] using hi2.2
        obtain rfl := g5 d5
        obtain rfl := g6 d6
        obtain rfl := g7 d7
        refine wpOp_last rfl (fun a w k => k) ?_
        go_wp2_with fail
        refine (HBR.out W hA).mono ?_
        rintro e w7 ⟨hb7, rfl⟩
        go_wp2_with fail
        refine leaves_cons (f := 117) (args := #[.pointer (some ⟨w.heap.size + 1, 0, none⟩)]) (by simp) (by simp [go_sem]) ?_
        have hR7 := hR.below hb7 (lt_of_block hR)
        refine (catch_up (w.heap.size + 1) 2 _ _ [] w7 hR7.cells.1 hR7.cells.2 (hR7.soft 0) (hR7.soft 1)).mono ?_
        rintro e u' w'' ⟨rfl, rfl, rfl⟩
        have hZ := (hR7.set0 (.string ByteArray.empty)).set1 (.int .i64 2)
        exact ⟨_, results_cellR rfl rfl (load_res hZ.cells.1 hZ.cells.2), rfl, ((bth hA hb7 (Nat.le_refl _)).setCell (p := ⟨w.heap.size + 1, 0, none⟩) (by show _ ≤ _ + 1; omega) _).setCell (p := ⟨w.heap.size + 1, 1, none⟩) (by show _ ≤ _ + 1; omega) _⟩
      · -- 9
        obtain ⟨d4, d8⟩ : b4 = true ∧ b8 = true := by simpa [Region.binds] using hi2.2
        exact absurd (g11 d8) (by simp)
      · -- 10
        have d9 : b9 = true := by simpa [Region.binds] using hi2.2
        obtain rfl := g9 d9
        refine wpOp_last rfl (fun a w k => k) ?_
        go_wp2_with fail
        refine then_normal ?_
        rw [HInv.out]
        refine ⟨b0, b1, b2, b3, b4, b5, b6, b7, b8, true, true, b11, t8, t9, t10, t11, t12, t13, t14, t15, t16, _, _, rfl, rfl, hA, hP, hR, g0, g1, g2, g3, g4, g5, g6, g7, (fun _ h => absurd h (by simp)), (fun _ => rfl), (fun _ => rfl), (fun h => by first | exact g11 h | rfl | simp_all), (fun h => by first | exact g12 d9 | rfl | simp_all)⟩
      · -- 11
        have hd9 := hi2.2
        simp [Region.binds] at hd9
        have d10 : b10 = true := hd9.1
        have d9 : b9 = true := hd9.2.1
        clear hd9
        clear hi2
        obtain rfl := g10 d10
        obtain ⟨r0, r1⟩ := hR.cells
        have z0 := hR.soft 0
        have z1 := hR.soft 1
        refine wpOp_last rfl (fun a w k => k) ?_
        go_wp2_with fail
        refine then_normal ?_
        rw [HInv.out]
        (subst d10 d9; refine ⟨b0, b1, b2, b3, b4, b5, b6, b7, b8, true, true, true, t8, t9, t10, t11, t12, t13, t14, t15, t16, _, _, rfl, rfl, (hA.setCell (p := ⟨w.heap.size + 1, 0, none⟩) (by show _ ≤ _ + 1; omega) _).setCell (p := ⟨w.heap.size + 1, 1, none⟩) (by show _ ≤ _ + 1; omega) _, (hP.other (p := ⟨w.heap.size + 1, 0, none⟩) (by show _ ≠ _ + 1; omega) _).other (p := ⟨w.heap.size + 1, 1, none⟩) (by show _ ≠ _ + 1; omega) _, (hR.set0 _).set1 _, g0, g1, g2, g3, g4, g5, g6, g7, (fun _ h => absurd h (by simp)), (fun _ => rfl), (fun _ => rfl), (fun h => by first | exact g11 h | rfl | simp_all), (fun h => by first | exact g12 d9 | rfl | simp_all)⟩)
    · intro L a W hI hd
      rw [HInv.out] at hI
      obtain ⟨b0, b1, b2, b3, b4, b5, b6, b7, b8, b9, b10, b11, t8, t9, t10, t11, t12, t13, t14, t15, t16, t17, t18, hL, hact, hA, hP, hR, g0, g1, g2, g3, g4, g5, g6, g7, g8, g9, g10, g11, g12⟩ := hI
      subst hL hact
      have hall := List.filter_eq_nil_iff.1 hd
      clear hd
      have e0 : b0 = true := by have := hall 0 (by simp); simpa using this
      have e2 : b2 = true := by have := hall 2 (by simp); simpa using this
      have e5 : b5 = true := by have := hall 5 (by simp); simpa using this
      have e6 : b6 = true := by have := hall 6 (by simp); simpa using this
      have e7 : b7 = true := by have := hall 7 (by simp); simpa using this
      subst e0 e2 e5 e6 e7
      have e1 : b1 = true := by have := hall 1 (by simp); simpa [Region.binds] using this
      subst e1
      have e3 : b3 = true := by have := hall 3 (by simp); simpa [Region.binds] using this
      subst e3
      have e4 : b4 = true := by have := hall 4 (by simp); simpa [Region.binds] using this
      have e8 : b8 = true := by have := hall 8 (by simp); simpa [Region.binds] using this
      subst e4 e8
      have e9 : b9 = true := by have := hall 9 (by simp); simpa [Region.binds] using this
      subst e9
      have e10 : b10 = true := by have := hall 10 (by simp); simpa [Region.binds] using this
      subst e10
      have e11 : b11 = true := by have := hall 11 (by simp); simpa [Region.binds] using this
      subst e11
      clear hall
      exact absurd (g11 rfl) (by simp)
end Go.Proofs.YtgolhfmmlanmlaaGreatDoor

/- Walks: the reference's RunRecipe, whole. -/
namespace Go.Proofs.YtgolhfmmlanmlaaGreatDoor
open Go.RowKit Pth

theorem goodR_all {r : List OpT} {ins : Int} (h : goodR r ins = true) : r.all (opOk ins) = true := (goodR_iff.1 h).2.2.2

end Go.Proofs.YtgolhfmmlanmlaaGreatDoor

/- Walks: slices.ContainsFunc at texts that are too long. -/
namespace Go.Proofs.YtgolhfmmlanmlaaGreatDoor
open Go.RowKit Pth

/-- Whether one is too long. -/
def longL (l : List (List UInt8)) : Bool := l.any (fun x => decide (40 < x.length))
theorem long_at {l : List (List UInt8)} {k : Nat} (h : k < l.length) (hx : 40 < l[k].length) : longL l = true := by
  rw [longL, List.any_eq_true]
  exact ⟨l[k], List.getElem_mem h, by simpa using hx⟩
theorem long_none {l : List (List UInt8)} (h : ∀ x ∈ l, x.length ≤ 40) : longL l = false := by
  rw [longL, List.any_eq_false]
  intro x hm
  have := h x hm
  simp; omega
/-- A place, or -1 where there is none. -/
def PlacePostO (b : Bool) (w : World) (e : Ending) (w' : World) : Prop := ∃ i : Int, e = .returned (.int .i64 i) ∧ (0 ≤ i ↔ b = true) ∧ w' = w

set_option maxRecDepth 20000 in
set_option maxHeartbeats 1000000 in
theorem index_anyO (l : List (List UInt8)) (v : Value) (w : World) (hrow : RowV w v (S l)) (hx : ∀ x ∈ l, x.length ≤ maxLen) :
    Calls Tryz.prog 155 #[v, .func (.func 82) #[] #[]] w (PlacePostO (longL l) w) := by
  obtain ⟨a, cap, rfl, hc1, hc2, hat⟩ := hrow.texts
  clear hrow
  have HL : Hid (∀ x ∈ l, ∀ W, Calls Tryz.prog 82 #[.string ⟨x.toArray⟩] W fun e w' => e = .returned (.bool (decide (40 < x.length))) ∧ w' = W) := fun x hm W => long_any x W (hx x hm)
  clear hx
  unfold maxLen at hc2
  go_enter Tryz.func155, Tryz.ntmps155
  go_wp2_with fail
  go_loop [8] (fun i => ∃ k : Nat, k ≤ l.length ∧ i = .int .i64 k ∧ Hid (∀ x ∈ l.take k, x.length ≤ 40)) (fun i => l.length - (intOf i).toNat)
  case atStart => exact ⟨0, Nat.zero_le _, by go_num, by simp [Hid]⟩
  case round =>
    obtain ⟨k, hk, rfl, HO⟩ := hrel
    by_cases hlt : k < l.length
    · obtain ⟨g, o, rfl, hg, hcell⟩ := hat k hlt
      have HC := Lib.hid (HL.out l[k] (List.getElem_mem hlt) w)
      have hltz : (k : Int) < (l.length : Int) := by omega
      by_cases hy : (l[k]).length ≤ 40
      · have HS := Lib.hid (take_next hlt HO.out hy)
        rw [show decide (40 < (l[k]).length) = false from decide_eq_false (by omega)] at HC
        generalize l[k] = x at hcell hy HC
        clear hat HO HL
        go_wp2_with (go_at_call 82; refine HC.out.mono ?_; rintro e w1 ⟨rfl, rfl⟩)
        go_round
        case rel => exact ⟨k + 1, by omega, by go_num, HS⟩
        case measure => simp [intOf]; omega
      · have HS := Lib.hid (long_at hlt (by omega))
        rw [show decide (40 < (l[k]).length) = true from decide_eq_true (by omega)] at HC
        generalize l[k] = x at hcell hy HC
        clear hat HO HL
        go_wp2_with (go_at_call 82; refine HC.out.mono ?_; rintro e w1 ⟨rfl, rfl⟩)
        go_ret
        exact ⟨(k : Int), rfl, by rw [HS.out]; simp, rfl⟩
    · have HS := Lib.hid (long_none (l := l) (fun x hm => HO.out x (by rw [List.take_of_length_le (by omega)]; exact hm)))
      have hltz : ¬ ((k : Int) < (l.length : Int)) := by omega
      clear hat HO HL
      go_wp2_with fail
      go_ret
      exact ⟨-1, rfl, by rw [HS.out]; simp, rfl⟩

set_option maxRecDepth 20000 in
set_option maxHeartbeats 1000000 in
theorem contains_anyO (l : List (List UInt8)) (v : Value) (w : World) (hrow : RowV w v (S l)) (hx : ∀ x ∈ l, x.length ≤ maxLen) :
    Calls Tryz.prog 138 #[v, .func (.func 82) #[] #[]] w fun e w' => e = .returned (.bool (longL l)) ∧ w' = w := by
  have HC := Lib.hid (index_anyO l v w hrow hx)
  clear hrow hx
  go_enter Tryz.func138, Tryz.ntmps138
  go_wp2_with fail
  refine HC.out.mono ?_
  rintro e w1 ⟨i, rfl, hi, rfl⟩
  have HI := Lib.hid hi
  clear hi HC
  go_wp2_with fail
  go_ret
  refine ⟨?_, rfl⟩
  show Ending.returned (.bool (decide (0 ≤ i))) = _
  congr 2
  rw [Bool.eq_iff_iff, decide_eq_true_eq]
  exact HI.out

end Go.Proofs.YtgolhfmmlanmlaaGreatDoor

/- Walks: the program's deeds on texts. -/
namespace Go.Proofs.YtgolhfmmlanmlaaGreatDoor
open Go.RowKit Pth

theorem runOk_is (r : List OpT) (ins : List (List UInt8)) : runOk r ins = (goodR r ins.length && !longL ins) := by
  rcases hg : goodR r (ins.length : Int) with _ | _
  · simp [runOk, hg]
  · have h10 : ins.length ≤ 10 := by have := (goodR_iff.1 hg).2.1; omega
    rcases hl : longL ins with _ | _
    · rw [longL, List.any_eq_false] at hl
      have : textsL ins = true := by
        simp only [textsL, Bool.and_eq_true, List.all_eq_true, decide_eq_true_eq]
        exact ⟨fun x hx => by have := hl x hx; simp at this; omega, h10⟩
      simp [runOk, hg, this]
    · rw [longL, List.any_eq_true] at hl
      obtain ⟨x, hx, hx2⟩ := hl
      have : textsL ins = false := by
        simp only [textsL, Bool.and_eq_false_iff]
        exact .inl (List.all_eq_false.2 ⟨x, hx, by simp at hx2 ⊢; omega⟩)
      simp [runOk, this]

set_option maxRecDepth 20000 in
set_option maxHeartbeats 1000000 in
theorem deedsOn_any (r : List OpT) (ins : List (List UInt8)) (v u : Value) (w : World) (hrow : RowO w v r) (hins : RowV w u (S ins)) (hx : ∀ x ∈ ins, x.length ≤ maxLen) :
    Calls Tryz.prog 156 #[v, u] w (DeedsPost r (runOk r ins) w) := by
  rw [runOk_is]
  have HD := Lib.hid (deedsOf_any r (ins.length : Int) v w hrow)
  have HL := Lib.hid (fun (W : World) (hb : Below w.heap.size w W) => contains_anyO ins u W (hins.below hb) hx)
  obtain ⟨a, cap, rfl, hc1, hc2, hat⟩ := hins.texts
  clear hins hat hx hrow
  unfold maxLen at hc2
  rcases hg : goodR r (ins.length : Int) with _ | _
  · rw [hg] at HD
    clear hg
    go_enter Tryz.func156, Tryz.ntmps156
    go_wp2_with fail
    refine HD.out.mono ?_
    rintro e w1 ⟨d, rfl, _, hb⟩
    go_wp2_with fail
    go_ret2
    exact deeds_bad rfl hb
  · rw [hg] at HD
    clear hg
    rcases hl : longL ins with _ | _
    · rw [hl] at HL
      clear hl
      go_enter Tryz.func156, Tryz.ntmps156
      go_wp2_with fail
      refine HD.out.mono ?_
      rintro e w1 ⟨d, rfl, hn, hb⟩
      have HC := Lib.hid (HL.out w1 hb)
      have HN := Lib.hid hn
      have HB := Lib.hid hb
      clear hn hb HL
      go_wp2_with fail
      refine HC.out.mono ?_
      rintro e w2 ⟨rfl, rfl⟩
      go_wp2_with fail
      go_ret2
      exact deeds_good rfl HN.out HB.out
    · rw [hl] at HL
      clear hl
      go_enter Tryz.func156, Tryz.ntmps156
      go_wp2_with fail
      refine HD.out.mono ?_
      rintro e w1 ⟨d, rfl, hn, hb⟩
      have HC := Lib.hid (HL.out w1 hb)
      have HB := Lib.hid hb
      clear hn hb HL
      go_wp2_with fail
      refine HC.out.mono ?_
      rintro e w2 ⟨rfl, rfl⟩
      go_wp2_with fail
      go_ret2
      exact deeds_bad rfl HB.out

end Go.Proofs.YtgolhfmmlanmlaaGreatDoor
