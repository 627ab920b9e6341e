/- Texts of one claim, joined in their order. -/
import Derived.Test.YtngldlconipnnaaGreatDoorM13
import Derived.Test.YtngldlconipnnaaGreatDoorM2
import Derived.Test.YtngldlconipnnaaGreatDoorM4
import Derived.Test.YtngldlconipnnaaGreatDoorM5
import Derived.Test.YtngldlconipnnaaGreatDoorM12

/- Walks: one step of the reference, a kind each. -/
namespace Go.Proofs.YtngldlconipnnaaGreatDoor
open Go.RowKit Pth

/-- A text and whether it did not fail; only new memory. -/
def StepPost (t : Option (List UInt8)) (w : World) (e : Ending) (w' : World) : Prop := e = .returned (.tuple #[.string ⟨(txtO t).toArray⟩, .bool t.isSome]) ∧ Below w.heap.size w w'
theorem data_app (a b : List UInt8) : (⟨a.toArray⟩ : ByteArray) ++ ⟨b.toArray⟩ = ⟨(a ++ b).toArray⟩ := by
  apply ByteArray.ext; simp
theorem below_new {w w' : World} {o : Obj} (h : Below (w.alloc o).heap.size (w.alloc o) w') : Below w.heap.size w w' :=
  ⟨h.os, h.tape, h.output, Nat.le_trans (by simp) h.size, fun k hk => (h.block k (by simp; omega)).trans (Below.heap_alloc w _ k hk)⟩

set_option maxRecDepth 20000 in
set_option maxHeartbeats 2000000 in
theorem stepS_upper (ins : List (List UInt8)) (n : Int) (t : List UInt8) (v : Value) (acc : List UInt8) (w : World) (ha : acc.length ≤ 40) :
    Calls Tryz.prog 161 #[opV (3, n, t), v, .string ⟨acc.toArray⟩] w (StepPost (Pth.stepT (3, n, t) ins acc) w) := by
  have hl : (upT acc).length ≤ 40 := by rw [upT_len]; exact ha
  have HT := Lib.hid (show Pth.stepT (3, n, t) ins acc = some (upT acc) by simp [Pth.stepT, rawT, capT]; omega)
  have HC := Lib.hid (fun W => upperS_any acc W (by omega))
  obtain ⟨x, hx⟩ : ∃ x, x = upT acc := ⟨_, rfl⟩
  rw [← hx] at hl HT HC
  clear hx
  have hlz : ¬ ((40 : Int) < (x.length : Int)) := by omega
  unfold opV
  go_enter Tryz.func161, Tryz.ntmps161
  go_wp2_with fail
  refine (HC.out _).mono ?_
  rintro e w1 ⟨rfl, hb⟩
  have HB := Lib.hid (below_new hb)
  clear hb
  go_wp2_with fail
  go_ret2
  exact ⟨by rw [HT.out]; rfl, HB.out⟩

set_option maxRecDepth 20000 in
set_option maxHeartbeats 2000000 in
theorem stepS_sort (ins : List (List UInt8)) (n : Int) (t : List UInt8) (v : Value) (acc : List UInt8) (w : World) (ha : acc.length ≤ 40) :
    Calls Tryz.prog 161 #[opV (4, n, t), v, .string ⟨acc.toArray⟩] w (StepPost (Pth.stepT (4, n, t) ins acc) w) := by
  have hl : (sortT acc).length ≤ 40 := by rw [sortT_len]; exact ha
  have HT := Lib.hid (show Pth.stepT (4, n, t) ins acc = some (sortT acc) by simp [Pth.stepT, rawT, capT]; omega)
  have HC := Lib.hid (fun W => sortS_any acc W (by omega))
  obtain ⟨x, hx⟩ : ∃ x, x = sortT acc := ⟨_, rfl⟩
  rw [← hx] at hl HT HC
  clear hx
  have hlz : ¬ ((40 : Int) < (x.length : Int)) := by omega
  unfold opV
  go_enter Tryz.func161, Tryz.ntmps161
  go_wp2_with fail
  refine (HC.out _).mono ?_
  rintro e w1 ⟨rfl, hb⟩
  have HB := Lib.hid (below_new hb)
  clear hb
  go_wp2_with fail
  go_ret2
  exact ⟨by rw [HT.out]; rfl, HB.out⟩

set_option maxRecDepth 20000 in
set_option maxHeartbeats 2000000 in
theorem stepS_count (ins : List (List UInt8)) (n : Int) (t : List UInt8) (v : Value) (acc : List UInt8) (w : World) (ha : acc.length ≤ 40) :
    Calls Tryz.prog 161 #[opV (6, n, t), v, .string ⟨acc.toArray⟩] w (StepPost (Pth.stepT (6, n, t) ins acc) w) := by
  have hl : (numT acc.length).length ≤ 40 := Nat.le_trans (numT_len _) (by omega)
  have HT := Lib.hid (show Pth.stepT (6, n, t) ins acc = some (numT acc.length) by simp [Pth.stepT, rawT, capT]; omega)
  have HC := Lib.hid (fun W => num_any acc.length W (by omega))
  obtain ⟨x, hx⟩ : ∃ x, x = numT acc.length := ⟨_, rfl⟩
  rw [← hx] at hl HT HC
  clear hx
  have hlz : ¬ ((40 : Int) < (x.length : Int)) := by omega
  unfold opV
  go_enter Tryz.func161, Tryz.ntmps161
  go_wp2_with fail
  refine (HC.out _).mono ?_
  rintro e w1 ⟨rfl, hb⟩
  have HB := Lib.hid (below_new hb)
  clear hb
  go_wp2_with fail
  go_ret2
  exact ⟨by rw [HT.out]; rfl, HB.out⟩

set_option maxRecDepth 20000 in
set_option maxHeartbeats 2000000 in
theorem stepS_fail (ins : List (List UInt8)) (n : Int) (t : List UInt8) (v : Value) (acc : List UInt8) (w : World) :
    Calls Tryz.prog 161 #[opV (7, n, t), v, .string ⟨acc.toArray⟩] w (StepPost (Pth.stepT (7, n, t) ins acc) w) := by
  have HT := Lib.hid (show Pth.stepT (7, n, t) ins acc = none by simp [Pth.stepT, rawT])
  have HB := Lib.hid ((Below.refl w.heap.size w).alloc (Nat.le_refl _) (.cells #[.int .i64 7, .int .i64 n, .string ⟨t.toArray⟩] 189))
  unfold opV
  go_enter Tryz.func161, Tryz.ntmps161
  go_wp2_with fail
  go_ret2
  exact ⟨by rw [HT.out]; rfl, HB.out⟩

set_option maxRecDepth 20000 in
set_option maxHeartbeats 2000000 in
theorem stepS_text (ins : List (List UInt8)) (n : Int) (t : List UInt8) (v : Value) (acc : List UInt8) (w : World) (ha : acc.length ≤ 40) (ht : t.length ≤ 10) :
    Calls Tryz.prog 161 #[opV (2, n, t), v, .string ⟨acc.toArray⟩] w (StepPost (Pth.stepT (2, n, t) ins acc) w) := by
  have HB := Lib.hid ((Below.refl w.heap.size w).alloc (Nat.le_refl _) (.cells #[.int .i64 2, .int .i64 n, .string ⟨t.toArray⟩] 189))
  unfold opV
  by_cases hl : (acc ++ t).length ≤ 40
  · have HT := Lib.hid (show Pth.stepT (2, n, t) ins acc = some (acc ++ t) by have h := hl; simp [Pth.stepT, rawT, capT] at h ⊢; exact h)
    have hlz : ¬ ((40 : Int) < (acc.length : Int) + (t.length : Int)) := by simp at hl; omega
    go_enter Tryz.func161, Tryz.ntmps161
    go_wp2_with fail
    go_ret2
    exact ⟨by rw [HT.out]; show _ = Ending.returned (.tuple #[.string ⟨(acc ++ t).toArray⟩, .bool true]); rw [← data_app]; rfl, HB.out⟩
  · have HT := Lib.hid (show Pth.stepT (2, n, t) ins acc = none by have h := hl; simp [Pth.stepT, rawT, capT] at h ⊢; exact h)
    have hlz : ((40 : Int) < (acc.length : Int) + (t.length : Int)) := by simp at hl; omega
    go_enter Tryz.func161, Tryz.ntmps161
    go_wp2_with fail
    go_ret2
    exact ⟨by rw [HT.out]; simp [txtO], HB.out⟩

set_option maxRecDepth 20000 in
set_option maxHeartbeats 2000000 in
theorem stepS_cat (ins : List (List UInt8)) (n : Nat) (t : List UInt8) (v : Value) (acc : List UInt8) (w : World) (hrow : RowV w v (S ins)) (ha : acc.length ≤ 40) (hn : n < ins.length) (hx : ∀ x ∈ ins, x.length ≤ 40) (_hi : ins.length ≤ 10) :
    Calls Tryz.prog 161 #[opV (1, n, t), v, .string ⟨acc.toArray⟩] w (StepPost (Pth.stepT (1, n, t) ins acc) w) := by
  obtain ⟨a, cap, rfl, hc1, hc2, hat⟩ := hrow.texts
  clear hrow
  obtain ⟨g, o, rfl, hg, hcell⟩ := hat n hn
  have hxl := hx ins[n] (List.getElem_mem hn)
  have HB := Lib.hid ((Below.refl w.heap.size w).alloc (Nat.le_refl _) (.cells #[.int .i64 1, .int .i64 (n : Int), .string ⟨t.toArray⟩] 189))
  have hcell2 : (w.alloc (.cells #[.int .i64 1, .int .i64 (n : Int), .string ⟨t.toArray⟩] 189)).cell? ⟨g, o + n, none⟩ = some (.string ⟨ins[n].toArray⟩) := by rw [World.cell?_alloc_lt _ _ _ hg]; exact hcell
  have HQ : Hid (∀ y, y = ins[n] → Pth.stepT (1, n, t) ins acc = capT (acc ++ y)) := fun y e => by
    rw [e]
    show capT (acc ++ (ins[(n : Int).toNat]?).getD []) = _
    simp [hn]
  obtain ⟨y, hy⟩ : ∃ y, y = ins[n] := ⟨_, rfl⟩
  have HT := Lib.hid (HQ.out y hy)
  rw [← hy] at hcell hxl hcell2
  have hnz : (n : Int) < (ins.length : Int) := by omega
  clear hat hx HQ hy hc1 hc2
  unfold opV
  by_cases hl : (acc ++ y).length ≤ 40
  · have HV := Lib.hid (HT.out.trans (if_pos hl))
    have hlz : ¬ ((40 : Int) < (acc.length : Int) + (y.length : Int)) := by simp at hl; omega
    go_enter Tryz.func161, Tryz.ntmps161
    go_wp2_with fail
    go_ret2
    exact ⟨by rw [HV.out]; show _ = Ending.returned (.tuple #[.string ⟨(acc ++ y).toArray⟩, .bool true]); rw [← data_app]; rfl, HB.out⟩
  · have HV := Lib.hid (HT.out.trans (if_neg hl))
    have hlz : ((40 : Int) < (acc.length : Int) + (y.length : Int)) := by simp at hl; omega
    go_enter Tryz.func161, Tryz.ntmps161
    go_wp2_with fail
    go_ret2
    exact ⟨by rw [HV.out]; rfl, HB.out⟩

end Go.Proofs.YtngldlconipnnaaGreatDoor

/- Walks: one step of the reference. -/
namespace Go.Proofs.YtngldlconipnnaaGreatDoor
open Go.RowKit Pth

theorem drop_min (acc : List UInt8) (n : Nat) : (⟨acc.toArray⟩ : ByteArray).extract (min acc.length n) acc.length = ⟨(acc.drop n).toArray⟩ := by
  apply ByteArray.ext
  simp only [ByteArray.data_extract]
  apply Array.ext'
  simp only [Array.toList_extract, List.extract_eq_take_drop]
  by_cases h : n ≤ acc.length
  · rw [Nat.min_eq_right h, List.take_of_length_le (by simp)]
  · rw [Nat.min_eq_left (by omega), show acc.drop n = [] from List.drop_eq_nil_of_le (by omega)]
    simp

set_option maxRecDepth 20000 in
set_option maxHeartbeats 2000000 in
theorem stepS_drop (ins : List (List UInt8)) (n : Nat) (t : List UInt8) (v : Value) (acc : List UInt8) (w : World) (ha : acc.length ≤ 40) (hn : n ≤ 40) :
    Calls Tryz.prog 161 #[opV (5, n, t), v, .string ⟨acc.toArray⟩] w (StepPost (Pth.stepT (5, n, t) ins acc) w) := by
  have HB := Lib.hid ((Below.refl w.heap.size w).alloc (Nat.le_refl _) (.cells #[.int .i64 5, .int .i64 (n : Int), .string ⟨t.toArray⟩] 189))
  have HC := Lib.hid (fun W => least_any acc.length n W (by omega) (by omega))
  have hd : (acc.drop n).length ≤ 40 := by simp; omega
  have HT := Lib.hid (show Pth.stepT (5, n, t) ins acc = some (acc.drop n) by
    show capT (acc.drop (n : Int).toNat) = _
    simp only [Int.toNat_natCast]
    exact if_pos hd)
  have HD := Lib.hid (drop_min acc n)
  obtain ⟨m, hm⟩ : ∃ m, m = min acc.length n := ⟨_, rfl⟩
  rw [← hm] at HC HD
  have hm1 : m ≤ acc.length := by omega
  have hm2 : ((acc.length : Int) - (m : Int)) ≤ 40 := by omega
  clear hm
  unfold opV
  go_enter Tryz.func161, Tryz.ntmps161
  go_wp2_with fail
  refine (HC.out _).mono ?_
  rintro e w1 ⟨rfl, rfl⟩
  go_wp2_with fail
  go_ret2
  exact ⟨by rw [HT.out]; show _ = Ending.returned (.tuple #[.string ⟨(acc.drop n).toArray⟩, .bool true]); rw [← HD.out]; rfl, HB.out⟩

theorem stepS_any (o : OpT) (ins : List (List UInt8)) (v : Value) (acc : List UInt8) (w : World) (hrow : RowV w v (S ins)) (hok : opOk ins.length o = true) (ht : textsL ins = true) (ha : acc.length ≤ 40) :
    Calls Tryz.prog 161 #[opV o, v, .string ⟨acc.toArray⟩] w (StepPost (Pth.stepT o ins acc) w) := by
  obtain ⟨k, n, t⟩ := o
  simp only [textsL, Bool.and_eq_true, List.all_eq_true, decide_eq_true_eq] at ht
  simp only [opOk] at hok
  split at hok
  · rename_i h; subst h
    simp only [Bool.and_eq_true, decide_eq_true_eq] at hok
    obtain ⟨m, rfl⟩ : ∃ m : Nat, n = m := ⟨n.toNat, by omega⟩
    exact stepS_cat ins m t v acc w hrow ha (by omega) ht.1 ht.2
  split at hok
  · rename_i h; subst h
    simp only [Bool.and_eq_true, decide_eq_true_eq] at hok
    exact stepS_text ins n t v acc w ha hok.2
  split at hok
  · rename_i h; subst h
    simp only [Bool.and_eq_true, decide_eq_true_eq] at hok
    obtain ⟨m, rfl⟩ : ∃ m : Nat, n = m := ⟨n.toNat, by omega⟩
    exact stepS_drop ins m t v acc w ha (by omega)
  split at hok
  · rename_i h
    rcases h with h | h | h | h <;> subst h
    · exact stepS_upper ins n t v acc w ha
    · exact stepS_sort ins n t v acc w ha
    · exact stepS_count ins n t v acc w ha
    · exact stepS_fail ins n t v acc w
  · cases hok

end Go.Proofs.YtngldlconipnnaaGreatDoor

/- Walks: the reference's StepRecipe. -/
namespace Go.Proofs.YtngldlconipnnaaGreatDoor
open Go.RowKit Pth

/-- A text, whether it did not fail, whether it was told; only new memory. -/
def TellPost (ok : Bool) (t : Option (List UInt8)) (w : World) (e : Ending) (w' : World) : Prop := e = .returned (.tuple #[.string ⟨(txtO t).toArray⟩, .bool t.isSome, .bool ok]) ∧ Below w.heap.size w w'
theorem below_step {w w1 w2 : World} (h : Below w.heap.size w w1) (k : Below w1.heap.size w1 w2) : Below w.heap.size w w2 :=
  ⟨k.os.trans h.os, k.tape.trans h.tape, k.output.trans h.output, Nat.le_trans h.size k.size, fun i hi => (k.block i (Nat.lt_of_lt_of_le hi h.size)).trans (h.block i hi)⟩

theorem op_cells {w w1 : World} {k n : Int} {t : List UInt8} (hb : Below (w.alloc (.cells #[.int .i64 k, .int .i64 n, .string ⟨t.toArray⟩] 189)).heap.size (w.alloc (.cells #[.int .i64 k, .int .i64 n, .string ⟨t.toArray⟩] 189)) w1) :
    w1.cell? ⟨w.heap.size, 0, none⟩ = some (.int .i64 k) ∧ w1.cell? ⟨w.heap.size, 1, none⟩ = some (.int .i64 n) ∧ w1.cell? ⟨w.heap.size, 2, none⟩ = some (.string ⟨t.toArray⟩) := by
  have hh : (w.alloc (.cells #[.int .i64 k, .int .i64 n, .string ⟨t.toArray⟩] 189)).heap[w.heap.size]? = some (.cells #[.int .i64 k, .int .i64 n, .string ⟨t.toArray⟩] 189 (0, 0)) := Array.getElem?_push_size
  refine ⟨?_, ?_, ?_⟩ <;> (rw [hb.cell (by simp), Lib.cell_of_heap hh]; rfl)

end Go.Proofs.YtngldlconipnnaaGreatDoor

/- Walks: the reference's RunRecipe. -/
namespace Go.Proofs.YtngldlconipnnaaGreatDoor
open Go.RowKit Pth

theorem run_none {ins : List (List UInt8)} {r : List OpT} {k : Nat} {acc : List UInt8} {R : Option (List UInt8)} (h : R = Pth.runT ins (r.drop k) acc) (hk : k < r.length) (hs : Pth.stepT r[k] ins acc = none) : R = none := by
  rw [h, run_step hk, hs]; rfl
theorem run_some {ins : List (List UInt8)} {r : List OpT} {k : Nat} {acc y : List UInt8} {R : Option (List UInt8)} (h : R = Pth.runT ins (r.drop k) acc) (hk : k < r.length) (hs : Pth.stepT r[k] ins acc = some y) : R = Pth.runT ins (r.drop (k + 1)) y := by
  rw [h, run_step hk, hs]; rfl

/-- What is left to run behind a step. -/
def RunAt (R : Option (List UInt8)) (ins : List (List UInt8)) (r : List OpT) : Option (List UInt8) → Prop
  | none => R = none
  | some z => R = Pth.runT ins r z ∧ z.length ≤ 40

set_option maxRecDepth 20000 in
set_option maxHeartbeats 2000000 in
theorem runS_any (r : List OpT) (ins : List (List UInt8)) (v u : Value) (w : World) (hrow : RowO w v r) (hins : RowV w u (S ins)) (hok : r.all (opOk ins.length) = true) (ht : textsL ins = true) :
    Calls Tryz.prog 117 #[v, u] w (StepPost (Pth.runT ins r []) w) := by
  obtain ⟨a, cap, rfl, hc1, hc2, hat⟩ := hrow.ops
  have HI := Lib.hid hins
  have HK : Hid (∀ k (hk : k < r.length), opOk ins.length r[k] = true) := fun k hk => List.all_eq_true.1 hok _ (List.getElem_mem hk)
  have HX := Lib.hid ht
  clear hrow hins hok ht
  unfold maxLen at hc2
  obtain ⟨R, hR⟩ : ∃ R, R = Pth.runT ins r [] := ⟨_, rfl⟩
  rw [← hR]
  go_enter Tryz.func117, Tryz.ntmps117
  go_wp2_with fail
  go_loopw [6, 13] (fun s i wr => ∃ (k : Nat) (acc : List UInt8), k ≤ r.length ∧ acc.length ≤ 40 ∧ s = .string ⟨acc.toArray⟩ ∧ i = .int .i64 k ∧ Hid (Below w.heap.size w wr) ∧ Hid (R = Pth.runT ins (r.drop k) acc)) (fun _ i _ => r.length - (intOf i).toNat)
  case atStart => exact ⟨0, [], Nat.zero_le _, by simp, rfl, by go_num, Below.refl _ _, hR⟩
  case round =>
    clear hR
    obtain ⟨k, acc, hk, hacc, rfl, rfl, HB, HO⟩ := hrel
    have hbs := HB.out.size
    by_cases hlt : k < r.length
    · obtain ⟨g, o, rfl, hg, hcell1, hcell2, hcell3⟩ := hat k hlt
      have s1 := (HB.out.cell (p := ⟨g, o + k * 3, none⟩) hg).trans hcell1
      have s2 := (HB.out.cell (p := ⟨g, o + k * 3 + 1, none⟩) hg).trans hcell2
      have s3 := (HB.out.cell (p := ⟨g, o + k * 3 + 2, none⟩) hg).trans hcell3
      have HBA := Lib.hid (HB.out.alloc hbs (.cells #[.int .i64 r[k].1, .int .i64 r[k].2.1, .string ⟨r[k].2.2.toArray⟩] 189))
      have HC := Lib.hid (stepS_any r[k] ins u acc (wr.alloc (.cells #[.int .i64 r[k].1, .int .i64 r[k].2.1, .string ⟨r[k].2.2.toArray⟩] 189)) (HI.out.below HBA.out) (HK.out k hlt) HX.out hacc)
      obtain ⟨y, hy⟩ : ∃ y, Pth.stepT r[k] ins acc = y := ⟨_, rfl⟩
      have HS : Hid (RunAt R ins (r.drop (k + 1)) y) := by
        unfold Hid
        rcases y with _ | z
        · exact run_none HO.out hlt hy
        · exact ⟨run_some HO.out hlt hy, stepT_len hy⟩
      rw [hy] at HC
      clear hcell1 hcell2 hcell3 hat HO hy
      generalize r[k] = x at s1 s2 s3 HC HBA
      obtain ⟨x1, x2, x3⟩ := x
      unfold opV at HC
      simp only at s1 s2 s3 HC HBA
      rcases y with _ | z
      · have HV := Lib.hid (show R = none from HS.out)
        go_wp2_with fail
        refine HC.out.mono ?_
        rintro e w1 ⟨rfl, hb1⟩
        have HB1 := Lib.hid (HBA.out.trans (hb1.mono HBA.out.size))
        clear hb1 HC
        go_wp2_with fail
        go_ret2
        exact ⟨by rw [HV.out]; rfl, HB1.out⟩
      · have HV := Lib.hid (show R = Pth.runT ins (r.drop (k + 1)) z ∧ z.length ≤ 40 from HS.out)
        go_wp2_with fail
        refine HC.out.mono ?_
        rintro e w1 ⟨rfl, hb1⟩
        have HB1 := Lib.hid (HBA.out.trans (hb1.mono HBA.out.size))
        clear hb1 HC
        go_wp2_with fail
        go_roundw
        case rel => exact ⟨k + 1, z, by omega, HV.out.2, rfl, by go_num, HB1, HV.out.1⟩
        case measure => simp [intOf]; omega
    · have HV := Lib.hid (show R = some acc by rw [HO.out, List.drop_eq_nil_of_le (by omega)]; rfl)
      have hltz : ¬ ((k : Int) < (r.length : Int)) := by omega
      clear HO hat
      go_wp2_with fail
      go_ret2
      exact ⟨by rw [HV.out]; rfl, HB.out⟩

end Go.Proofs.YtngldlconipnnaaGreatDoor

/- Walks: the reference's RunRecipe, whole. -/
namespace Go.Proofs.YtngldlconipnnaaGreatDoor
open Go.RowKit Pth

theorem goodR_all {r : List OpT} {ins : Int} (h : goodR r ins = true) : r.all (opOk ins) = true := (goodR_iff.1 h).2.2.2

end Go.Proofs.YtngldlconipnnaaGreatDoor

/- Walks: slices.ContainsFunc at texts that are too long. -/
namespace Go.Proofs.YtngldlconipnnaaGreatDoor
open Go.RowKit Pth

/-- Whether one is too long. -/
def longL (l : List (List UInt8)) : Bool := l.any (fun x => decide (40 < x.length))
theorem long_at {l : List (List UInt8)} {k : Nat} (h : k < l.length) (hx : 40 < l[k].length) : longL l = true := by
  rw [longL, List.any_eq_true]
  exact ⟨l[k], List.getElem_mem h, by simpa using hx⟩
theorem long_none {l : List (List UInt8)} (h : ∀ x ∈ l, x.length ≤ 40) : longL l = false := by
  rw [longL, List.any_eq_false]
  intro x hm
  have := h x hm
  simp; omega
/-- A place, or -1 where there is none. -/
def PlacePostO (b : Bool) (w : World) (e : Ending) (w' : World) : Prop := ∃ i : Int, e = .returned (.int .i64 i) ∧ (0 ≤ i ↔ b = true) ∧ w' = w

set_option maxRecDepth 20000 in
set_option maxHeartbeats 1000000 in
theorem index_anyO (l : List (List UInt8)) (v : Value) (w : World) (hrow : RowV w v (S l)) (hx : ∀ x ∈ l, x.length ≤ maxLen) :
    Calls Tryz.prog 196 #[v, .func (.func 109) #[] #[]] w (PlacePostO (longL l) w) := by
  obtain ⟨a, cap, rfl, hc1, hc2, hat⟩ := hrow.texts
  clear hrow
  have HL : Hid (∀ x ∈ l, ∀ W, Calls Tryz.prog 109 #[.string ⟨x.toArray⟩] W fun e w' => e = .returned (.bool (decide (40 < x.length))) ∧ w' = W) := fun x hm W => long_any x W (hx x hm)
  clear hx
  unfold maxLen at hc2
  go_enter Tryz.func196, Tryz.ntmps196
  go_wp2_with fail
  go_loop [8] (fun i => ∃ k : Nat, k ≤ l.length ∧ i = .int .i64 k ∧ Hid (∀ x ∈ l.take k, x.length ≤ 40)) (fun i => l.length - (intOf i).toNat)
  case atStart => exact ⟨0, Nat.zero_le _, by go_num, by simp [Hid]⟩
  case round =>
    obtain ⟨k, hk, rfl, HO⟩ := hrel
    by_cases hlt : k < l.length
    · obtain ⟨g, o, rfl, hg, hcell⟩ := hat k hlt
      have HC := Lib.hid (HL.out l[k] (List.getElem_mem hlt) w)
      have hltz : (k : Int) < (l.length : Int) := by omega
      by_cases hy : (l[k]).length ≤ 40
      · have HS := Lib.hid (take_next hlt HO.out hy)
        rw [show decide (40 < (l[k]).length) = false from decide_eq_false (by omega)] at HC
        generalize l[k] = x at hcell hy HC
        clear hat HO HL
        go_wp2_with (go_at_call 109; refine HC.out.mono ?_; rintro e w1 ⟨rfl, rfl⟩)
        go_round
        case rel => exact ⟨k + 1, by omega, by go_num, HS⟩
        case measure => simp [intOf]; omega
      · have HS := Lib.hid (long_at hlt (by omega))
        rw [show decide (40 < (l[k]).length) = true from decide_eq_true (by omega)] at HC
        generalize l[k] = x at hcell hy HC
        clear hat HO HL
        go_wp2_with (go_at_call 109; refine HC.out.mono ?_; rintro e w1 ⟨rfl, rfl⟩)
        go_ret
        exact ⟨(k : Int), rfl, by rw [HS.out]; simp, rfl⟩
    · have HS := Lib.hid (long_none (l := l) (fun x hm => HO.out x (by rw [List.take_of_length_le (by omega)]; exact hm)))
      have hltz : ¬ ((k : Int) < (l.length : Int)) := by omega
      clear hat HO HL
      go_wp2_with fail
      go_ret
      exact ⟨-1, rfl, by rw [HS.out]; simp, rfl⟩

set_option maxRecDepth 20000 in
set_option maxHeartbeats 1000000 in
theorem contains_anyO (l : List (List UInt8)) (v : Value) (w : World) (hrow : RowV w v (S l)) (hx : ∀ x ∈ l, x.length ≤ maxLen) :
    Calls Tryz.prog 168 #[v, .func (.func 109) #[] #[]] w fun e w' => e = .returned (.bool (longL l)) ∧ w' = w := by
  have HC := Lib.hid (index_anyO l v w hrow hx)
  clear hrow hx
  go_enter Tryz.func168, Tryz.ntmps168
  go_wp2_with fail
  refine HC.out.mono ?_
  rintro e w1 ⟨i, rfl, hi, rfl⟩
  have HI := Lib.hid hi
  clear hi HC
  go_wp2_with fail
  go_ret
  refine ⟨?_, rfl⟩
  show Ending.returned (.bool (decide (0 ≤ i))) = _
  congr 2
  rw [Bool.eq_iff_iff, decide_eq_true_eq]
  exact HI.out

end Go.Proofs.YtngldlconipnnaaGreatDoor

/- Walks: the program's deeds on texts. -/
namespace Go.Proofs.YtngldlconipnnaaGreatDoor
open Go.RowKit Pth

theorem runOk_is (r : List OpT) (ins : List (List UInt8)) : runOk r ins = (goodR r ins.length && !longL ins) := by
  rcases hg : goodR r (ins.length : Int) with _ | _
  · simp [runOk, hg]
  · have h10 : ins.length ≤ 10 := by have := (goodR_iff.1 hg).2.1; omega
    rcases hl : longL ins with _ | _
    · rw [longL, List.any_eq_false] at hl
      have : textsL ins = true := by
        simp only [textsL, Bool.and_eq_true, List.all_eq_true, decide_eq_true_eq]
        exact ⟨fun x hx => by have := hl x hx; simp at this; omega, h10⟩
      simp [runOk, hg, this]
    · rw [longL, List.any_eq_true] at hl
      obtain ⟨x, hx, hx2⟩ := hl
      have : textsL ins = false := by
        simp only [textsL, Bool.and_eq_false_iff]
        exact .inl (List.all_eq_false.2 ⟨x, hx, by simp at hx2 ⊢; omega⟩)
      simp [runOk, this]

set_option maxRecDepth 20000 in
set_option maxHeartbeats 1000000 in
theorem deedsOn_any (r : List OpT) (ins : List (List UInt8)) (v u : Value) (w : World) (hrow : RowO w v r) (hins : RowV w u (S ins)) (hx : ∀ x ∈ ins, x.length ≤ maxLen) :
    Calls Tryz.prog 162 #[v, u] w (DeedsPost r (runOk r ins) w) := by
  rw [runOk_is]
  have HD := Lib.hid (deedsOf_any r (ins.length : Int) v w hrow)
  have HL := Lib.hid (fun (W : World) (hb : Below w.heap.size w W) => contains_anyO ins u W (hins.below hb) hx)
  obtain ⟨a, cap, rfl, hc1, hc2, hat⟩ := hins.texts
  clear hins hat hx hrow
  unfold maxLen at hc2
  rcases hg : goodR r (ins.length : Int) with _ | _
  · rw [hg] at HD
    clear hg
    go_enter Tryz.func162, Tryz.ntmps162
    go_wp2_with fail
    refine HD.out.mono ?_
    rintro e w1 ⟨d, rfl, _, hb⟩
    go_wp2_with fail
    go_ret2
    exact deeds_bad rfl hb
  · rw [hg] at HD
    clear hg
    rcases hl : longL ins with _ | _
    · rw [hl] at HL
      clear hl
      go_enter Tryz.func162, Tryz.ntmps162
      go_wp2_with fail
      refine HD.out.mono ?_
      rintro e w1 ⟨d, rfl, hn, hb⟩
      have HC := Lib.hid (HL.out w1 hb)
      have HN := Lib.hid hn
      have HB := Lib.hid hb
      clear hn hb HL
      go_wp2_with fail
      refine HC.out.mono ?_
      rintro e w2 ⟨rfl, rfl⟩
      go_wp2_with fail
      go_ret2
      exact deeds_good rfl HN.out HB.out
    · rw [hl] at HL
      clear hl
      go_enter Tryz.func162, Tryz.ntmps162
      go_wp2_with fail
      refine HD.out.mono ?_
      rintro e w1 ⟨d, rfl, hn, hb⟩
      have HC := Lib.hid (HL.out w1 hb)
      have HB := Lib.hid hb
      clear hn hb HL
      go_wp2_with fail
      refine HC.out.mono ?_
      rintro e w2 ⟨rfl, rfl⟩
      go_wp2_with fail
      go_ret2
      exact deeds_bad rfl HB.out

end Go.Proofs.YtngldlconipnnaaGreatDoor

/- Walks: the program's doDeed, a kind each. -/
namespace Go.Proofs.YtngldlconipnnaaGreatDoor
open Go.RowKit Pth

set_option maxRecDepth 20000 in
set_option maxHeartbeats 2000000 in
theorem do_upper (n : Int) (t : List UInt8) (ins : List (List UInt8)) (u : Value) (acc : List UInt8) (w : World) (ha : acc.length ≤ 40) :
    Calls Tryz.prog 193 #[upperV, u, .string ⟨acc.toArray⟩] w (StepPost (rawT (3, n, t) ins acc) w) := by
  have HT := Lib.hid (show rawT (3, n, t) ins acc = some (upT acc) by simp [rawT])
  have HC := Lib.hid (fun W => upper_any acc W (by omega))
  unfold upperV
  have qcat := ta_upper_cat (.agg #[])
  have qtext := ta_upper_text (.agg #[])
  have qupper := ta_upper_upper (.agg #[])
  go_enter Tryz.func193, Tryz.ntmps193
  go_wp2_with fail
  refine (HC.out _).mono ?_
  rintro e w1 ⟨rfl, hb⟩
  have HB := Lib.hid (below_new hb)
  clear hb
  go_wp2_with fail
  go_ret2
  exact ⟨by rw [HT.out]; rfl, HB.out⟩

set_option maxRecDepth 20000 in
set_option maxHeartbeats 2000000 in
theorem do_sort (n : Int) (t : List UInt8) (ins : List (List UInt8)) (u : Value) (acc : List UInt8) (w : World) (ha : acc.length ≤ 40) :
    Calls Tryz.prog 193 #[sortV, u, .string ⟨acc.toArray⟩] w (StepPost (rawT (4, n, t) ins acc) w) := by
  have HT := Lib.hid (show rawT (4, n, t) ins acc = some (sortT acc) by simp [rawT])
  have HC := Lib.hid (fun W => sortBytes_any acc W (by omega))
  unfold sortV
  have qcat := ta_sort_cat (.agg #[])
  have qtext := ta_sort_text (.agg #[])
  have qupper := ta_sort_upper (.agg #[])
  have qsort := ta_sort_sort (.agg #[])
  go_enter Tryz.func193, Tryz.ntmps193
  go_wp2_with fail
  refine (HC.out _).mono ?_
  rintro e w1 ⟨rfl, hb⟩
  have HB := Lib.hid (below_new hb)
  clear hb
  go_wp2_with fail
  go_ret2
  exact ⟨by rw [HT.out]; rfl, HB.out⟩

set_option maxRecDepth 20000 in
set_option maxHeartbeats 2000000 in
theorem do_count (n : Int) (t : List UInt8) (ins : List (List UInt8)) (u : Value) (acc : List UInt8) (w : World) (ha : acc.length ≤ 40) :
    Calls Tryz.prog 193 #[countV, u, .string ⟨acc.toArray⟩] w (StepPost (rawT (6, n, t) ins acc) w) := by
  have HT := Lib.hid (show rawT (6, n, t) ins acc = some (numT acc.length) by simp [rawT])
  have HC := Lib.hid (fun W => itoa_any acc.length W (by omega))
  unfold countV
  have qcat := ta_count_cat (.agg #[])
  have qtext := ta_count_text (.agg #[])
  have qupper := ta_count_upper (.agg #[])
  have qsort := ta_count_sort (.agg #[])
  have qdrop := ta_count_drop (.agg #[])
  have qcount := ta_count_count (.agg #[])
  go_enter Tryz.func193, Tryz.ntmps193
  go_wp2_with fail
  refine (HC.out _).mono ?_
  rintro e w1 ⟨rfl, rfl⟩
  go_wp2_with fail
  go_ret2
  exact ⟨by rw [HT.out]; rfl, (Below.refl _ _).alloc (Nat.le_refl _) _⟩

set_option maxRecDepth 20000 in
set_option maxHeartbeats 2000000 in
theorem do_fail (n : Int) (t : List UInt8) (ins : List (List UInt8)) (u : Value) (acc : List UInt8) (w : World) :
    Calls Tryz.prog 193 #[failV, u, .string ⟨acc.toArray⟩] w (StepPost (rawT (7, n, t) ins acc) w) := by
  have HT := Lib.hid (show rawT (7, n, t) ins acc = none by simp [rawT])
  unfold failV
  have qcat := ta_fail_cat (.agg #[])
  have qtext := ta_fail_text (.agg #[])
  have qupper := ta_fail_upper (.agg #[])
  have qsort := ta_fail_sort (.agg #[])
  have qdrop := ta_fail_drop (.agg #[])
  have qcount := ta_fail_count (.agg #[])
  have qfail := ta_fail_fail (.agg #[])
  go_enter Tryz.func193, Tryz.ntmps193
  go_wp2_with fail
  go_ret2
  exact ⟨by rw [HT.out]; rfl, (Below.refl _ _).alloc (Nat.le_refl _) _⟩

set_option maxRecDepth 20000 in
set_option maxHeartbeats 2000000 in
theorem do_text (n : Int) (t : List UInt8) (ins : List (List UInt8)) (u : Value) (acc : List UInt8) (w : World) (ha : acc.length ≤ 40) (ht : t.length ≤ 10) :
    Calls Tryz.prog 193 #[textV t, u, .string ⟨acc.toArray⟩] w (StepPost (rawT (2, n, t) ins acc) w) := by
  have HT := Lib.hid (show rawT (2, n, t) ins acc = some (acc ++ t) by simp [rawT])
  unfold textV
  have qcat := ta_text_cat (.agg #[.string ⟨t.toArray⟩])
  have qtext := ta_text_text (.agg #[.string ⟨t.toArray⟩])
  go_enter Tryz.func193, Tryz.ntmps193
  go_wp2_with fail
  go_ret2
  exact ⟨by rw [HT.out]; show _ = Ending.returned (.tuple #[.string ⟨(acc ++ t).toArray⟩, .bool true]); rw [← data_app]; rfl, (Below.refl _ _).alloc (Nat.le_refl _) _⟩

set_option maxRecDepth 20000 in
set_option maxHeartbeats 2000000 in
theorem do_cat (ins : List (List UInt8)) (n : Nat) (t : List UInt8) (u : Value) (acc : List UInt8) (w : World) (hrow : RowV w u (S ins)) (ha : acc.length ≤ 40) (hn : n < ins.length) (hx : ∀ x ∈ ins, x.length ≤ 40) (_hi : ins.length ≤ 10) :
    Calls Tryz.prog 193 #[catV n, u, .string ⟨acc.toArray⟩] w (StepPost (rawT (1, n, t) ins acc) w) := by
  obtain ⟨a, cap, rfl, hc1, hc2, hat⟩ := hrow.texts
  clear hrow
  obtain ⟨g, o, rfl, hg, hcell⟩ := hat n hn
  have hxl := hx ins[n] (List.getElem_mem hn)
  have hcell2 : (w.alloc (.cells #[.int .i64 (n : Int)] 234)).cell? ⟨g, o + n, none⟩ = some (.string ⟨ins[n].toArray⟩) := by rw [World.cell?_alloc_lt _ _ _ hg]; exact hcell
  have HT := Lib.hid (show rawT (1, n, t) ins acc = some (acc ++ ins[n]) by
    show some (acc ++ (ins[(n : Int).toNat]?).getD []) = _
    simp [hn])
  obtain ⟨y, hy⟩ : ∃ y, y = ins[n] := ⟨_, rfl⟩
  rw [← hy] at hcell hxl hcell2 HT
  have hnz : (n : Int) < (ins.length : Int) := by omega
  clear hat hx hy hc1 hc2
  unfold catV
  have qcat := ta_cat_cat (.agg #[.int .i64 (n : Int)])
  go_enter Tryz.func193, Tryz.ntmps193
  go_wp2_with fail
  go_ret2
  exact ⟨by rw [HT.out]; show _ = Ending.returned (.tuple #[.string ⟨(acc ++ y).toArray⟩, .bool true]); rw [← data_app]; rfl, (Below.refl _ _).alloc (Nat.le_refl _) _⟩

set_option maxRecDepth 20000 in
set_option maxHeartbeats 2000000 in
theorem do_drop (ins : List (List UInt8)) (n : Nat) (t : List UInt8) (u : Value) (acc : List UInt8) (w : World) (_ha : acc.length ≤ 40) (_hn : n ≤ 40) :
    Calls Tryz.prog 193 #[dropV n, u, .string ⟨acc.toArray⟩] w (StepPost (rawT (5, n, t) ins acc) w) := by
  have HT := Lib.hid (show rawT (5, n, t) ins acc = some (acc.drop n) by
    show some (acc.drop (n : Int).toNat) = _
    simp only [Int.toNat_natCast])
  have HD := Lib.hid (drop_min acc n)
  by_cases hle : n ≤ acc.length
  · have hz : (n : Int) ≤ (acc.length : Int) := by omega
    have hm : min (n : Int) (acc.length : Int) = (n : Int) := by omega
    rw [Nat.min_eq_right hle] at HD
    unfold dropV
    have qcat := ta_drop_cat (.agg #[.int .i64 (n : Int)])
    have qtext := ta_drop_text (.agg #[.int .i64 (n : Int)])
    have qupper := ta_drop_upper (.agg #[.int .i64 (n : Int)])
    have qsort := ta_drop_sort (.agg #[.int .i64 (n : Int)])
    have qdrop := ta_drop_drop (.agg #[.int .i64 (n : Int)])
    go_enter Tryz.func193, Tryz.ntmps193
    go_wp2_with fail
    go_ret2
    exact ⟨by rw [HT.out]; show _ = Ending.returned (.tuple #[.string ⟨(acc.drop n).toArray⟩, .bool true]); rw [← HD.out]; rfl, (Below.refl _ _).alloc (Nat.le_refl _) _⟩
  · have hz : (acc.length : Int) < (n : Int) := by omega
    have hm : min (n : Int) (acc.length : Int) = (acc.length : Int) := by omega
    rw [Nat.min_eq_left (by omega)] at HD
    unfold dropV
    have qcat := ta_drop_cat (.agg #[.int .i64 (n : Int)])
    have qtext := ta_drop_text (.agg #[.int .i64 (n : Int)])
    have qupper := ta_drop_upper (.agg #[.int .i64 (n : Int)])
    have qsort := ta_drop_sort (.agg #[.int .i64 (n : Int)])
    have qdrop := ta_drop_drop (.agg #[.int .i64 (n : Int)])
    go_enter Tryz.func193, Tryz.ntmps193
    go_wp2_with fail
    go_ret2
    exact ⟨by rw [HT.out, show acc.drop n = [] from List.drop_eq_nil_of_le (by omega)]; rfl, (Below.refl _ _).alloc (Nat.le_refl _) _⟩

theorem do_any (o : OpT) (ins : List (List UInt8)) (u : Value) (acc : List UInt8) (w : World) (hrow : RowV w u (S ins)) (hok : opOk ins.length o = true) (ht : textsL ins = true) (ha : acc.length ≤ 40) :
    Calls Tryz.prog 193 #[deedV o, u, .string ⟨acc.toArray⟩] w (StepPost (rawT o ins acc) w) := by
  obtain ⟨k, n, t⟩ := o
  simp only [textsL, Bool.and_eq_true, List.all_eq_true, decide_eq_true_eq] at ht
  simp only [opOk] at hok
  split at hok
  · rename_i h; subst h
    simp only [Bool.and_eq_true, decide_eq_true_eq] at hok
    obtain ⟨m, rfl⟩ : ∃ m : Nat, n = m := ⟨n.toNat, by omega⟩
    exact do_cat ins m t u acc w hrow ha (by omega) ht.1 ht.2
  split at hok
  · rename_i h; subst h
    simp only [Bool.and_eq_true, decide_eq_true_eq] at hok
    exact do_text n t ins u acc w ha hok.2
  split at hok
  · rename_i h; subst h
    simp only [Bool.and_eq_true, decide_eq_true_eq] at hok
    obtain ⟨m, rfl⟩ : ∃ m : Nat, n = m := ⟨n.toNat, by omega⟩
    exact do_drop ins m t u acc w ha (by omega)
  split at hok
  · rename_i h
    rcases h with h | h | h | h <;> subst h
    · exact do_upper n t ins u acc w ha
    · exact do_sort n t ins u acc w ha
    · exact do_count n t ins u acc w ha
    · exact do_fail n t ins u acc w
  · cases hok

end Go.Proofs.YtngldlconipnnaaGreatDoor

/- Walks: the program's runDeeds. -/
namespace Go.Proofs.YtngldlconipnnaaGreatDoor
open Go.RowKit Pth

theorem raw_len {o : OpT} {ins : List (List UInt8)} {acc z : List UInt8} (hok : opOk ins.length o = true) (ht : textsL ins = true) (ha : acc.length ≤ 40) (h : rawT o ins acc = some z) : z.length ≤ 80 := by
  obtain ⟨k, n, t⟩ := o
  simp only [textsL, Bool.and_eq_true, List.all_eq_true, decide_eq_true_eq] at ht
  unfold rawT at h
  simp only at h
  split at h
  · simp only [Option.some.injEq] at h; subst h
    rcases hm : ins[n.toNat]? with _ | y
    · simp; omega
    · have := ht.1 y (List.mem_of_getElem? hm)
      simp; omega
  split at h
  · rename_i h1 h2
    simp only [Option.some.injEq] at h; subst h
    simp only [opOk, h2, if_true] at hok
    simp at hok ⊢; omega
  split at h
  · simp only [Option.some.injEq] at h; subst h; rw [upT_len]; omega
  split at h
  · simp only [Option.some.injEq] at h; subst h; rw [sortT_len]; omega
  split at h
  · simp only [Option.some.injEq] at h; subst h; simp; omega
  split at h
  · simp only [Option.some.injEq] at h; subst h; have := numT_len acc.length; omega
  · cases h

set_option maxRecDepth 20000 in
set_option maxHeartbeats 2000000 in
theorem runD_any (r : List OpT) (ins : List (List UInt8)) (v u : Value) (acc0 : List UInt8) (w : World) (hrow : RowV w v (DC r)) (hins : RowV w u (S ins)) (hok : r.all (opOk ins.length) = true) (ht : textsL ins = true) (ha0 : acc0.length ≤ 40) :
    Calls Tryz.prog 163 #[v, u, .string ⟨acc0.toArray⟩] w (StepPost (Pth.runT ins r acc0) w) := by
  obtain ⟨a, cap, rfl, hc1, hc2, hat⟩ := hrow
  have hdc : (DC r).length = r.length := by simp [DC]
  rw [hdc] at hc1 ⊢
  have hat2 : ∀ k (hk : k < r.length), ∃ g o, a = some ⟨g, o, none⟩ ∧ g < w.heap.size ∧ w.cell? ⟨g, o + k, none⟩ = some (deedV r[k]) := fun k hk => by
    obtain ⟨g, o, h1, h2, h3⟩ := hat k (by rw [hdc]; exact hk)
    exact ⟨g, o, h1, h2, by rw [h3]; simp [DC]⟩
  have HI := Lib.hid hins
  have HK : Hid (∀ k (hk : k < r.length), opOk ins.length r[k] = true) := fun k hk => List.all_eq_true.1 hok _ (List.getElem_mem hk)
  have HX := Lib.hid ht
  clear hat hins hok ht hdc
  unfold maxLen at hc2
  obtain ⟨R, hR⟩ : ∃ R, R = Pth.runT ins r acc0 := ⟨_, rfl⟩
  rw [← hR]
  go_enter Tryz.func163, Tryz.ntmps163
  go_wp2_with fail
  go_loopw [2, 14] (fun s i wr => ∃ (k : Nat) (acc : List UInt8), k ≤ r.length ∧ acc.length ≤ 40 ∧ s = .string ⟨acc.toArray⟩ ∧ i = .int .i64 k ∧ Hid (Below w.heap.size w wr) ∧ Hid (R = Pth.runT ins (r.drop k) acc)) (fun _ i _ => r.length - (intOf i).toNat)
  case atStart => exact ⟨0, acc0, Nat.zero_le _, ha0, rfl, by go_num, Below.refl _ _, hR⟩
  case round =>
    clear hR ha0
    obtain ⟨k, acc, hk, hacc, rfl, rfl, HB, HO⟩ := hrel
    by_cases hlt : k < r.length
    · obtain ⟨g, o, rfl, hg, hcell⟩ := hat2 k hlt
      have s1 := (HB.out.cell (p := ⟨g, o + k, none⟩) hg).trans hcell
      have hltz : (k : Int) < (r.length : Int) := by omega
      have HC := Lib.hid (do_any r[k] ins u acc wr (HI.out.below HB.out) (HK.out k hlt) HX.out hacc)
      rcases hy : rawT r[k] ins acc with _ | z
      · have HV := Lib.hid (run_none HO.out hlt (by rw [Pth.stepT, hy]; rfl))
        rw [hy] at HC
        clear hcell hat2 HO hy
        generalize deedV r[k] = x at s1 HC
        go_wp2_with fail
        refine HC.out.mono ?_
        rintro e w1 ⟨rfl, hb1⟩
        have HB1 := Lib.hid (below_step HB.out hb1)
        clear hb1 HC
        go_wp2_with fail
        go_ret2
        exact ⟨by rw [HV.out]; rfl, HB1.out⟩
      · have hz := raw_len (HK.out k hlt) HX.out hacc hy
        have HL := Lib.hid (fun W => long_any z W (by unfold maxLen; omega))
        rw [hy] at HC
        by_cases h40 : z.length ≤ 40
        · have HV := Lib.hid (run_some HO.out hlt (show Pth.stepT r[k] ins acc = some z by rw [Pth.stepT, hy]; exact if_pos h40))
          rw [show decide (40 < z.length) = false from decide_eq_false (by omega)] at HL
          clear hcell hat2 HO hy
          generalize deedV r[k] = x at s1 HC
          go_wp2_with fail
          refine HC.out.mono ?_
          rintro e w1 ⟨rfl, hb1⟩
          have HB1 := Lib.hid (below_step HB.out hb1)
          clear hb1 HC
          go_wp2_with (go_at_call 109; refine (HL.out _).mono ?_; rintro e w2 ⟨rfl, rfl⟩)
          go_roundw
          case rel => exact ⟨k + 1, z, by omega, h40, rfl, by go_num, HB1, HV⟩
          case measure => simp [intOf]; omega
        · have HV := Lib.hid (run_none HO.out hlt (show Pth.stepT r[k] ins acc = none by rw [Pth.stepT, hy]; exact if_neg h40))
          rw [show decide (40 < z.length) = true from decide_eq_true (by omega)] at HL
          clear hcell hat2 HO hy
          generalize deedV r[k] = x at s1 HC
          go_wp2_with fail
          refine HC.out.mono ?_
          rintro e w1 ⟨rfl, hb1⟩
          have HB1 := Lib.hid (below_step HB.out hb1)
          clear hb1 HC
          go_wp2_with (go_at_call 109; refine (HL.out _).mono ?_; rintro e w2 ⟨rfl, rfl⟩)
          go_ret2
          exact ⟨by rw [HV.out]; rfl, HB1.out⟩
    · have HV := Lib.hid (show R = some acc by rw [HO.out, List.drop_eq_nil_of_le (by omega)]; rfl)
      have hltz : ¬ ((k : Int) < (r.length : Int)) := by omega
      have HC := Lib.hid (fun W => clone_text acc W (by omega))
      clear HO hat2
      go_wp2_with fail
      refine (HC.out _).mono ?_
      rintro e w1 ⟨rfl, hb1⟩
      have HB1 := Lib.hid (below_step HB.out hb1)
      clear hb1 HC
      go_wp2_with fail
      go_ret2
      exact ⟨by rw [HV.out]; rfl, HB1.out⟩

end Go.Proofs.YtngldlconipnnaaGreatDoor

/- Walks: the program's RunRecipe. -/
namespace Go.Proofs.YtngldlconipnnaaGreatDoor
open Go.RowKit Pth

set_option maxRecDepth 20000 in
set_option maxHeartbeats 2000000 in
theorem implRun_any (r : List OpT) (ins : List (List UInt8)) (v u : Value) (w : World) (hrow : RowO w v r) (hins : RowV w u (S ins)) (hx : ∀ x ∈ ins, x.length ≤ maxLen) :
    Calls Tryz.prog 119 #[v, u] w (TellPost (runOk r ins) (runA r ins) w) := by
  have HD := Lib.hid (deedsOn_any r ins v u w hrow hins hx)
  have HI := Lib.hid hins
  clear hrow hins hx
  rcases hg : runOk r ins with _ | _
  · have HA := Lib.hid (show runA r ins = none by rw [runA, hg]; rfl)
    rw [hg] at HD
    clear hg
    go_enter Tryz.func119, Tryz.ntmps119
    go_wp2_with fail
    refine HD.out.mono ?_
    rintro e w1 ⟨d, rfl, hn, hb⟩
    have HB := Lib.hid hb
    clear hn hb HD
    go_wp2_with fail
    go_ret3
    exact ⟨by rw [HA.out]; rfl, HB.out⟩
  · have HA := Lib.hid (show runA r ins = Pth.runT ins r [] by rw [runA, hg]; rfl)
    have hh : textsL ins = true ∧ goodR r ins.length = true := by simpa [runOk] using hg
    have HR := Lib.hid (fun (W : World) (d : Value) (h1 : RowV W d (DC r)) (h2 : RowV W u (S ins)) => runD_any r ins d u [] W h1 h2 (goodR_all hh.2) hh.1 (by simp))
    rw [hg] at HD
    clear hg hh
    go_enter Tryz.func119, Tryz.ntmps119
    go_wp2_with fail
    refine HD.out.mono ?_
    rintro e w1 ⟨d, rfl, hn, hb⟩
    have HC := Lib.hid (HR.out w1 d (by have := RowV.of_own hn; simpa using this) (HI.out.below hb))
    have HB := Lib.hid hb
    clear hn hb HD HR
    go_wp2_with fail
    refine HC.out.mono ?_
    rintro e w2 ⟨rfl, hb2⟩
    have HB2 := Lib.hid (below_step HB.out hb2)
    clear hb2 HC
    generalize Pth.runT ins r [] = y at HA
    go_wp2_with fail
    go_ret3
    exact ⟨by rw [HA.out]; rfl, HB2.out⟩

end Go.Proofs.YtngldlconipnnaaGreatDoor

/- Walks: whether traces are true, of both. -/
namespace Go.Proofs.YtngldlconipnnaaGreatDoor
open Go.RowKit Pth

/-- What a text that is told comes out as. -/
def outR (x : Option (List UInt8)) : ResT := madeR false x.isSome (txtO x)
theorem outM_at {rs : List (List OpT)} {t : Nat} {ins : List (List UInt8)} (h : t < rs.length) : outM rs t ins = outR (Pth.runT ins rs[t] []) := by unfold outM outR; rw [getD_at _ h]

set_option maxRecDepth 20000 in
set_option maxHeartbeats 8000000 in
theorem l9Made_any (x : Option (List UInt8)) (v u : Value) (w : World) (HC : ∀ W, Below w.heap.size w W → Calls Tryz.prog 117 #[v, u] W fun e w' => e = .returned (.tuple #[.string ⟨(txtO x).toArray⟩, .bool x.isSome]) ∧ Below W.heap.size W w') :
    Calls Tryz.prog 68 #[v, u] w fun e w' => e = .returned (resV (outR x)) ∧ Below w.heap.size w w' := by
  obtain ⟨wa, hwa⟩ : ∃ wa, wa = w.alloc (.cells #[.string ⟨#[]⟩, .int .i64 0] 89) := ⟨_, rfl⟩
  have hsz : w.heap.size < wa.heap.size := by rw [hwa]; simp
  have R0 : Hid (Blk2 wa w.heap.size 89 (.string ⟨#[]⟩) (.int .i64 0)) := by rw [hwa]; exact Blk2.new
  have HA : Hid (Below w.heap.size w wa) := by rw [hwa]; exact (Below.refl w.heap.size w).alloc (Nat.le_refl _) _
  have HWA : Hid (w.alloc (.cells #[.string ⟨#[]⟩, .int .i64 0] 89) = wa) := by rw [hwa]; rfl
  have HC2 := Lib.hid (HC wa HA.out)
  have HO : Hid (outR x = madeR false x.isSome (txtO x)) := rfl
  rw [HO.out]
  clear hwa HC HO
  generalize txtO x = tx at *
  generalize x.isSome = d at *
  go_enter Tryz.func68, Tryz.ntmps68
  go_wp2_with fail
  rw [HWA.out]
  refine HC2.out.mono ?_
  rintro e w1 ⟨rfl, hb1⟩
  have HB1 := Lib.hid (bth HA.out hb1 (Nat.le_refl _))
  have R1 := Lib.hid (R0.out.below hb1 hsz)
  obtain ⟨f0, f1⟩ := R1.out.cells
  have g0 := R1.out.soft 0
  have g1 := R1.out.soft 1
  clear hb1 HC2
  rcases d with _ | _
  · go_wp2_with fail
    have hZ := (R1.out.set0 (.string ByteArray.empty)).set1 (.int .i64 1)
    refine bodyPost_ret (results_cellR rfl rfl (load_res hZ.cells.1 hZ.cells.2)) rfl ?_
    exact ⟨by rfl, (HB1.out.setCell (p := ⟨w.heap.size, 0, none⟩) (Nat.le_refl _) _).setCell (p := ⟨w.heap.size, 1, none⟩) (Nat.le_refl _) _⟩
  · go_wp2_with fail
    have hZ := (R1.out.set0 (.string ⟨tx.toArray⟩)).set1 (.int .i64 0)
    refine bodyPost_ret (results_cellR rfl rfl (load_res hZ.cells.1 hZ.cells.2)) rfl ?_
    exact ⟨by rfl, (HB1.out.setCell (p := ⟨w.heap.size, 0, none⟩) (Nat.le_refl _) _).setCell (p := ⟨w.heap.size, 1, none⟩) (Nat.le_refl _) _⟩

set_option maxRecDepth 20000 in
set_option maxHeartbeats 8000000 in
theorem recipeMakes_any (x : Option (List UInt8)) (ok : Bool) (v u : Value) (w : World) (HC : ∀ W, Below w.heap.size w W → Calls Tryz.prog 119 #[v, u] W fun e w' => e = .returned (.tuple #[.string ⟨(txtO x).toArray⟩, .bool x.isSome, .bool ok]) ∧ Below W.heap.size W w') :
    Calls Tryz.prog 61 #[v, u] w fun e w' => e = .returned (resV (outR x)) ∧ Below w.heap.size w w' := by
  obtain ⟨wa, hwa⟩ : ∃ wa, wa = w.alloc (.cells #[.string ⟨#[]⟩, .int .i64 0] 89) := ⟨_, rfl⟩
  have hsz : w.heap.size < wa.heap.size := by rw [hwa]; simp
  have R0 : Hid (Blk2 wa w.heap.size 89 (.string ⟨#[]⟩) (.int .i64 0)) := by rw [hwa]; exact Blk2.new
  have HA : Hid (Below w.heap.size w wa) := by rw [hwa]; exact (Below.refl w.heap.size w).alloc (Nat.le_refl _) _
  have HWA : Hid (w.alloc (.cells #[.string ⟨#[]⟩, .int .i64 0] 89) = wa) := by rw [hwa]; rfl
  have HC2 := Lib.hid (HC wa HA.out)
  have HO : Hid (outR x = madeR false x.isSome (txtO x)) := rfl
  rw [HO.out]
  clear hwa HC HO
  generalize txtO x = tx at *
  generalize x.isSome = d at *
  go_enter Tryz.func61, Tryz.ntmps61
  go_wp2_with fail
  rw [HWA.out]
  refine HC2.out.mono ?_
  rintro e w1 ⟨rfl, hb1⟩
  have HB1 := Lib.hid (bth HA.out hb1 (Nat.le_refl _))
  have R1 := Lib.hid (R0.out.below hb1 hsz)
  obtain ⟨f0, f1⟩ := R1.out.cells
  have g0 := R1.out.soft 0
  have g1 := R1.out.soft 1
  clear hb1 HC2
  rcases d with _ | _
  · go_wp2_with fail
    have hZ := (R1.out.set0 (.string ByteArray.empty)).set1 (.int .i64 1)
    refine bodyPost_ret (results_cellR rfl rfl (load_res hZ.cells.1 hZ.cells.2)) rfl ?_
    exact ⟨by rfl, (HB1.out.setCell (p := ⟨w.heap.size, 0, none⟩) (Nat.le_refl _) _).setCell (p := ⟨w.heap.size, 1, none⟩) (Nat.le_refl _) _⟩
  · go_wp2_with fail
    have hZ := (R1.out.set0 (.string ⟨tx.toArray⟩)).set1 (.int .i64 0)
    refine bodyPost_ret (results_cellR rfl rfl (load_res hZ.cells.1 hZ.cells.2)) rfl ?_
    exact ⟨by rfl, (HB1.out.setCell (p := ⟨w.heap.size, 0, none⟩) (Nat.le_refl _) _).setCell (p := ⟨w.heap.size, 1, none⟩) (Nat.le_refl _) _⟩

/-- What is known of a trace of the plan: its recipe, and that it runs. -/
theorem trace_run {ls : List (List Int)} {l : List Int} {bs : List Bool} {rs : List (List OpT)} (hp : planA ls l bs rs = true) {t : TrT} (h : traceA ls bs t = true) :
    ∃ j : Nat, t.1 = (j : Int) ∧ ∃ hj : j < rs.length, goodR rs[j] (t.2.1.length : Int) = true ∧ textsL t.2.1 = true := by
  obtain ⟨h1, h2, _, h4, h5⟩ := insOk_parts (traceA_parts h).1
  obtain ⟨j, hj⟩ : ∃ j : Nat, t.1 = j := ⟨t.1.toNat, by omega⟩
  have hjl : j < ls.length := by omega
  have hjr : j < rs.length := by have := (plan_parts hp).2.2.1; omega
  have hjb : j < bs.length := by have := (plan_parts hp).2.1; omega
  refine ⟨j, hj, hjr, ?_, h5⟩
  have hg := (plan_parts hp).2.2.2 j hjl
  rw [planP_at hjl hjb hjr, Bool.and_eq_true] at hg
  rw [hj, Int.toNat_natCast, getD_at _ hjl] at h4
  rw [h4]
  exact hg.1
def TrueA (rs : List (List OpT)) (T : List TrT) : Bool := T.all (trueP rs)
theorem true_next {rs : List (List OpT)} {T : List TrT} {k : Nat} (hk : k < T.length) (h : (T.take k).all (trueP rs) = true) (hn : trueP rs T[k] = true) : (T.take (k + 1)).all (trueP rs) = true := by
  rw [List.take_succ_eq_append_getElem hk, List.all_append, h]; simp [hn]
theorem true_not {rs : List (List OpT)} {T : List TrT} {k : Nat} (hk : k < T.length) (hn : trueP rs T[k] = false) : TrueA rs T = false := by
  unfold TrueA
  rw [List.all_eq_false]
  exact ⟨T[k], List.getElem_mem hk, by rw [hn]; simp⟩
noncomputable def trueB (ls : List (List Int)) (l : List Int) (bs : List Bool) (rs : List (List OpT)) (T : List TrT) : Bool := goodT ls l bs rs T && TrueA rs T

set_option maxRecDepth 20000 in
set_option maxHeartbeats 8000000 in
theorem specTrue9_any (ls : List (List Int)) (l : List Int) (bs : List Bool) (rs : List (List OpT)) (T : List TrT) (v x : Value) (w : World) (hp : PlanV w v ls l bs rs) (hT : RowT w x T) (hx : ∀ l ∈ rs, ∀ f ∈ l, f.2.2.length ≤ maxLen) (hxT : ∀ t ∈ T, HeldT maxLen t) :
    Calls Tryz.prog 18 #[v, x] w fun e w' => e = .returned (.tuple #[.bool (trueB ls l bs rs T), .bool (goodT ls l bs rs T)]) ∧ Below w.heap.size w w' := by
  have HV := Lib.hid hp
  obtain ⟨nv, ov, sv, rv, rfl, h1, h2, h3, h4⟩ := hp
  obtain ⟨as0, cs, rfl, hs1, hs2, hats⟩ := h3.boolsW
  obtain ⟨an, cn, rfl, hn1, hn2, hatn⟩ := h1.lists
  obtain ⟨ao, co, rfl, ho1, ho2, hato⟩ := h2.ints
  obtain ⟨ar, cr, rfl, hr1, hr2, hatr⟩ := h4.lists
  clear h1 h2 h3 h4
  unfold maxLen at hs2 hn2 ho2 hr2
  obtain ⟨wa, hwa⟩ : ∃ wa, wa = w.alloc (.cells #[.slice an ls.length cn, .slice ao l.length co, .slice as0 bs.length cs, .slice ar rs.length cr] 30) := ⟨_, rfl⟩
  have hsz : w.heap.size < wa.heap.size := by rw [hwa]; simp
  have P0 : Hid (Blk4 wa w.heap.size 30 (.slice an ls.length cn) (.slice ao l.length co) (.slice as0 bs.length cs) (.slice ar rs.length cr)) := by rw [hwa]; exact Blk4.new
  have HA : Hid (Below w.heap.size w wa) := by rw [hwa]; exact (Below.refl w.heap.size w).alloc (Nat.le_refl _) _
  have HWA : Hid (w.alloc (.cells #[.slice an ls.length cn, .slice ao l.length co, .slice as0 bs.length cs, .slice ar rs.length cr] 30) = wa) := by rw [hwa]; rfl
  have HVW : Hid (∀ W, Below wa.heap.size wa W → PlanV W (.agg #[.slice an ls.length cn, .slice ao l.length co, .slice as0 bs.length cs, .slice ar rs.length cr]) ls l bs rs) := fun W h => HV.out.below (bth HA.out h (Nat.le_refl _))
  clear hwa
  have HTR := Lib.hid hT
  obtain ⟨a, cap, rfl, hc1, hc2, hat⟩ := hT.traces
  unfold maxLen at hc2
  have HAT := Lib.hid hat
  have HATR := Lib.hid hatr
  obtain ⟨b, hb⟩ : ∃ b, goodT ls l bs rs T = b := ⟨_, rfl⟩
  have HC := Lib.hid (specGood9_b hb _ _ wa (HVW.out wa (Below.refl _ _)) (HTR.out.below HA.out) hx hxT)
  have HGB := Lib.hid hb
  obtain ⟨R, hR⟩ : ∃ R, trueB ls l bs rs T = R := ⟨_, rfl⟩
  have HRR : Hid (R = (b && TrueA rs T)) := by rw [← hR]; show _ = _; unfold trueB; rw [hb]
  rw [hR, hb]
  obtain ⟨c0, c1, c2', c3⟩ := P0.out.cells
  clear hT hat hx hxT hats hatn hato hatr hb hR
  rcases b with _ | _
  · have HE : Hid (R = false) := HRR.out
    go_enter Tryz.func18, Tryz.ntmps18
    go_wp2_with fail
    rw [HWA.out]
    refine HC.out.mono ?_
    rintro e w1 ⟨rfl, hb1⟩
    have HB1 := Lib.hid (bth HA.out hb1 (Nat.le_refl _))
    clear hb1 c0 c1 c2' c3
    go_wp2_with fail
    go_ret2
    exact ⟨by rw [HE.out] <;> rfl, HB1.out⟩
  have HPL := Lib.hid (goodT_parts HGB.out).1
  have HALL := Lib.hid (goodT_all HGB.out)
  go_enter Tryz.func18, Tryz.ntmps18
  go_wp2_with fail
  rw [HWA.out]
  refine HC.out.mono ?_
  rintro e w1 ⟨rfl, hb1⟩
  have HB1 := Lib.hid hb1
  clear hb1 c0 c1 c2' c3 HC
  go_wp2_with fail
  go_loopw [14] (fun i wr => ∃ k : Nat, k ≤ T.length ∧ i = .int .i64 k ∧ Hid (Below wa.heap.size wa wr) ∧ Hid ((T.take k).all (trueP rs) = true)) (fun i _ => T.length - (intOf i).toNat)
  case atStart => exact ⟨0, Nat.zero_le _, rfl, HB1, by simp [Hid]⟩
  case round =>
    clear HB1
    obtain ⟨k, hk, rfl, HB, HO⟩ := hrel
    have HBW := Lib.hid (bth HA.out HB.out (Nat.le_refl _))
    by_cases hlt : k < T.length
    · obtain ⟨g, o, a2, c2, rfl, hg, ⟨k0, k1, k2, k3⟩, hrk⟩ := HAT.out k hlt
      have s0 := (HBW.out.cell (p := ⟨g, o + k * 4, none⟩) hg).trans k0
      have s1 := (HBW.out.cell (p := ⟨g, o + k * 4 + 1, none⟩) hg).trans k1
      have s2 := (HBW.out.cell (p := ⟨g, o + k * 4 + 2, none⟩) hg).trans k2
      have s3 := (HBW.out.cell (p := ⟨g, o + k * 4 + 3, none⟩) hg).trans k3
      have hltz : (k : Int) < (T.length : Int) := by omega
      obtain ⟨j, hj, hjr, hgo, htx⟩ := trace_run HPL.out (HALL.out _ (List.getElem_mem hlt))
      have hall : rs[j].all (opOk T[k].2.1.length) = true := by have := (goodR_iff.1 hgo).2.2.2; exact this
      obtain ⟨gr, or', ar2, cr2, rfl, hgr, hcr, hrr⟩ := HATR.out j hjr
      have HTP : Hid (trueP rs T[k] = decide (outR (Pth.runT T[k].2.1 rs[j] []) = T[k].2.2)) := by show _ = _; unfold trueP; rw [hj, Int.toNat_natCast, outM_at hjr]
      have HCM := Lib.hid (fun W (h : Below w.heap.size w W) => l9Made_any (Pth.runT T[k].2.1 rs[j] []) (.slice ar2 rs[j].length cr2) (.slice a2 T[k].2.1.length c2) W (fun W2 h2 => runS_any rs[j] T[k].2.1 _ _ W2 (hrr.below (bth h h2 (Nat.le_refl _))) (hrk.below (bth h h2 (Nat.le_refl _))) hall htx))
      have HNX := Lib.hid (fun h => true_next (rs := rs) hlt HO.out h)
      have HNO := Lib.hid (fun h => true_not (rs := rs) hlt h)
      have hjz : (j : Int) < (rs.length : Int) := by omega
      rw [hj] at s0
      have hgrw : gr < wr.heap.size := Nat.lt_of_lt_of_le hgr HBW.out.size
      have hsr := Nat.lt_of_lt_of_le hsz HB.out.size
      clear k0 k1 k2 k3 hrk hj hgo htx hall HAT HTR HATR HO
      generalize outR (Pth.runT T[k].2.1 rs[j] []) = M at *
      generalize hnr : rs[j].length = nr at *
      generalize T[k] = z at *
      obtain ⟨x1', xi, x2, x3⟩ := z
      obtain ⟨M1, M2⟩ := M
      obtain ⟨x1, hx1⟩ : ∃ x1 : Int, x1 = (j : Int) := ⟨_, rfl⟩
      rw [← hx1] at s0
      unfold resV at HCM
      simp only at s0 s1 s2 s3 HCM HTP
      generalize xi.length = nx at *
      subst hx1
      obtain ⟨wx, hwx⟩ : ∃ wx, wx = wr.alloc (.cells #[.int .i64 (j : Int), .slice a2 nx c2, .string ⟨x2.toArray⟩, .int .i64 x3] 95) := ⟨_, rfl⟩
      have hxb : Below wr.heap.size wr wx := by rw [hwx]; exact (Below.refl wr.heap.size wr).alloc (Nat.le_refl _) _
      have hltx : wr.heap.size < wx.drew.heap.size := by show _ < wx.heap.size; rw [hwx]; simp
      have hltp : w.heap.size < wx.drew.heap.size := by omega
      have hltr : gr < wx.drew.heap.size := by omega
      have XD : Hid (Blk4 wx.drew wr.heap.size 95 (.int .i64 (j : Int)) (.slice a2 nx c2) (.string ⟨x2.toArray⟩) (.int .i64 x3)) := by show Blk4 wx _ _ _ _ _ _; rw [hwx]; exact Blk4.new
      have HBX := Lib.hid (bth HB.out hxb (Nat.le_refl _))
      have PD : Hid (Blk4 wx.drew w.heap.size 30 (.slice an ls.length cn) (.slice ao l.length co) (.slice as0 bs.length cs) (.slice (some ⟨gr, or', none⟩) rs.length cr)) := P0.out.below (Below.drew HBX.out) hsz
      have HBD := Lib.hid (bth HA.out (Below.drew HBX.out) (Nat.le_refl _))
      have HWX : Hid (wr.alloc (.cells #[.int .i64 (j : Int), .slice a2 nx c2, .string ⟨x2.toArray⟩, .int .i64 x3] 95) = wx) := by rw [hwx]; rfl
      have hrc : wx.drew.cell? ⟨gr, or' + j, none⟩ = some (.slice ar2 nr cr2) := (HBD.out.cell (p := ⟨gr, or' + j, none⟩) hgr).trans hcr
      have HKS : Hid (∀ W, Below wx.drew.heap.size wx.drew W → (W.cell? ⟨w.heap.size, 0, none⟩ = some (.slice an ls.length cn) ∧ W.cell? ⟨w.heap.size, 1, none⟩ = some (.slice ao l.length co) ∧ W.cell? ⟨w.heap.size, 2, none⟩ = some (.slice as0 bs.length cs) ∧ W.cell? ⟨w.heap.size, 3, none⟩ = some (.slice (some ⟨gr, or', none⟩) rs.length cr)) ∧ (W.cell? ⟨wr.heap.size, 0, none⟩ = some (.int .i64 (j : Int)) ∧ W.cell? ⟨wr.heap.size, 1, none⟩ = some (.slice a2 nx c2) ∧ W.cell? ⟨wr.heap.size, 2, none⟩ = some (.string ⟨x2.toArray⟩) ∧ W.cell? ⟨wr.heap.size, 3, none⟩ = some (.int .i64 x3)) ∧ W.cell? ⟨gr, or' + j, none⟩ = some (.slice ar2 nr cr2)) := fun W h => ⟨(PD.out.below h hltp).cells, (XD.out.below h hltx).cells, (h.cell (p := ⟨gr, or' + j, none⟩) hltr).trans hrc⟩
      have ks := HKS.out wx.drew (Below.refl _ _)
      clear hwx hxb hrc hcr hrr
      by_cases he1 : M1 = x2
      · by_cases he2 : M2 = x3
        · have he1 := he1.symm
          have he2 := he2.symm
          subst he1 he2
          have HS := Lib.hid (HNX.out (by rw [HTP.out]; simp))
          go_wp2_with fail
          rw [HWX.out]
          go_region_held3 (fun w' => (w'.cell? ⟨w.heap.size, 0, none⟩ = some (.slice an ls.length cn) ∧ w'.cell? ⟨w.heap.size, 1, none⟩ = some (.slice ao l.length co) ∧ w'.cell? ⟨w.heap.size, 2, none⟩ = some (.slice as0 bs.length cs) ∧ w'.cell? ⟨w.heap.size, 3, none⟩ = some (.slice (some ⟨gr, or', none⟩) rs.length cr)) ∧ (w'.cell? ⟨wr.heap.size, 0, none⟩ = some (.int .i64 (j : Int)) ∧ w'.cell? ⟨wr.heap.size, 1, none⟩ = some (.slice a2 nx c2) ∧ w'.cell? ⟨wr.heap.size, 2, none⟩ = some (.string ⟨x2.toArray⟩) ∧ w'.cell? ⟨wr.heap.size, 3, none⟩ = some (.int .i64 x3)) ∧ w'.cell? ⟨gr, or' + j, none⟩ = some (.slice ar2 nr cr2)) (first | exact ks)
            (first
              | (go_at_call 68; refine (HCM.out _ (by exact HBD.out)).mono ?_; rintro e w8 ⟨rfl, hb8⟩
                 have ks := HKS.out w8 hb8
                 have C8 := Lib.hid hb8
                 clear hb8))
          all_goals
            have HB8 := Lib.hid (bth (Below.drew HBX.out) C8.out (Nat.le_refl _))
            clear ks
            go_wp2_with fail
            go_roundw
            case rel => exact ⟨k + 1, by omega, by go_num, HB8, HS⟩
            case measure => simp [intOf]; omega
        · have he1 := he1.symm
          subst he1
          have HE : Hid (R = false) := by show R = false; rw [HRR.out, HNO.out (by rw [HTP.out]; simp [he2])]; rfl
          go_wp2_with fail
          rw [HWX.out]
          go_region_held3 (fun w' => (w'.cell? ⟨w.heap.size, 0, none⟩ = some (.slice an ls.length cn) ∧ w'.cell? ⟨w.heap.size, 1, none⟩ = some (.slice ao l.length co) ∧ w'.cell? ⟨w.heap.size, 2, none⟩ = some (.slice as0 bs.length cs) ∧ w'.cell? ⟨w.heap.size, 3, none⟩ = some (.slice (some ⟨gr, or', none⟩) rs.length cr)) ∧ (w'.cell? ⟨wr.heap.size, 0, none⟩ = some (.int .i64 (j : Int)) ∧ w'.cell? ⟨wr.heap.size, 1, none⟩ = some (.slice a2 nx c2) ∧ w'.cell? ⟨wr.heap.size, 2, none⟩ = some (.string ⟨x2.toArray⟩) ∧ w'.cell? ⟨wr.heap.size, 3, none⟩ = some (.int .i64 x3)) ∧ w'.cell? ⟨gr, or' + j, none⟩ = some (.slice ar2 nr cr2)) (first | exact ks)
            (first
              | (go_at_call 68; refine (HCM.out _ (by exact HBD.out)).mono ?_; rintro e w8 ⟨rfl, hb8⟩
                 have ks := HKS.out w8 hb8
                 have C8 := Lib.hid hb8
                 clear hb8))
          all_goals
            have HB8 := Lib.hid (bth HBD.out C8.out (Nat.le_refl _))
            clear ks
            go_wp2_with fail
            go_ret2
            exact ⟨by rw [HE.out] <;> rfl, HB8.out⟩
      · have HE : Hid (R = false) := by show R = false; rw [HRR.out, HNO.out (by rw [HTP.out]; simp [he1])]; rfl
        go_wp2_with fail
        rw [HWX.out]
        go_region_held3 (fun w' => (w'.cell? ⟨w.heap.size, 0, none⟩ = some (.slice an ls.length cn) ∧ w'.cell? ⟨w.heap.size, 1, none⟩ = some (.slice ao l.length co) ∧ w'.cell? ⟨w.heap.size, 2, none⟩ = some (.slice as0 bs.length cs) ∧ w'.cell? ⟨w.heap.size, 3, none⟩ = some (.slice (some ⟨gr, or', none⟩) rs.length cr)) ∧ (w'.cell? ⟨wr.heap.size, 0, none⟩ = some (.int .i64 (j : Int)) ∧ w'.cell? ⟨wr.heap.size, 1, none⟩ = some (.slice a2 nx c2) ∧ w'.cell? ⟨wr.heap.size, 2, none⟩ = some (.string ⟨x2.toArray⟩) ∧ w'.cell? ⟨wr.heap.size, 3, none⟩ = some (.int .i64 x3)) ∧ w'.cell? ⟨gr, or' + j, none⟩ = some (.slice ar2 nr cr2)) (first | exact ks)
          (first
            | (go_at_call 68; refine (HCM.out _ (by exact HBD.out)).mono ?_; rintro e w8 ⟨rfl, hb8⟩
               have ks := HKS.out w8 hb8
               have C8 := Lib.hid hb8
               clear hb8))
        all_goals
          have HB8 := Lib.hid (bth HBD.out C8.out (Nat.le_refl _))
          clear ks
          go_wp2_with fail
          go_ret2
          exact ⟨by rw [HE.out] <;> rfl, HB8.out⟩
    · have hltz : ¬ ((k : Int) < (T.length : Int)) := by omega
      have HE : Hid (R = true) := by
        have := HO.out
        rw [List.take_of_length_le (by omega)] at this
        show R = true
        rw [HRR.out]
        unfold TrueA
        rw [this]; rfl
      clear HAT HTR HATR HO
      go_wp2_with fail
      go_ret2
      exact ⟨by rw [HE.out] <;> rfl, HBW.out⟩


set_option maxRecDepth 20000 in
set_option maxHeartbeats 8000000 in
theorem containsT_any (T : List TrT) (p : TrT → Bool) (D : TrT → Prop) (v fv : Value) (w : World) (hrow : RowT w v T) (ht : TestT w fv D p) (hD : ∀ x ∈ T, D x) :
    Calls Tryz.prog 62 #[v, fv] w (BoolPost (T.any p) w) := by
  have HC := Lib.hid (indexT_any T p D v fv w hrow ht hD)
  have HI := Lib.hid (idx_any p T)
  clear hrow ht hD
  generalize idxK p T = i at *
  generalize T.any p = b at *
  go_enter Tryz.func62, Tryz.ntmps62
  go_wp2_with fail
  refine HC.out.mono ?_
  rintro e w1 ⟨rfl, hb⟩
  have HB := Lib.hid hb
  clear hb HC
  go_wp2_with fail
  go_ret
  exact ⟨by rw [← HI.out] <;> rfl, HB.out⟩

set_option maxRecDepth 20000 in
set_option maxHeartbeats 8000000 in
theorem isFalse_any (ls : List (List Int)) (l : List Int) (bs : List Bool) (rs : List (List OpT)) (_T : List TrT) (b : Nat) (t : TrT) (x : Value) (w : World) (an ao as0 ar : Option Addr) (cn co cs cr : Nat) (hp : PlanV w (.agg #[.slice an ls.length cn, .slice ao l.length co, .slice as0 bs.length cs, .slice ar rs.length cr]) ls l bs rs) (hpb : Blk4 w b 30 (.slice an ls.length cn) (.slice ao l.length co) (.slice as0 bs.length cs) (.slice ar rs.length cr)) (hv : TrV w x t) (hpl : planA ls l bs rs = true) (ht : traceA ls bs t = true) :
    Calls Tryz.prog 60 #[x, .pointer (some ⟨b, 0, none⟩)] w (BoolPost (!trueP rs t) w) := by
  obtain ⟨_, _, _, _, he, _, _, _, h4⟩ := hp
  injection he with he
  simp only [Array.mk.injEq, List.cons.injEq, and_true] at he
  obtain ⟨_, _, _, e4⟩ := he
  subst e4
  obtain ⟨_, _, he, hr1, hr2, hatr⟩ := h4.lists
  injection he with ea _ ec
  subst ea ec
  unfold maxLen at hr2
  obtain ⟨j, hj, hjr, hgo, htx⟩ := trace_run hpl ht
  have hall : rs[j].all (opOk t.2.1.length) = true := (goodR_iff.1 hgo).2.2.2
  have hok : runOk rs[j] t.2.1 = true := by unfold runOk; rw [htx, hgo]; rfl
  have hra : runA rs[j] t.2.1 = Pth.runT t.2.1 rs[j] [] := by unfold runA; rw [hok]; rfl
  have HTP : Hid (trueP rs t = decide (outR (Pth.runT t.2.1 rs[j] []) = t.2.2)) := by show _ = _; unfold trueP; rw [hj, Int.toNat_natCast, outM_at hjr]
  obtain ⟨t1, ins, x2, x3⟩ := t
  obtain ⟨a2, c2, rfl, hr⟩ := hv
  simp only at hj hr hgo htx hall hra HTP
  subst hj
  unfold trV
  simp only
  obtain ⟨_, _, he, hc1, hc2, hrt⟩ := hr.texts
  injection he with ea _ ec
  subst ea ec
  unfold maxLen at hc2
  clear hrt
  obtain ⟨gr, or', ar2, cr2, rfl, hgr, hcr, hrr⟩ := hatr j hjr
  obtain ⟨wa, hwa⟩ : ∃ wa, wa = w.alloc (.cells #[.int .i64 (j : Int), .slice a2 ins.length c2, .string ⟨x2.toArray⟩, .int .i64 x3] 95) := ⟨_, rfl⟩
  have hAw : Below w.heap.size w wa := by rw [hwa]; exact (Below.refl w.heap.size w).alloc (Nat.le_refl _) _
  have XD : Hid (Blk4 wa.drew w.heap.size 95 (.int .i64 (j : Int)) (.slice a2 ins.length c2) (.string ⟨x2.toArray⟩) (.int .i64 x3)) := by show Blk4 wa _ _ _ _ _ _; rw [hwa]; exact Blk4.new
  have hbs := lt_of_block hpb
  have PD : Hid (Blk4 wa.drew b 30 (.slice an ls.length cn) (.slice ao l.length co) (.slice as0 bs.length cs) (.slice (some ⟨gr, or', none⟩) rs.length cr)) := hpb.below (Below.drew hAw) hbs
  have hsw : w.heap.size < wa.drew.heap.size := by show _ < wa.heap.size; rw [hwa]; simp
  have hbw : b < wa.drew.heap.size := by omega
  have hgw : gr < wa.drew.heap.size := by omega
  have HA := Lib.hid (Below.drew hAw)
  have hrc : wa.drew.cell? ⟨gr, or' + j, none⟩ = some (.slice ar2 rs[j].length cr2) := (hAw.cell (p := ⟨gr, or' + j, none⟩) hgr).trans hcr
  have HCM0 := recipeMakes_any (Pth.runT ins rs[j] []) true (.slice ar2 rs[j].length cr2) (.slice a2 ins.length c2) wa.drew (fun W2 h2 => by
    have := implRun_any rs[j] ins (.slice ar2 rs[j].length cr2) (.slice a2 ins.length c2) W2 (hrr.below (bth HA.out h2 (Nat.le_refl _))) (hr.below (bth HA.out h2 (Nat.le_refl _))) (fun y hy => by have := (texts_parts htx).1 y hy; unfold maxLen; omega)
    unfold TellPost at this
    rw [hra, hok] at this
    exact this)
  have HCM := Lib.hid HCM0
  have HWA : Hid (w.alloc (.cells #[.int .i64 (j : Int), .slice a2 ins.length c2, .string ⟨x2.toArray⟩, .int .i64 x3] 95) = wa) := by rw [hwa]; rfl
  have hjz : (j : Int) < (rs.length : Int) := by omega
  clear hwa hpb hr hAw hcr hrr hatr hgo htx hall hok hra HCM0 ht hpl h4
  generalize outR (Pth.runT ins rs[j] []) = M at *
  generalize rs[j].length = nr at *
  generalize ins.length = nx at *
  obtain ⟨M1, M2⟩ := M
  unfold resV at HCM
  simp only at HCM
  have HKS : Hid (∀ W, Below wa.drew.heap.size wa.drew W → (W.cell? ⟨b, 0, none⟩ = some (.slice an ls.length cn) ∧ W.cell? ⟨b, 1, none⟩ = some (.slice ao l.length co) ∧ W.cell? ⟨b, 2, none⟩ = some (.slice as0 bs.length cs) ∧ W.cell? ⟨b, 3, none⟩ = some (.slice (some ⟨gr, or', none⟩) rs.length cr)) ∧ (W.cell? ⟨w.heap.size, 0, none⟩ = some (.int .i64 (j : Int)) ∧ W.cell? ⟨w.heap.size, 1, none⟩ = some (.slice a2 nx c2) ∧ W.cell? ⟨w.heap.size, 2, none⟩ = some (.string ⟨x2.toArray⟩) ∧ W.cell? ⟨w.heap.size, 3, none⟩ = some (.int .i64 x3)) ∧ W.cell? ⟨gr, or' + j, none⟩ = some (.slice ar2 nr cr2)) := fun W h => ⟨(PD.out.below h hbw).cells, (XD.out.below h hsw).cells, (h.cell (p := ⟨gr, or' + j, none⟩) hgw).trans hrc⟩
  have ks := HKS.out wa.drew (Below.refl _ _)
  clear hrc
  obtain ⟨B, hB⟩ : ∃ B, (!trueP rs ((j : Int), ins, x2, x3)) = B := ⟨_, rfl⟩
  have HBB : Hid (B = !decide ((M1, M2) = (x2, x3))) := by rw [← hB, HTP.out]; rfl
  rw [hB]
  clear hB HTP
  by_cases he1 : x2 = M1
  · by_cases he2 : x3 = M2
    · have HE : Hid (B = false) := by show B = false; rw [HBB.out]; simp [he1, he2]
      subst he1 he2
      go_enter Tryz.func60, Tryz.ntmps60
      go_wp2_with fail
      rw [HWA.out]
      go_region_held3 (fun w' => (w'.cell? ⟨b, 0, none⟩ = some (.slice an ls.length cn) ∧ w'.cell? ⟨b, 1, none⟩ = some (.slice ao l.length co) ∧ w'.cell? ⟨b, 2, none⟩ = some (.slice as0 bs.length cs) ∧ w'.cell? ⟨b, 3, none⟩ = some (.slice (some ⟨gr, or', none⟩) rs.length cr)) ∧ (w'.cell? ⟨w.heap.size, 0, none⟩ = some (.int .i64 (j : Int)) ∧ w'.cell? ⟨w.heap.size, 1, none⟩ = some (.slice a2 nx c2) ∧ w'.cell? ⟨w.heap.size, 2, none⟩ = some (.string ⟨x2.toArray⟩) ∧ w'.cell? ⟨w.heap.size, 3, none⟩ = some (.int .i64 x3)) ∧ w'.cell? ⟨gr, or' + j, none⟩ = some (.slice ar2 nr cr2)) (first | exact ks)
        (first
          | (go_at_call 61; refine HCM.out.mono ?_; rintro e w8 ⟨rfl, hb8⟩
             have ks := HKS.out w8 hb8
             have C8 := Lib.hid hb8
             clear hb8))
      all_goals
        have HB8 := Lib.hid (bth HA.out C8.out (Nat.le_refl _))
        clear ks
        go_wp2_with fail
        go_ret
        exact ⟨by rw [HE.out] <;> rfl, HB8.out⟩
    · have HE : Hid (B = true) := by show B = true; rw [HBB.out]; simp [he1, Ne.symm he2]
      subst he1
      go_enter Tryz.func60, Tryz.ntmps60
      go_wp2_with fail
      rw [HWA.out]
      go_region_held3 (fun w' => (w'.cell? ⟨b, 0, none⟩ = some (.slice an ls.length cn) ∧ w'.cell? ⟨b, 1, none⟩ = some (.slice ao l.length co) ∧ w'.cell? ⟨b, 2, none⟩ = some (.slice as0 bs.length cs) ∧ w'.cell? ⟨b, 3, none⟩ = some (.slice (some ⟨gr, or', none⟩) rs.length cr)) ∧ (w'.cell? ⟨w.heap.size, 0, none⟩ = some (.int .i64 (j : Int)) ∧ w'.cell? ⟨w.heap.size, 1, none⟩ = some (.slice a2 nx c2) ∧ w'.cell? ⟨w.heap.size, 2, none⟩ = some (.string ⟨x2.toArray⟩) ∧ w'.cell? ⟨w.heap.size, 3, none⟩ = some (.int .i64 x3)) ∧ w'.cell? ⟨gr, or' + j, none⟩ = some (.slice ar2 nr cr2)) (first | exact ks)
        (first
          | (go_at_call 61; refine HCM.out.mono ?_; rintro e w8 ⟨rfl, hb8⟩
             have ks := HKS.out w8 hb8
             have C8 := Lib.hid hb8
             clear hb8))
      all_goals
        have HB8 := Lib.hid (bth HA.out C8.out (Nat.le_refl _))
        clear ks
        go_wp2_with fail
        go_ret
        exact ⟨by rw [HE.out] <;> rfl, HB8.out⟩
  · have HE : Hid (B = true) := by show B = true; rw [HBB.out]; simp [Ne.symm he1]
    go_enter Tryz.func60, Tryz.ntmps60
    go_wp2_with fail
    rw [HWA.out]
    go_region_held3 (fun w' => (w'.cell? ⟨b, 0, none⟩ = some (.slice an ls.length cn) ∧ w'.cell? ⟨b, 1, none⟩ = some (.slice ao l.length co) ∧ w'.cell? ⟨b, 2, none⟩ = some (.slice as0 bs.length cs) ∧ w'.cell? ⟨b, 3, none⟩ = some (.slice (some ⟨gr, or', none⟩) rs.length cr)) ∧ (w'.cell? ⟨w.heap.size, 0, none⟩ = some (.int .i64 (j : Int)) ∧ w'.cell? ⟨w.heap.size, 1, none⟩ = some (.slice a2 nx c2) ∧ w'.cell? ⟨w.heap.size, 2, none⟩ = some (.string ⟨x2.toArray⟩) ∧ w'.cell? ⟨w.heap.size, 3, none⟩ = some (.int .i64 x3)) ∧ w'.cell? ⟨gr, or' + j, none⟩ = some (.slice ar2 nr cr2)) (first | exact ks)
      (first
        | (go_at_call 61; refine HCM.out.mono ?_; rintro e w8 ⟨rfl, hb8⟩
           have ks := HKS.out w8 hb8
           have C8 := Lib.hid hb8
           clear hb8))
    all_goals
      have HB8 := Lib.hid (bth HA.out C8.out (Nat.le_refl _))
      clear ks
      go_wp2_with fail
      go_ret
      exact ⟨by rw [HE.out] <;> rfl, HB8.out⟩

set_option maxRecDepth 20000 in
set_option maxHeartbeats 8000000 in
theorem implTrue9_any (ls : List (List Int)) (l : List Int) (bs : List Bool) (rs : List (List OpT)) (T : List TrT) (v x : Value) (w : World) (hp : PlanV w v ls l bs rs) (hT : RowT w x T) (hx : ∀ l ∈ rs, ∀ f ∈ l, f.2.2.length ≤ maxLen) (hxT : ∀ t ∈ T, HeldT maxLen t) :
    Calls Tryz.prog 14 #[v, x] w fun e w' => e = .returned (.tuple #[.bool (trueB ls l bs rs T), .bool (goodT ls l bs rs T)]) ∧ Below w.heap.size w w' := by
  have HV := Lib.hid hp
  obtain ⟨nv, ov, sv, rv, rfl, h1, h2, h3, h4⟩ := hp
  obtain ⟨as0, cs, rfl, hs1, hs2, hats⟩ := h3.boolsW
  obtain ⟨an, cn, rfl, hn1, hn2, hatn⟩ := h1.lists
  obtain ⟨ao, co, rfl, ho1, ho2, hato⟩ := h2.ints
  obtain ⟨ar, cr, rfl, hr1, hr2, hatr⟩ := h4.lists
  clear h1 h2 h3 h4
  unfold maxLen at hs2 hn2 ho2 hr2
  obtain ⟨wa, hwa⟩ : ∃ wa, wa = w.alloc (.cells #[.slice an ls.length cn, .slice ao l.length co, .slice as0 bs.length cs, .slice ar rs.length cr] 30) := ⟨_, rfl⟩
  have hsz : w.heap.size < wa.heap.size := by rw [hwa]; simp
  have P0 : Hid (Blk4 wa w.heap.size 30 (.slice an ls.length cn) (.slice ao l.length co) (.slice as0 bs.length cs) (.slice ar rs.length cr)) := by rw [hwa]; exact Blk4.new
  have HA : Hid (Below w.heap.size w wa) := by rw [hwa]; exact (Below.refl w.heap.size w).alloc (Nat.le_refl _) _
  have HWA : Hid (w.alloc (.cells #[.slice an ls.length cn, .slice ao l.length co, .slice as0 bs.length cs, .slice ar rs.length cr] 30) = wa) := by rw [hwa]; rfl
  have HVW : Hid (∀ W, Below wa.heap.size wa W → PlanV W (.agg #[.slice an ls.length cn, .slice ao l.length co, .slice as0 bs.length cs, .slice ar rs.length cr]) ls l bs rs) := fun W h => HV.out.below (bth HA.out h (Nat.le_refl _))
  clear hwa
  have HTR := Lib.hid hT
  obtain ⟨a, cap, rfl, hc1, hc2, hat⟩ := hT.traces
  unfold maxLen at hc2
  obtain ⟨b, hb⟩ : ∃ b, goodT ls l bs rs T = b := ⟨_, rfl⟩
  have HC := Lib.hid (implGood9_b hb _ _ wa (HVW.out wa (Below.refl _ _)) (HTR.out.below HA.out) hx hxT)
  have HGB := Lib.hid hb
  obtain ⟨R, hR⟩ : ∃ R, trueB ls l bs rs T = R := ⟨_, rfl⟩
  have HRR : Hid (R = (b && TrueA rs T)) := by rw [← hR]; show _ = _; unfold trueB; rw [hb]
  rw [hR, hb]
  obtain ⟨c0, c1, c2', c3⟩ := P0.out.cells
  clear hT hat hx hxT hats hatn hato hatr hb hR
  rcases b with _ | _
  · have HE : Hid (R = false) := HRR.out
    go_enter Tryz.func14, Tryz.ntmps14
    go_wp2_with fail
    rw [HWA.out]
    refine HC.out.mono ?_
    rintro e w1 ⟨rfl, hb1⟩
    have HB1 := Lib.hid (bth HA.out hb1 (Nat.le_refl _))
    clear hb1 c0 c1 c2' c3
    go_wp2_with fail
    go_ret2
    exact ⟨by rw [HE.out] <;> rfl, HB1.out⟩
  have HF : Hid (∀ W, Below wa.heap.size wa W → Calls Tryz.prog 62 #[.slice a T.length cap, .func (.func 60) #[] #[.pointer (some ⟨w.heap.size, 0, none⟩)]] W (BoolPost (!R) W)) := fun W h => by
    have e : (!R) = T.any (fun t => !trueP rs t) := by
      rw [HRR.out]
      unfold TrueA
      rw [Bool.true_and, List.any_eq_not_all_not]
      simp
    rw [e]
    refine containsT_any T _ (fun t => traceA ls bs t = true) _ _ W (HTR.out.below (bth HA.out h (Nat.le_refl _))) ⟨60, #[.pointer (some ⟨w.heap.size, 0, none⟩)], rfl, enters_of Tryz.func60 (by kernel_rfl) rfl, fun W2 h2 y t hy ht => ?_⟩ (goodT_all HGB.out)
    exact isFalse_any ls l bs rs T w.heap.size t y W2 an ao as0 ar cn co cs cr (HVW.out W2 (bth h h2 (Nat.le_refl _))) (P0.out.below (bth h h2 (Nat.le_refl _)) hsz) hy (goodT_parts HGB.out).1 ht
  have hmf : ∀ (fn : Fn) (first cap : Array Value) (w : World), (Instr.makeFunc fn first cap).run Tryz.prog w = .ok (.func fn first cap) w := fun _ _ _ _ => rfl
  go_enter Tryz.func14, Tryz.ntmps14
  go_wp2_with fail
  rw [HWA.out]
  refine HC.out.mono ?_
  rintro e w1 ⟨rfl, hb1⟩
  have K1 := Lib.hid hb1
  clear hb1 c0 c1 c2' c3
  go_wp2_with fail
  refine (HF.out w1 K1.out).mono ?_
  rintro e w2 ⟨rfl, hb2⟩
  have K2 := Lib.hid (bth K1.out hb2 (Nat.le_refl _))
  clear hb2
  go_wp2_with fail
  go_ret2
  exact ⟨by simp, bth HA.out K2.out (Nat.le_refl _)⟩

end Go.Proofs.YtngldlconipnnaaGreatDoor
