/- Walks: the laws' helpers on lists of files. -/
import Derived.Test.YtoahfhidekmodaaDoorGc
import Derived.Test.YtoahfhidekmodaaDoorQf
namespace Go.Proofs.YtoahfhidekmodaaDoor
open Go.RowKit Pth

def noFile : FileT := ([], [])
theorem FC_cons (f : FileT) (l : List FileT) : FC (f :: l) = .string ⟨f.1.toArray⟩ :: .string ⟨f.2.toArray⟩ :: FC l := rfl
theorem FC_zero (n : Nat) : FC (List.replicate n noFile) = List.replicate (n * 2) (.string ByteArray.empty) := by
  induction n with
  | zero => rfl
  | succ n ih => rw [List.replicate_succ, FC_cons, ih, Nat.add_mul, Nat.one_mul, List.replicate_succ, List.replicate_succ]; rfl
theorem made_two (z : Value) (m : Nat) : (madeCells #[z, z] m).toList = List.replicate m z := by
  apply List.ext_getElem?
  intro j
  by_cases hj : j < m
  · have : j % 2 = 0 ∨ j % 2 = 1 := by omega
    rcases this with h | h <;> simp [madeCells, hj, h]
  · simp [madeCells, hj]
theorem make_rowF (n : Nat) (w : World) (hn : n ≤ 2000000) :
    ∃ w', (Instr.makeSlice 25 (.int .i64 (n : Int)) (.int .i64 (n : Int))).run Tryd.prog w = .ok (.slice (some ⟨w.heap.size, 0, none⟩) n n) w' ∧
      w'.ownsRow w.heap.size 45 2 (.slice (some ⟨w.heap.size, 0, none⟩) n n) n (FC (List.replicate n noFile)) ∧ Below w.heap.size w w' := by
  obtain ⟨i0, hi, hz0, hz1, hz2⟩ := info_parts elemF.info
  obtain ⟨w', h1, h2, h3⟩ := run_makeSlice_full (P := Tryd.prog) w w.heap.size _ _ i0 _ 2 elemF.under hi hz0 hz1 .i64 .i64 n (by omega) (by rw [hz2]; exact Nat.le_trans (Nat.mul_le_mul elemF.small hn) (by decide)) (by unfold maxLen; omega) (Nat.le_refl _)
  rw [FC_zero, ← made_two]
  exact ⟨w', h1, h2, (Below.refl _ w).grown h3 (Nat.le_refl _) (fun k hk => by cases hk)⟩
theorem set_two (a : List FileT) (k : Nat) (ha : a.length = k) (p : FileT) (rest : List FileT) (x y : List UInt8) :
    ((FC a ++ FC (p :: rest)).set (k * 2) (.string ⟨x.toArray⟩)).set (k * 2 + 1) (.string ⟨y.toArray⟩) = FC (a ++ [(x, y)]) ++ FC rest := by
  have hl : (FC a).length = k * 2 := by rw [FC_len, ha]
  rw [List.set_append_right _ _ (by omega), hl, Nat.sub_self, List.set_append_right _ _ (by omega), hl, show k * 2 + 1 - k * 2 = 1 by omega, FC_append]
  simp [FC, fileC]
theorem get_two (a : List FileT) (k : Nat) (ha : a.length = k) (p : FileT) (rest : List FileT) :
    (FC a ++ FC (p :: rest))[k * 2]? = some (.string ⟨p.1.toArray⟩) ∧ (FC a ++ FC (p :: rest))[k * 2 + 1]? = some (.string ⟨p.2.toArray⟩) := by
  have hl : (FC a).length = k * 2 := by rw [FC_len, ha]
  rw [List.getElem?_append_right (by omega), hl, Nat.sub_self, List.getElem?_append_right (by omega), hl, show k * 2 + 1 - k * 2 = 1 by omega]
  exact ⟨rfl, rfl⟩

set_option maxRecDepth 20000 in
set_option maxHeartbeats 1000000 in
theorem szFileS_any (l : List FileT) (left : Nat) (v : Value) (w : World) (hrow : RowF w v l) (hx : ∀ f ∈ l, f.1.length ≤ maxLen ∧ f.2.length ≤ maxLen) (hl : left ≤ 2000000) :
    Calls Tryd.prog 7 #[v, .int .i64 (left : Int)] w fun e w' => ∃ r : Int, e = .returned (.int .i64 r) ∧ (0 ≤ r → r + l.length ≤ left ∧ ∀ f ∈ l, f.1.length ≤ left ∧ f.2.length ≤ left) ∧ Below w.heap.size w w' := by
  obtain ⟨a, cap, rfl, hc1, hc2, hat⟩ := hrow.files
  clear hrow
  unfold maxLen at hc2
  by_cases hlen : l.length ≤ left
  · have hlen1 : decide ((left : Int) - (l.length : Int) < 0) = false := by simp; omega
    go_enter Tryd.func7, Tryd.ntmps7
    go_wp2_with fail
    go_loopw [1, 5] (fun q i wr => ∃ (k r : Nat), k ≤ l.length ∧ r + l.length ≤ left ∧ q = .int .i64 r ∧ i = .int .i64 k ∧ Hid (∀ f ∈ l.take k, f.1.length ≤ left ∧ f.2.length ≤ left) ∧ Hid (Below w.heap.size w wr)) (fun _ i _ => l.length - (intOf i).toNat)
    case atStart => exact ⟨0, left - l.length, Nat.zero_le _, by omega, by go_num, rfl, by simp [Hid], Below.refl _ _⟩
    case round =>
      obtain ⟨k, r, hk, hr1, rfl, rfl, HO, HB⟩ := hrel
      by_cases hlt : k < l.length
      · obtain ⟨g, o, rfl, hg, hcell1, hcell2⟩ := hat k hlt
        have hc1' : wr.cell? ⟨g, o + k * 2, none⟩ = some (.string ⟨(l[k]).1.toArray⟩) := by rw [HB.out.cell (p := ⟨g, o + k * 2, none⟩) hg]; exact hcell1
        have hc2' : wr.cell? ⟨g, o + k * 2 + 1, none⟩ = some (.string ⟨(l[k]).2.toArray⟩) := by rw [HB.out.cell (p := ⟨g, o + k * 2 + 1, none⟩) hg]; exact hcell2
        have hxl := hx l[k] (List.getElem_mem hlt)
        have HC := Lib.hid (szFile_any l[k].1 l[k].2 r wr hxl.1 hxl.2 (by omega))
        have HS : Hid (l[k].1.length ≤ left → l[k].2.length ≤ left → ∀ f ∈ l.take (k + 1), f.1.length ≤ left ∧ f.2.length ≤ left) := by
          intro h1 h2 f hf
          rw [List.take_succ_eq_append_getElem hlt, List.mem_append, List.mem_singleton] at hf
          rcases hf with h | h
          · exact HO.out f h
          · rw [h]; exact ⟨h1, h2⟩
        clear hcell1 hcell2 hat HO hx hxl
        generalize l[k].1 = x at hc1' HC HS
        generalize l[k].2 = y at hc2' HC HS
        unfold fileV at HC
        go_wp2_with fail
        refine HC.out.mono ?_
        rintro e w1 ⟨r1, rfl, hle, hif, hb1⟩
        have HB1 := Lib.hid (HB.out.trans (hb1.mono HB.out.size))
        clear hb1 HC
        by_cases h0 : 0 ≤ r1
        · obtain ⟨r2, rfl⟩ : ∃ r2 : Nat, r1 = r2 := ⟨r1.toNat, by omega⟩
          have hd : decide ((r2 : Int) < 0) = false := decide_eq_false (by omega)
          have HS2 := Lib.hid (HS.out (by have := (hif h0).1; omega) (by have := (hif h0).2; omega))
          clear HS hif
          go_wp2_with fail
          go_roundw
          case rel => exact ⟨k + 1, r2, by omega, by omega, rfl, by go_num, HS2, HB1⟩
          case measure => simp [intOf]; omega
        · have hd : decide (r1 < 0) = true := decide_eq_true (by omega)
          clear HS hif
          go_wp2_with fail
          go_ret
          exact ⟨-1, rfl, fun h => by omega, HB1.out⟩
      · have HS : Hid (∀ f ∈ l, f.1.length ≤ left ∧ f.2.length ≤ left) := by have := HO.out; rw [List.take_of_length_le (by omega)] at this; exact this
        clear hat HO hx
        go_wp2_with fail
        go_ret
        exact ⟨r, rfl, fun _ => ⟨by omega, HS.out⟩, HB.out⟩
  · have hlen1 : decide ((left : Int) - (l.length : Int) < 0) = true := by simp; omega
    clear hat hx
    go_enter Tryd.func7, Tryd.ntmps7
    go_wp2_with fail
    go_ret
    exact ⟨-1, rfl, fun h => by omega, Below.refl _ _⟩

end Go.Proofs.YtoahfhidekmodaaDoor
