/- Walks: the laws' copies of files, and whether they are the same. -/
import Derived.Test.YtoahfhidekmodaaDoorQg
namespace Go.Proofs.YtoahfhidekmodaaDoor
open Go.RowKit Pth

set_option maxRecDepth 20000 in
set_option maxHeartbeats 1000000 in
theorem toFileS_any (l : List FileT) (v : Value) (w : World) (hrow : RowF w v l) (hl : l.length ≤ 2000000) :
    Calls Tryd.prog 9 #[v] w (FilesPost l w) := by
  obtain ⟨a, cap, rfl, hc1, hc2, hat⟩ := hrow.files
  clear hrow
  unfold maxLen at hc2
  obtain ⟨w0, hmk, hown0, hb0⟩ := make_rowF l.length w hl
  have HN0 := Lib.hid hown0
  have HB0 := Lib.hid hb0
  clear hown0 hb0
  go_enter Tryd.func9, Tryd.ntmps9
  go_wp2_with fail
  clear hmk
  go_loopw [4] (fun i wr => ∃ k : Nat, k ≤ l.length ∧ i = .int .i64 k ∧ Hid (wr.ownsRow w.heap.size 45 2 (.slice (some ⟨w.heap.size, 0, none⟩) l.length l.length) l.length (FC (l.take k) ++ FC (List.replicate (l.length - k) noFile))) ∧ Hid (Below w.heap.size w wr)) (fun i _ => l.length - (intOf i).toNat)
  case atStart => exact ⟨0, Nat.zero_le _, rfl, HN0, HB0⟩
  case round =>
    clear HN0 HB0
    obtain ⟨k, hk, rfl, HN, HB⟩ := hrel
    have hbs := HB.out.size
    by_cases hlt : k < l.length
    · obtain ⟨g, o, rfl, hg, hcell1, hcell2⟩ := hat k hlt
      have hc1' : wr.cell? ⟨g, o + k * 2, none⟩ = some (.string ⟨(l[k]).1.toArray⟩) := by rw [HB.out.cell (p := ⟨g, o + k * 2, none⟩) hg]; exact hcell1
      have hc2' : wr.cell? ⟨g, o + k * 2 + 1, none⟩ = some (.string ⟨(l[k]).2.toArray⟩) := by rw [HB.out.cell (p := ⟨g, o + k * 2 + 1, none⟩) hg]; exact hcell2
      have HC := Lib.hid (fun W => toFile_any l[k].1 l[k].2 W)
      have ht : (l.take k).length = k := by rw [List.length_take]; omega
      have er : List.replicate (l.length - k) noFile = noFile :: List.replicate (l.length - (k + 1)) noFile := by rw [show l.length - k = (l.length - (k + 1)) + 1 by omega, List.replicate_succ]
      rw [er] at HN
      have HE := Lib.hid (set_two (l.take k) k ht noFile (List.replicate (l.length - (k + 1)) noFile) l[k].1 l[k].2)
      have HE2 := Lib.hid (get_two (l.take k) k ht noFile (List.replicate (l.length - (k + 1)) noFile))
      have HT : Hid (l.take k ++ [(l[k].1, l[k].2)] = l.take (k + 1)) := (List.take_succ_eq_append_getElem hlt).symm
      rw [HT.out] at HE
      clear hcell1 hcell2 hat HT er ht
      generalize l[k].1 = x at hc1' HC HE
      generalize l[k].2 = y at hc2' HC HE
      unfold fileV at HC
      go_wp2_with fail
      refine (HC.out _).mono ?_
      rintro e w1 ⟨rfl, hb1⟩
      have HN1 := Lib.hid (own_belowG HN.out hb1)
      have HB1 := Lib.hid (HB.out.trans (hb1.mono HB.out.size))
      have hfz := HN1.out.frozenAt (k * 2)
      have hfz2 := HN1.out.frozenAt (k * 2 + 1)
      have hcz : w1.cell? ⟨w.heap.size, k * 2, none⟩ = some (.string ByteArray.empty) := by rw [HN1.out.cellAt (k * 2) (by omega), HE2.out.1]; rfl
      have hcz2 : w1.cell? ⟨w.heap.size, k * 2 + 1, none⟩ = some (.string ByteArray.empty) := by rw [HN1.out.cellAt (k * 2 + 1) (by omega), HE2.out.2]; rfl
      have hst := HN1.out.stored (k * 2) (.string ⟨x.toArray⟩)
      have hst2 := hst.1.stored (k * 2 + 1) (.string ⟨y.toArray⟩)
      rw [HE.out] at hst2
      have HN2 := Lib.hid hst2.1
      have HB2 := Lib.hid ((HB1.out.trans (only_below hst.2 (Nat.le_refl _) HB1.out.size)).trans (only_below hst2.2 (Nat.le_refl _) (Nat.le_trans HB1.out.size hst.2.size)))
      clear hst hst2 HN HB HC HE HE2 HN1 HB1 hb1
      go_wp2_with fail
      go_roundw
      case rel => exact ⟨k + 1, by omega, by go_num, HN2, HB2⟩
      case measure => simp [intOf]; omega
    · have HN1 : Hid (wr.ownsRow w.heap.size 45 2 (.slice (some ⟨w.heap.size, 0, none⟩) l.length l.length) l.length (FC l)) := by
        have := HN.out
        rw [List.take_of_length_le (by omega), show l.length - k = 0 by omega] at this
        simpa [FC, Hid] using this
      clear HN hat
      go_wp2_with fail
      go_ret
      exact ⟨_, rfl, HN1.out, HB.out⟩

end Go.Proofs.YtoahfhidekmodaaDoor
