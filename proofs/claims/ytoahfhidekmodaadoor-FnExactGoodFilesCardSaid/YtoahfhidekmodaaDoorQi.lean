/- Walks: whether files are the same, as the laws ask it. -/
import Derived.Test.YtoahfhidekmodaaDoorQh
namespace Go.Proofs.YtoahfhidekmodaaDoor
open Go.RowKit Pth

theorem eqFile_b {x y x' y' : List UInt8} {b : Bool} (h : decide ((x, y) = (x', y')) = b) (w : World) :
    Calls Tryd.prog 26 #[.agg #[.string ⟨x.toArray⟩, .string ⟨y.toArray⟩], .agg #[.string ⟨x'.toArray⟩, .string ⟨y'.toArray⟩]] w fun e w' => e = .returned (.bool b) ∧ Below w.heap.size w w' := by
  have := eqFile_any x y x' y' w
  rw [h] at this
  exact this

set_option maxRecDepth 20000 in
set_option maxHeartbeats 2000000 in
theorem eqFileS_any (l m : List FileT) (v u : Value) (w : World) (hr1 : RowF w v l) (hr2 : RowF w u m) (hl : l.length ≤ 2000000) :
    Calls Tryd.prog 11 #[v, u] w fun e w' => e = .returned (.bool (decide (l = m))) ∧ Below w.heap.size w w' := by
  obtain ⟨a, cap, rfl, hc1, hc2, hat⟩ := hr1.files
  obtain ⟨a2, cap2, rfl, hc3, hc4, hat2⟩ := hr2.files
  clear hr1 hr2
  unfold maxLen at hc2 hc4
  by_cases hlen : l.length = m.length
  · have hlen1 : ((l.length : Int) != (m.length : Int)) = false := by simp [hlen]
    have hle1 : l.length ≤ m.length := by omega
    have hle2 : m.length ≤ l.length := by omega
    clear hlen
    go_enter Tryd.func11, Tryd.ntmps11
    go_wp2_with fail
    go_loopw [5] (fun i wr => ∃ k : Nat, k ≤ l.length ∧ i = .int .i64 k ∧ Hid (l.take k = m.take k) ∧ Hid (Below w.heap.size w wr)) (fun i _ => l.length - (intOf i).toNat)
    case atStart => exact ⟨0, Nat.zero_le _, rfl, rfl, Below.refl _ _⟩
    case round =>
      obtain ⟨k, hk, rfl, HO, HB⟩ := hrel
      by_cases hlt : k < l.length
      · obtain ⟨g, o, rfl, hg, hcell1, hcell2⟩ := hat k hlt
        obtain ⟨g2, o2, rfl, hg2, hcell3, hcell4⟩ := hat2 k (by omega)
        have s1 := (HB.out.cell (p := ⟨g, o + k * 2, none⟩) hg).trans hcell1
        have s2 := (HB.out.cell (p := ⟨g, o + k * 2 + 1, none⟩) hg).trans hcell2
        have s3 := (HB.out.cell (p := ⟨g2, o2 + k * 2, none⟩) hg2).trans hcell3
        have s4 := (HB.out.cell (p := ⟨g2, o2 + k * 2 + 1, none⟩) hg2).trans hcell4
        have hi1 : (k : Int) < (l.length : Int) := by omega
        have hi2 : (k : Int) < (m.length : Int) := by omega
        have hbs := HB.out.size
        have hgw : g < wr.heap.size := by omega
        have hgw2 : g2 < wr.heap.size := by omega
        have e1 : l[k] = (l[k].1, l[k].2) := rfl
        have e2 : m[k] = (m[k].1, m[k].2) := rfl
        clear hcell1 hcell2 hcell3 hcell4 hat hat2
        by_cases he : l[k] = m[k]
        · have HS := Lib.hid (same_next HO.out hlt (by omega) he)
          rw [e1, e2] at he
          have HC := Lib.hid (fun W => eqFile_b (decide_eq_true he) W)
          clear HO e1 e2 he
          generalize l[k].1 = x at s1 HC
          generalize l[k].2 = y at s2 HC
          generalize m[k].1 = x' at s3 HC
          generalize m[k].2 = y' at s4 HC
          go_wp2_with fail
          go_region_held3 (fun w' => w'.cell? ⟨g, o + k * 2, none⟩ = some (.string ⟨x.toArray⟩) ∧ w'.cell? ⟨g, o + k * 2 + 1, none⟩ = some (.string ⟨y.toArray⟩) ∧ w'.cell? ⟨g2, o2 + k * 2, none⟩ = some (.string ⟨x'.toArray⟩) ∧ w'.cell? ⟨g2, o2 + k * 2 + 1, none⟩ = some (.string ⟨y'.toArray⟩)) (first | exact ⟨s1, s2, s3, s4⟩ | exact ks)
            (first | (go_at_call 26; refine (HC.out _).mono ?_; rintro e w5 ⟨rfl, hb5⟩; have ks := And.intro ((hb5.cell (p := ⟨g, o + k * 2, none⟩) hgw).trans s1) (And.intro ((hb5.cell (p := ⟨g, o + k * 2 + 1, none⟩) hgw).trans s2) (And.intro ((hb5.cell (p := ⟨g2, o2 + k * 2, none⟩) hgw2).trans s3) ((hb5.cell (p := ⟨g2, o2 + k * 2 + 1, none⟩) hgw2).trans s4)))))
          have HB5 := Lib.hid ((Below.drew HB.out).trans (hb5.mono HB.out.size))
          clear hb5 ks
          go_wp2_with fail
          go_roundw
          case rel => exact ⟨k + 1, by omega, by go_num, HS, HB5⟩
          case measure => simp [intOf]; omega
        · have HS : Hid (decide (l = m) = false) := decide_eq_false (same_not hlt (by omega) he)
          rw [e1, e2] at he
          have HC := Lib.hid (fun W => eqFile_b (decide_eq_false he) W)
          clear HO e1 e2 he
          generalize l[k].1 = x at s1 HC
          generalize l[k].2 = y at s2 HC
          generalize m[k].1 = x' at s3 HC
          generalize m[k].2 = y' at s4 HC
          go_wp2_with fail
          go_region_held3 (fun w' => w'.cell? ⟨g, o + k * 2, none⟩ = some (.string ⟨x.toArray⟩) ∧ w'.cell? ⟨g, o + k * 2 + 1, none⟩ = some (.string ⟨y.toArray⟩) ∧ w'.cell? ⟨g2, o2 + k * 2, none⟩ = some (.string ⟨x'.toArray⟩) ∧ w'.cell? ⟨g2, o2 + k * 2 + 1, none⟩ = some (.string ⟨y'.toArray⟩)) (first | exact ⟨s1, s2, s3, s4⟩ | exact ks)
            (first | (go_at_call 26; refine (HC.out _).mono ?_; rintro e w5 ⟨rfl, hb5⟩; have ks := And.intro ((hb5.cell (p := ⟨g, o + k * 2, none⟩) hgw).trans s1) (And.intro ((hb5.cell (p := ⟨g, o + k * 2 + 1, none⟩) hgw).trans s2) (And.intro ((hb5.cell (p := ⟨g2, o2 + k * 2, none⟩) hgw2).trans s3) ((hb5.cell (p := ⟨g2, o2 + k * 2 + 1, none⟩) hgw2).trans s4)))))
          have HB5 := Lib.hid ((Below.drew HB.out).trans (hb5.mono HB.out.size))
          clear hb5 ks
          go_wp2_with fail
          go_ret
          exact ⟨ret_bool HS.out.symm, HB5.out⟩
      · have HS : Hid (decide (l = m) = true) := decide_eq_true (same_all HO.out (by omega) (by omega))
        clear HO hat hat2
        go_wp2_with fail
        go_ret
        exact ⟨ret_bool HS.out.symm, HB.out⟩
  · have hlen1 : ((l.length : Int) != (m.length : Int)) = true := by simp; omega
    have HS : Hid (decide (l = m) = false) := decide_eq_false (fun h => hlen (by rw [h]))
    clear hat hat2
    go_enter Tryd.func11, Tryd.ntmps11
    go_wp2_with fail
    go_ret
    exact ⟨ret_bool HS.out.symm, Below.refl _ _⟩

end Go.Proofs.YtoahfhidekmodaaDoor
