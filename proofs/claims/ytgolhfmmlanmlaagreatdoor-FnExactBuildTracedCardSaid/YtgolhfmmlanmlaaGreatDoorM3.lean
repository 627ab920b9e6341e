/- Texts of one claim, joined in their order. -/
import Derived.Test.YtgolhfmmlanmlaaGreatDoorM2

/- Walks: the laws' helpers on lists of ops: how much they hold, copies, whether they are the same. -/
namespace Go.Proofs.YtgolhfmmlanmlaaGreatDoor
open Go.RowKit Pth

def noOp : OpT := (0, 0, [])
/-- Ops are handed back, in memory of the call's own. -/
def OpsPost (l : List OpT) (w : World) (e : Ending) (w' : World) : Prop :=
  ∃ v, e = .returned v ∧ w'.ownsRow w.heap.size 141 3 v l.length (OC l) ∧ Below w.heap.size w w'
theorem OC_zero (n : Nat) : OC (List.replicate n noOp) = (madeCells #[.int .i64 0, .int .i64 0, .string ByteArray.empty] (n * 3)).toList := by
  apply List.ext_getElem?
  intro j
  by_cases hj : j < n * 3
  · have hd : j / 3 < n := by omega
    obtain ⟨q0, q1, q2⟩ := OC_at (l := List.replicate n noOp) (k := j / 3) (by simpa using hd)
    have hm : j % 3 = 0 ∨ j % 3 = 1 ∨ j % 3 = 2 := by omega
    rcases hm with h | h | h
    · rw [show j = j / 3 * 3 by omega, q0]
      simp [madeCells, noOp, hd]
    · rw [show j = j / 3 * 3 + 1 by omega, q1]
      have e : (j / 3 * 3 + 1) % 3 = 1 := by omega
      have e2 : j / 3 * 3 + 1 < n * 3 := by omega
      simp [madeCells, noOp, e, e2]
    · rw [show j = j / 3 * 3 + 2 by omega, q2]
      have e : (j / 3 * 3 + 2) % 3 = 2 := by omega
      have e2 : j / 3 * 3 + 2 < n * 3 := by omega
      simp [madeCells, noOp, e, e2]; rfl
  · rw [List.getElem?_eq_none (by rw [OC_len]; simp; omega)]
    simp [madeCells, hj]
theorem make_rowO (n : Nat) (w : World) (hn : n ≤ 2000000) :
    ∃ w', (Instr.makeSlice 114 (.int .i64 (n : Int)) (.int .i64 (n : Int))).run Tryz.prog w = .ok (.slice (some ⟨w.heap.size, 0, none⟩) n n) w' ∧
      w'.ownsRow w.heap.size 141 3 (.slice (some ⟨w.heap.size, 0, none⟩) n n) n (OC (List.replicate n noOp)) ∧ Below w.heap.size w w' := by
  obtain ⟨i0, hi, hz0, hz1, hz2⟩ := info_parts elemO.info
  obtain ⟨w', h1, h2, h3⟩ := run_makeSlice_full (P := Tryz.prog) w w.heap.size _ _ i0 _ 3 elemO.under hi hz0 hz1 .i64 .i64 n (by omega) (by rw [hz2]; exact Nat.le_trans (Nat.mul_le_mul elemO.small hn) (by decide)) (by unfold maxLen; omega) (Nat.le_refl _)
  rw [OC_zero]
  exact ⟨w', h1, h2, (Below.refl _ w).grown h3 (Nat.le_refl _) (fun k hk => by cases hk)⟩
theorem set_three (a : List OpT) (k : Nat) (ha : a.length = k) (p : OpT) (rest : List OpT) (x : OpT) :
    (((OC a ++ OC (p :: rest)).set (k * 3) (.int .i64 x.1)).set (k * 3 + 1) (.int .i64 x.2.1)).set (k * 3 + 2) (.string ⟨x.2.2.toArray⟩) = OC (a ++ [x]) ++ OC rest := by
  have hl : (OC a).length = k * 3 := by rw [OC_len, ha]
  rw [List.set_append_right _ _ (by omega), hl, Nat.sub_self, List.set_append_right _ _ (by omega), hl, show k * 3 + 1 - k * 3 = 1 by omega, List.set_append_right _ _ (by omega), hl, show k * 3 + 2 - k * 3 = 2 by omega, OC_append]
  simp [OC, opC]
theorem get_three (a : List OpT) (k : Nat) (ha : a.length = k) (p : OpT) (rest : List OpT) :
    (OC a ++ OC (p :: rest))[k * 3]? = some (.int .i64 p.1) ∧ (OC a ++ OC (p :: rest))[k * 3 + 1]? = some (.int .i64 p.2.1) ∧ (OC a ++ OC (p :: rest))[k * 3 + 2]? = some (.string ⟨p.2.2.toArray⟩) := by
  have hl : (OC a).length = k * 3 := by rw [OC_len, ha]
  rw [List.getElem?_append_right (by omega), hl, Nat.sub_self, List.getElem?_append_right (by omega), hl, show k * 3 + 1 - k * 3 = 1 by omega, List.getElem?_append_right (by omega), hl, show k * 3 + 2 - k * 3 = 2 by omega]
  exact ⟨rfl, rfl, rfl⟩

set_option maxRecDepth 20000 in
set_option maxHeartbeats 1000000 in
theorem szOpS_any (l : List OpT) (left : Nat) (v : Value) (w : World) (hrow : RowO w v l) (hx : ∀ f ∈ l, f.2.2.length ≤ maxLen) (hl : left ≤ 2000000) :
    Calls Tryz.prog 71 #[v, .int .i64 (left : Int)] w fun e w' => ∃ r : Int, e = .returned (.int .i64 r) ∧ r ≤ left ∧ (0 ≤ r → r + l.length ≤ left ∧ ∀ f ∈ l, f.2.2.length ≤ left) ∧ Below w.heap.size w w' := by
  obtain ⟨a, cap, rfl, hc1, hc2, hat⟩ := hrow.ops
  clear hrow
  unfold maxLen at hc2
  by_cases hlen : l.length ≤ left
  · have hlen1 : decide ((left : Int) - (l.length : Int) < 0) = false := by simp; omega
    go_enter Tryz.func71, Tryz.ntmps71
    go_wp2_with fail
    go_loopw [1, 5] (fun q i wr => ∃ (k r : Nat), k ≤ l.length ∧ r + l.length ≤ left ∧ q = .int .i64 r ∧ i = .int .i64 k ∧ Hid (∀ f ∈ l.take k, f.2.2.length ≤ left) ∧ Hid (Below w.heap.size w wr)) (fun _ i _ => l.length - (intOf i).toNat)
    case atStart => exact ⟨0, left - l.length, Nat.zero_le _, by omega, by go_num, rfl, by simp [Hid], Below.refl _ _⟩
    case round =>
      obtain ⟨k, r, hk, hr1, rfl, rfl, HO, HB⟩ := hrel
      by_cases hlt : k < l.length
      · obtain ⟨g, o, rfl, hg, hcell1, hcell2, hcell3⟩ := hat k hlt
        have s1 := (HB.out.cell (p := ⟨g, o + k * 3, none⟩) hg).trans hcell1
        have s2 := (HB.out.cell (p := ⟨g, o + k * 3 + 1, none⟩) hg).trans hcell2
        have s3 := (HB.out.cell (p := ⟨g, o + k * 3 + 2, none⟩) hg).trans hcell3
        have hxl := hx l[k] (List.getElem_mem hlt)
        have HC := Lib.hid (szOp_any l[k] r wr hxl (by omega))
        have HS : Hid (l[k].2.2.length ≤ left → ∀ f ∈ l.take (k + 1), f.2.2.length ≤ left) := by
          intro h1 f hf
          rw [List.take_succ_eq_append_getElem hlt, List.mem_append, List.mem_singleton] at hf
          rcases hf with h | h
          · exact HO.out f h
          · rw [h]; exact h1
        clear hcell1 hcell2 hcell3 hat HO hx hxl
        generalize l[k] = x at s1 s2 s3 HC HS
        obtain ⟨x1, x2, x3⟩ := x
        unfold opV at HC
        simp only at s1 s2 s3 HC HS
        go_wp2_with fail
        refine HC.out.mono ?_
        rintro e w1 ⟨r1, rfl, hle, hif, hb1⟩
        have HB1 := Lib.hid (HB.out.trans (hb1.mono HB.out.size))
        clear hb1 HC
        by_cases h0 : 0 ≤ r1
        · obtain ⟨r2, rfl⟩ : ∃ r2 : Nat, r1 = r2 := ⟨r1.toNat, by omega⟩
          have hd : decide ((r2 : Int) < 0) = false := decide_eq_false (by omega)
          have HS2 := Lib.hid (HS.out (by have := (hif h0); omega))
          clear HS hif
          go_wp2_with fail
          go_roundw
          case rel => exact ⟨k + 1, r2, by omega, by omega, rfl, by go_num, HS2, HB1⟩
          case measure => simp [intOf]; omega
        · have hd : decide (r1 < 0) = true := decide_eq_true (by omega)
          clear HS hif
          go_wp2_with fail
          go_ret
          exact ⟨-1, rfl, by omega, fun h => by omega, HB1.out⟩
      · have HS : Hid (∀ f ∈ l, f.2.2.length ≤ left) := by have := HO.out; rw [List.take_of_length_le (by omega)] at this; exact this
        clear hat HO hx
        go_wp2_with fail
        go_ret
        exact ⟨r, rfl, by omega, fun _ => ⟨by omega, HS.out⟩, HB.out⟩
  · have hlen1 : decide ((left : Int) - (l.length : Int) < 0) = true := by simp; omega
    clear hat hx
    go_enter Tryz.func71, Tryz.ntmps71
    go_wp2_with fail
    go_ret
    exact ⟨-1, rfl, by omega, fun h => by omega, Below.refl _ _⟩

set_option maxRecDepth 20000 in
set_option maxHeartbeats 1000000 in
theorem toOpS_any (l : List OpT) (v : Value) (w : World) (hrow : RowO w v l) (hl : l.length ≤ 2000000) :
    Calls Tryz.prog 78 #[v] w (OpsPost l w) := by
  obtain ⟨a, cap, rfl, hc1, hc2, hat⟩ := hrow.ops
  clear hrow
  unfold maxLen at hc2
  obtain ⟨w0, hmk, hown0, hb0⟩ := make_rowO l.length w hl
  have HN0 := Lib.hid hown0
  have HB0 := Lib.hid hb0
  clear hown0 hb0
  go_enter Tryz.func78, Tryz.ntmps78
  go_wp2_with fail
  clear hmk
  go_loopw [4] (fun i wr => ∃ k : Nat, k ≤ l.length ∧ i = .int .i64 k ∧ Hid (wr.ownsRow w.heap.size 141 3 (.slice (some ⟨w.heap.size, 0, none⟩) l.length l.length) l.length (OC (l.take k) ++ OC (List.replicate (l.length - k) noOp))) ∧ Hid (Below w.heap.size w wr)) (fun i _ => l.length - (intOf i).toNat)
  case atStart => exact ⟨0, Nat.zero_le _, rfl, HN0, HB0⟩
  case round =>
    clear HN0 HB0
    obtain ⟨k, hk, rfl, HN, HB⟩ := hrel
    have hbs := HB.out.size
    by_cases hlt : k < l.length
    · obtain ⟨g, o, rfl, hg, hcell1, hcell2, hcell3⟩ := hat k hlt
      have s1 := (HB.out.cell (p := ⟨g, o + k * 3, none⟩) hg).trans hcell1
      have s2 := (HB.out.cell (p := ⟨g, o + k * 3 + 1, none⟩) hg).trans hcell2
      have s3 := (HB.out.cell (p := ⟨g, o + k * 3 + 2, none⟩) hg).trans hcell3
      have HC := Lib.hid (fun W => toOp_any l[k] W)
      have ht : (l.take k).length = k := by rw [List.length_take]; omega
      have er : List.replicate (l.length - k) noOp = noOp :: List.replicate (l.length - (k + 1)) noOp := by rw [show l.length - k = (l.length - (k + 1)) + 1 by omega, List.replicate_succ]
      rw [er] at HN
      have HE := Lib.hid (set_three (l.take k) k ht noOp (List.replicate (l.length - (k + 1)) noOp) l[k])
      have HE2 := Lib.hid (get_three (l.take k) k ht noOp (List.replicate (l.length - (k + 1)) noOp))
      have HT : Hid (l.take k ++ [l[k]] = l.take (k + 1)) := (List.take_succ_eq_append_getElem hlt).symm
      rw [HT.out] at HE
      clear hcell1 hcell2 hcell3 hat HT er ht
      generalize l[k] = x at s1 s2 s3 HC HE
      obtain ⟨x1, x2, x3⟩ := x
      unfold opV at HC
      simp only at s1 s2 s3 HC HE
      go_wp2_with fail
      refine (HC.out _).mono ?_
      rintro e w1 ⟨rfl, hb1⟩
      have HN1 := Lib.hid (own_belowG HN.out hb1)
      have HB1 := Lib.hid (HB.out.trans (hb1.mono HB.out.size))
      have hfz := HN1.out.frozenAt (k * 3)
      have hfz2 := HN1.out.frozenAt (k * 3 + 1)
      have hfz3 := HN1.out.frozenAt (k * 3 + 2)
      have hcz : w1.cell? ⟨w.heap.size, k * 3, none⟩ = some (.int .i64 0) := by rw [HN1.out.cellAt (k * 3) (by omega), HE2.out.1]; rfl
      have hcz2 : w1.cell? ⟨w.heap.size, k * 3 + 1, none⟩ = some (.int .i64 0) := by rw [HN1.out.cellAt (k * 3 + 1) (by omega), HE2.out.2.1]; rfl
      have hcz3 : w1.cell? ⟨w.heap.size, k * 3 + 2, none⟩ = some (.string ByteArray.empty) := by rw [HN1.out.cellAt (k * 3 + 2) (by omega), HE2.out.2.2]; rfl
      have hst := HN1.out.stored (k * 3) (.int .i64 x1)
      have hst2 := hst.1.stored (k * 3 + 1) (.int .i64 x2)
      have hst3 := hst2.1.stored (k * 3 + 2) (.string ⟨x3.toArray⟩)
      rw [HE.out] at hst3
      have HN2 := Lib.hid hst3.1
      have HB2 := Lib.hid (((HB1.out.trans (only_below hst.2 (Nat.le_refl _) HB1.out.size)).trans (only_below hst2.2 (Nat.le_refl _) (Nat.le_trans HB1.out.size hst.2.size))).trans (only_below hst3.2 (Nat.le_refl _) (Nat.le_trans (Nat.le_trans HB1.out.size hst.2.size) hst2.2.size)))
      clear hst hst2 hst3 HN HB HC HE HE2 HN1 HB1 hb1
      go_wp2_with fail
      go_roundw
      case rel => exact ⟨k + 1, by omega, by go_num, HN2, HB2⟩
      case measure => simp [intOf]; omega
    · have HN1 : Hid (wr.ownsRow w.heap.size 141 3 (.slice (some ⟨w.heap.size, 0, none⟩) l.length l.length) l.length (OC l)) := by
        have := HN.out
        rw [List.take_of_length_le (by omega), show l.length - k = 0 by omega] at this
        simpa [OC, Hid] using this
      clear HN hat
      go_wp2_with fail
      go_ret
      exact ⟨_, rfl, HN1.out, HB.out⟩

set_option maxRecDepth 20000 in
set_option maxHeartbeats 2000000 in
theorem eqOpS_any (l m : List OpT) (v u : Value) (w : World) (hr1 : RowO w v l) (hr2 : RowO w u m) (hl : l.length ≤ 2000000) :
    Calls Tryz.prog 92 #[v, u] w fun e w' => e = .returned (.bool (decide (l = m))) ∧ Below w.heap.size w w' := by
  obtain ⟨a, cap, rfl, hc1, hc2, hat⟩ := hr1.ops
  obtain ⟨a2, cap2, rfl, hc3, hc4, hat2⟩ := hr2.ops
  clear hr1 hr2
  unfold maxLen at hc2 hc4
  by_cases hlen : l.length = m.length
  · have hlen1 : ((l.length : Int) != (m.length : Int)) = false := by simp [hlen]
    have hle1 : l.length ≤ m.length := by omega
    have hle2 : m.length ≤ l.length := by omega
    clear hlen
    go_enter Tryz.func92, Tryz.ntmps92
    go_wp2_with fail
    go_loopw [5] (fun i wr => ∃ k : Nat, k ≤ l.length ∧ i = .int .i64 k ∧ Hid (l.take k = m.take k) ∧ Hid (Below w.heap.size w wr)) (fun i _ => l.length - (intOf i).toNat)
    case atStart => exact ⟨0, Nat.zero_le _, rfl, rfl, Below.refl _ _⟩
    case round =>
      obtain ⟨k, hk, rfl, HO, HB⟩ := hrel
      by_cases hlt : k < l.length
      · obtain ⟨g, o, rfl, hg, hcell1, hcell2, hcell3⟩ := hat k hlt
        obtain ⟨g2, o2, rfl, hg2, hcell4, hcell5, hcell6⟩ := hat2 k (by omega)
        have s1 := (HB.out.cell (p := ⟨g, o + k * 3, none⟩) hg).trans hcell1
        have s2 := (HB.out.cell (p := ⟨g, o + k * 3 + 1, none⟩) hg).trans hcell2
        have s3 := (HB.out.cell (p := ⟨g, o + k * 3 + 2, none⟩) hg).trans hcell3
        have s4 := (HB.out.cell (p := ⟨g2, o2 + k * 3, none⟩) hg2).trans hcell4
        have s5 := (HB.out.cell (p := ⟨g2, o2 + k * 3 + 1, none⟩) hg2).trans hcell5
        have s6 := (HB.out.cell (p := ⟨g2, o2 + k * 3 + 2, none⟩) hg2).trans hcell6
        have hi1 : (k : Int) < (l.length : Int) := by omega
        have hi2 : (k : Int) < (m.length : Int) := by omega
        have hbs := HB.out.size
        have hgw : g < wr.heap.size := by omega
        have hgw2 : g2 < wr.heap.size := by omega
        clear hcell1 hcell2 hcell3 hcell4 hcell5 hcell6 hat hat2
        obtain ⟨b, hbE⟩ : ∃ b, decide (l[k] = m[k]) = b := ⟨_, rfl⟩
        have HC := Lib.hid (fun W => eqOp_b hbE W)
        have HS : Hid (if b then l.take (k + 1) = m.take (k + 1) else decide (l = m) = false) := by
          unfold Hid
          subst hbE
          by_cases he : l[k] = m[k]
          · simp only [he, decide_true, if_true]; exact same_next HO.out hlt (by omega) he
          · simp only [he, decide_false]; exact decide_eq_false (same_not hlt (by omega) he)
        clear HO hbE
        generalize l[k] = x at s1 s2 s3 HC
        generalize m[k] = y at s4 s5 s6 HC
        obtain ⟨x1, x2, x3⟩ := x
        obtain ⟨y1, y2, y3⟩ := y
        unfold opV at HC
        simp only at s1 s2 s3 s4 s5 s6 HC
        go_wp2_with fail
        go_region_held3 (fun w' => w'.cell? ⟨g, o + k * 3, none⟩ = some (.int .i64 x1) ∧ w'.cell? ⟨g, o + k * 3 + 1, none⟩ = some (.int .i64 x2) ∧ w'.cell? ⟨g, o + k * 3 + 2, none⟩ = some (.string ⟨x3.toArray⟩) ∧ w'.cell? ⟨g2, o2 + k * 3, none⟩ = some (.int .i64 y1) ∧ w'.cell? ⟨g2, o2 + k * 3 + 1, none⟩ = some (.int .i64 y2) ∧ w'.cell? ⟨g2, o2 + k * 3 + 2, none⟩ = some (.string ⟨y3.toArray⟩)) (first | exact ⟨s1, s2, s3, s4, s5, s6⟩ | exact ks)
          (first | (go_at_call 120; refine (HC.out _).mono ?_; rintro e w5 ⟨rfl, hb5⟩; have ks := And.intro ((hb5.cell (p := ⟨g, o + k * 3, none⟩) hgw).trans s1) (And.intro ((hb5.cell (p := ⟨g, o + k * 3 + 1, none⟩) hgw).trans s2) (And.intro ((hb5.cell (p := ⟨g, o + k * 3 + 2, none⟩) hgw).trans s3) (And.intro ((hb5.cell (p := ⟨g2, o2 + k * 3, none⟩) hgw2).trans s4) (And.intro ((hb5.cell (p := ⟨g2, o2 + k * 3 + 1, none⟩) hgw2).trans s5) ((hb5.cell (p := ⟨g2, o2 + k * 3 + 2, none⟩) hgw2).trans s6)))))))
        have HB5 := Lib.hid ((Below.drew HB.out).trans (hb5.mono HB.out.size))
        clear hb5 ks
        rcases b with _ | _
        · go_wp2_with fail
          go_ret
          exact ⟨ret_bool (by have := HS.out; simpa using this.symm), HB5.out⟩
        · go_wp2_with fail
          go_roundw
          case rel => exact ⟨k + 1, by omega, by go_num, HS.out, HB5⟩
          case measure => simp [intOf]; omega
      · have HS : Hid (decide (l = m) = true) := decide_eq_true (same_all HO.out (by omega) (by omega))
        clear HO hat hat2
        go_wp2_with fail
        go_ret
        exact ⟨ret_bool HS.out.symm, HB.out⟩
  · have hlen1 : ((l.length : Int) != (m.length : Int)) = true := by simp; omega
    have HS : Hid (decide (l = m) = false) := decide_eq_false (fun h => hlen (by rw [h]))
    clear hat hat2
    go_enter Tryz.func92, Tryz.ntmps92
    go_wp2_with fail
    go_ret
    exact ⟨ret_bool HS.out.symm, Below.refl _ _⟩

end Go.Proofs.YtgolhfmmlanmlaaGreatDoor

/- Walks: how large graphs are, and the laws' copies of them. -/
namespace Go.Proofs.YtgolhfmmlanmlaaGreatDoor
open Go.RowKit Pth

/-- How many numbers there are. -/
def total (ls : List (List Int)) : Nat := (ls.map List.length).sum
theorem total_snoc (ls : List (List Int)) (l : List Int) : total (ls ++ [l]) = total ls + l.length := by simp [total]
theorem total_next {ls : List (List Int)} {k : Nat} (hk : k < ls.length) : total (ls.take (k + 1)) = total (ls.take k) + ls[k].length := by
  rw [List.take_succ_eq_append_getElem hk, total_snoc]
theorem total_all {ls : List (List Int)} {k : Nat} (hk : ls.length ≤ k) : total (ls.take k) = total ls := by rw [List.take_of_length_le hk]
theorem total_append (a b : List (List Int)) : total (a ++ b) = total a + total b := by simp [total]
theorem total_le {ls : List (List Int)} {k : Nat} : total (ls.take k) ≤ total ls := by
  have := total_append (ls.take k) (ls.drop k)
  rw [List.take_append_drop] at this
  omega
theorem total_at {ls : List (List Int)} {k : Nat} (hk : k < ls.length) : ls[k].length ≤ total ls := by
  have h1 := total_next hk
  have h2 := total_le (ls := ls) (k := k + 1)
  omega

set_option maxHeartbeats 400000 in
theorem szIntS_any (a : Option Addr) (n cap left : Nat) (w : World) (hn : n ≤ maxLen) (hl : left ≤ 2000000) :
    Calls Tryz.prog 70 #[.slice a n cap, .int .i64 (left : Int)] w fun e w' => ∃ r : Int, e = .returned (.int .i64 r) ∧ (0 ≤ r → r = (left : Int) - (n : Int)) ∧ w = w' := by
  unfold maxLen at hn
  by_cases h : n ≤ left
  · have h1 : decide ((left : Int) - (n : Int) < 0) = false := by simp; omega
    go_enter Tryz.func70, Tryz.ntmps70
    go_wp2_with fail
    go_ret
    exact ⟨_, rfl, fun _ => rfl, rfl⟩
  · have h1 : decide ((left : Int) - (n : Int) < 0) = true := by simp; omega
    go_enter Tryz.func70, Tryz.ntmps70
    go_wp2_with fail
    go_ret
    exact ⟨-1, rfl, fun h => by omega, rfl⟩

theorem szIntS_l {a : Option Addr} {n cap : Nat} {left : Int} {w : World} (hn : n ≤ maxLen) (h0 : 0 ≤ left) (hl : left ≤ 2000000) :
    Calls Tryz.prog 70 #[.slice a n cap, .int .i64 left] w fun e w' => ∃ r : Int, e = .returned (.int .i64 r) ∧ (0 ≤ r → r = left - (n : Int)) ∧ w = w' := by
  obtain ⟨m, rfl⟩ : ∃ m : Nat, left = m := ⟨left.toNat, by omega⟩
  exact szIntS_any a n cap m w hn (by omega)

set_option maxHeartbeats 1000000 in
theorem szIntSS_any (ls : List (List Int)) (left : Nat) (v : Value) (w : World) (hrow : RowN w v ls) (hl : left ≤ 2000000) :
    Calls Tryz.prog 69 #[v, .int .i64 (left : Int)] w fun e w' => ∃ r : Int, e = .returned (.int .i64 r) ∧ (0 ≤ r → r = (left : Int) - (ls.length : Int) - (total ls : Int)) ∧ w = w' := by
  obtain ⟨a, cap, rfl, hc1, hc2, hat⟩ := hrow.lists
  clear hrow
  unfold maxLen at hc2
  by_cases hlen : ls.length ≤ left
  · have hlen1 : decide ((left : Int) - (ls.length : Int) < 0) = false := by simp; omega
    go_enter Tryz.func69, Tryz.ntmps69
    go_wp2_with fail
    go_loop [1, 5] (fun q i => ∃ (k : Nat) (r : Int), k ≤ ls.length ∧ 0 ≤ r ∧ r ≤ left ∧ q = .int .i64 r ∧ i = .int .i64 k ∧ Hid (r = (left : Int) - (ls.length : Int) - (total (ls.take k) : Int))) (fun _ i => ls.length - (intOf i).toNat)
    case atStart => exact ⟨0, (left : Int) - (ls.length : Int), Nat.zero_le _, by omega, by omega, rfl, rfl, by simp [Hid, total]⟩
    case round =>
      obtain ⟨k, r, hk, hr0, hr1, rfl, rfl, HO⟩ := hrel
      by_cases hlt : k < ls.length
      · obtain ⟨g, o, a2, c2, rfl, hg, hcell, hrk⟩ := hat k hlt
        have hn : ls[k].length ≤ maxLen := by obtain ⟨a3, c3, he, h1, h2, _⟩ := hrk.ints; omega
        have HT := Lib.hid (total_next hlt)
        have HC := Lib.hid (szIntS_l (a := a2) (n := ls[k].length) (cap := c2) (w := w) hn hr0 (show r ≤ 2000000 by omega))
        generalize ls[k].length = n at hcell HT HC hrk
        clear hat hrk hn
        go_wp2_with fail
        refine HC.out.mono ?_
        rintro e w1 ⟨r1, rfl, hr, rfl⟩
        by_cases h0 : r1 < 0
        · have h01 : decide (r1 < 0) = true := by simp; omega
          clear hr
          go_wp2_with fail
          go_ret
          exact ⟨-1, rfl, fun h => by omega, rfl⟩
        · have h01 : decide (r1 < 0) = false := by simp; omega
          have HR := Lib.hid (hr (by omega))
          clear hr
          have hle : r1 ≤ left := by have := HR.out; omega
          go_wp2_with fail
          go_round
          case rel => exact ⟨k + 1, r1, by omega, by omega, hle, rfl, by go_num, by have h1 := HO.out; have h2 := HR.out; have h3 := HT.out; show r1 = _; omega⟩
          case measure => simp [intOf]; omega
      · have HS : Hid (r = (left : Int) - (ls.length : Int) - (total ls : Int)) := by have := HO.out; rw [total_all (by omega)] at this; exact this
        clear hat HO
        go_wp2_with fail
        go_ret
        exact ⟨r, rfl, fun _ => HS.out, rfl⟩
  · have hlen1 : decide ((left : Int) - (ls.length : Int) < 0) = true := by simp; omega
    clear hat
    go_enter Tryz.func69, Tryz.ntmps69
    go_wp2_with fail
    go_ret
    exact ⟨-1, rfl, fun h => by omega, rfl⟩


set_option maxRecDepth 20000 in
set_option maxHeartbeats 2000000 in
theorem szGraph_any (ls : List (List Int)) (l : List Int) (left : Nat) (v : Value) (w : World) (hst : GraphV w v ls l) (hl : left ≤ 2000000) :
    Calls Tryz.prog 33 #[v, .int .i64 (left : Int)] w fun e w' => ∃ r : Int, e = .returned (.int .i64 r) ∧ (0 ≤ r → r = (left : Int) - (ls.length : Int) - (total ls : Int) - (l.length : Int)) ∧ Below w.heap.size w w' := by
  obtain ⟨nv, ov, rfl, h1, h2⟩ := hst
  have H1 := Lib.hid h1
  have H2 := Lib.hid h2
  obtain ⟨an, cn, rfl, hn1, hn2, _⟩ := h1.lists
  obtain ⟨ao, co, rfl, ho1, ho2, _⟩ := h2.ints
  clear h1 h2
  unfold maxLen at hn2
  have hol : l.length ≤ maxLen := by omega
  obtain ⟨wa, hwa⟩ : ∃ wa, wa = w.alloc (.cells #[.slice an ls.length cn, .slice ao l.length co] 25) := ⟨_, rfl⟩
  have c1 : wa.cell? ⟨w.heap.size, 1, none⟩ = some (.slice ao l.length co) := by rw [hwa]; simp
  have HA : Hid (Below w.heap.size w wa) := by rw [hwa]; exact (Below.refl w.heap.size w).alloc (Nat.le_refl _) _
  have HWA := Lib.hid hwa
  clear hwa
  go_enter Tryz.func33, Tryz.ntmps33
  go_wp2_with fail
  rw [← HWA.out]
  refine (szIntSS_any ls left _ wa (H1.out.below HA.out) hl).mono ?_
  rintro e w1 ⟨r1, rfl, hr1, rfl⟩
  have HR1 := Lib.hid hr1
  clear hr1
  by_cases p1 : 0 ≤ r1
  · have HQ := Lib.hid (HR1.out p1)
    have q1 : r1 ≤ 2000000 := by have := HQ.out; omega
    have t1 : decide (r1 < 0) = false := decide_eq_false (by omega)
    clear HR1
    go_wp2_with fail
    refine (szIntS_l (a := ao) (n := l.length) (cap := co) hol p1 q1).mono ?_
    rintro e w2 ⟨r2, rfl, hr2, rfl⟩
    have HR2 := Lib.hid hr2
    clear hr2
    by_cases p2 : 0 ≤ r2
    · have t2 : decide (r2 < 0) = false := decide_eq_false (by omega)
      go_wp2_with fail
      go_ret
      exact ⟨r2, rfl, fun h => by have h1 := HQ.out; have h2 := HR2.out h; omega, HA.out⟩
    · have t2 : decide (r2 < 0) = true := decide_eq_true (by omega)
      go_wp2_with fail
      go_ret
      exact ⟨-1, rfl, fun h => by omega, HA.out⟩
  · have t1 : decide (r1 < 0) = true := decide_eq_true (by omega)
    clear HR1
    go_wp2_with fail
    go_ret
    exact ⟨-1, rfl, fun h => by omega, HA.out⟩

/-- A copy of a list of lists. -/
def ListsPost (ls : List (List Int)) (w : World) (e : Ending) (w' : World) : Prop := ∃ v' sl, e = .returned v' ∧ OwnN w.heap.size w' v' sl ls ∧ Below w.heap.size w w'

theorem set_sl (sl : List Value) (u z : Value) (n k : Nat) (hk : sl.length = k) (hn : k < n) : (sl ++ List.replicate (n - k) z).set k u = (sl ++ [u]) ++ List.replicate (n - (k + 1)) z := by
  subst hk
  rw [List.set_append_right _ _ (Nat.le_refl _), Nat.sub_self, show n - sl.length = (n - (sl.length + 1)) + 1 by omega, List.replicate_succ, List.set_cons_zero, List.append_assoc]
  rfl
theorem get_sl (sl : List Value) (z : Value) (n k : Nat) (hk : sl.length = k) (hn : k < n) : (sl ++ List.replicate (n - k) z)[k]? = some z := by
  subst hk
  rw [List.getElem?_append_right (Nat.le_refl _), Nat.sub_self, show n - sl.length = (n - (sl.length + 1)) + 1 by omega, List.replicate_succ]
  rfl
theorem zip_snoc (sl : List Value) (ls : List (List Int)) (k : Nat) (hk : k < ls.length) (hs : sl.length = k) (u : Value) : (sl ++ [u]).zip (ls.take (k + 1)) = sl.zip (ls.take k) ++ [(u, ls[k])] := by
  rw [List.take_succ_eq_append_getElem hk, List.zip_append (by rw [List.length_take]; omega)]
  rfl

set_option maxHeartbeats 2000000 in
theorem toIntSS_any (ls : List (List Int)) (v : Value) (w : World) (hrow : RowN w v ls) (hl : ls.length + total ls ≤ 2000000) :
    Calls Tryz.prog 76 #[v] w (ListsPost ls w) := by
  obtain ⟨a, cap, rfl, hc1, hc2, hat⟩ := hrow.lists
  clear hrow
  unfold maxLen at hc2
  obtain ⟨w0, hmk, hown0, hb0⟩ := make_row elemN rfl ls.length w (by omega)
  have HN0 := Lib.hid hown0
  have HB0 := Lib.hid hb0
  clear hown0 hb0
  go_enter Tryz.func76, Tryz.ntmps76
  go_wp2_with fail
  clear hmk
  go_loopw [4] (fun i wr => ∃ (k : Nat) (sl : List Value), k ≤ ls.length ∧ i = .int .i64 k ∧ sl.length = k ∧ wr.ownsRow w.heap.size 23 1 (.slice (some ⟨w.heap.size, 0, none⟩) ls.length ls.length) ls.length (sl ++ List.replicate (ls.length - k) (.slice none 0 0)) ∧ Lists w.heap.size wr (sl.zip (ls.take k)) ∧ Below w.heap.size w wr) (fun i _ => ls.length - (intOf i).toNat)
  case atStart => exact ⟨0, [], Nat.zero_le _, rfl, rfl, by simpa using HN0.out, by simp [Lists], HB0.out⟩
  case round =>
    clear HN0 HB0
    obtain ⟨k, sl, hk, rfl, hsl, hown, hls, hb⟩ := hrel
    have HO := Lib.hid hown
    have HL := Lib.hid hls
    have HB := Lib.hid hb
    by_cases hlt : k < ls.length
    · obtain ⟨g, o, a2, c2, rfl, hg, hcell0, hrk⟩ := hat k hlt
      have hcell : wr.cell? ⟨g, o + k, none⟩ = some (.slice a2 ls[k].length c2) := by rw [hb.cell (p := ⟨g, o + k, none⟩) hg]; exact hcell0
      have HC := Lib.hid (toIntS_any ls[k] _ wr (hrk.below hb) (by have := total_at hlt; omega))
      have HZ := Lib.hid (zip_snoc sl ls k hlt hsl)
      clear hcell0 hat hown hls hb hrk
      have hsl' := hsl
      generalize ls[k] = x at hcell HC HZ
      go_wp2_with fail
      refine HC.out.mono ?_
      rintro e w1 ⟨v1, rfl, hown1, hb1⟩
      have h2 := own_below HO.out hb1
      have hfz := h2.frozenAt k
      have hcz : w1.cell? ⟨w.heap.size, k, none⟩ = some (.slice none 0 0) := by rw [h2.cellAt k (by omega), get_sl sl _ _ k hsl' hlt]
      have hst := h2.stored k v1
      rw [set_sl sl v1 _ _ k hsl' hlt] at hst
      have HN1 := Lib.hid hst.1
      have HL1 := Lib.hid (((HL.out.snoc hb1 hown1 (Nat.le_refl _) HB.out.size).outer h2 (by decide) hst.2))
      have HB1 := Lib.hid ((bth HB.out hb1 (Nat.le_refl _)).trans (only_below hst.2 (Nat.le_refl _) (Nat.le_trans HB.out.size hb1.size)))
      rw [← HZ.out v1] at HL1
      obtain ⟨a3, c3, rfl⟩ := own_slice hown1
      clear hst h2 hown1 hb1 HO HL HB HC HZ hsl
      go_wp2_with fail
      go_roundw
      case rel => exact ⟨k + 1, _, by omega, by go_num, by simp [hsl'], HN1.out, HL1.out, HB1.out⟩
      case measure => simp [intOf]; omega
    · obtain rfl : k = ls.length := by omega
      have HN1 : Hid (OwnN w.heap.size wr (.slice (some ⟨w.heap.size, 0, none⟩) ls.length ls.length) sl ls) := by
        rw [Nat.sub_self, List.replicate_zero, List.append_nil] at hown
        rw [List.take_length] at hls
        exact ⟨hsl, hown, hls⟩
      clear hown hls hb hat HO HL
      go_wp2_with fail
      go_ret
      exact ⟨_, _, rfl, HN1.out, HB.out⟩

end Go.Proofs.YtgolhfmmlanmlaaGreatDoor

/- Walks: whether the laws call graphs the same; the laws' copies of graphs. -/
namespace Go.Proofs.YtgolhfmmlanmlaaGreatDoor
open Go.RowKit Pth

theorem eqIntS_b {l m : List Int} {v u : Value} {w : World} {b : Bool} (hr1 : RowV w v (I l)) (hr2 : RowV w u (I m)) (hl : l.length ≤ 2000000) (h : decide (l = m) = b) :
    Calls Tryz.prog 28 #[v, u] w fun e w' => e = .returned (.bool b) ∧ Below w.heap.size w w' := by
  subst h
  exact eqIntS_any l m v u w hr1 hr2 hl

set_option maxHeartbeats 2000000 in
theorem eqIntSS_any (l m : List (List Int)) (v u : Value) (w : World) (hr1 : RowN w v l) (hr2 : RowN w u m) (hl : l.length + total l ≤ 2000000) :
    Calls Tryz.prog 91 #[v, u] w fun e w' => e = .returned (.bool (decide (l = m))) ∧ Below w.heap.size w w' := by
  obtain ⟨a, cap, rfl, hc1, hc2, hat⟩ := hr1.lists
  obtain ⟨a2, cap2, rfl, hc3, hc4, hat2⟩ := hr2.lists
  clear hr1 hr2
  unfold maxLen at hc2 hc4
  by_cases hlen : l.length = m.length
  · have hlen1 : ((l.length : Int) != (m.length : Int)) = false := by simp [hlen]
    have HLEN := Lib.hid hlen
    clear hlen
    go_enter Tryz.func91, Tryz.ntmps91
    go_wp2_with fail
    go_loopw [5] (fun i wr => ∃ k : Nat, k ≤ l.length ∧ i = .int .i64 k ∧ Hid (l.take k = m.take k) ∧ Below w.heap.size w wr) (fun i _ => l.length - (intOf i).toNat)
    case atStart => exact ⟨0, Nat.zero_le _, rfl, rfl, Below.refl _ _⟩
    case round =>
      obtain ⟨k, hk, rfl, HO, hb⟩ := hrel
      have HB := Lib.hid hb
      by_cases hlt : k < l.length
      · obtain ⟨g, o, b1, d1, rfl, hg, hcell0, hrk⟩ := hat k hlt
        obtain ⟨g2, o2, b2, d2, rfl, hg2, hcell02, hrk2⟩ := hat2 k (by have := HLEN.out; omega)
        have hcell : wr.cell? ⟨g, o + k, none⟩ = some (.slice b1 l[k].length d1) := by rw [hb.cell (p := ⟨g, o + k, none⟩) hg]; exact hcell0
        have hcell2 : wr.cell? ⟨g2, o2 + k, none⟩ = some (.slice b2 m[k].length d2) := by rw [hb.cell (p := ⟨g2, o2 + k, none⟩) hg2]; exact hcell02
        have hi1 : (k : Int) < (l.length : Int) := by omega
        have hlt2 : k < m.length := by have := HLEN.out; omega
        have hi2 : (k : Int) < (m.length : Int) := by omega
        have hx : l[k].length ≤ 2000000 := by have := total_at hlt; omega
        by_cases he : l[k] = m[k]
        · have HS := Lib.hid (same_next HO.out hlt hlt2 he)
          have HC := Lib.hid (fun W (h : Below w.heap.size w W) => eqIntS_b (hrk.below h) (hrk2.below h) hx (decide_eq_true he))
          clear hcell0 hcell02 hat hat2 hb hrk hrk2 hx he
          generalize l[k].length = n1 at hcell HC
          generalize m[k].length = n2 at hcell2 HC
          clear HO
          have ks := And.intro hcell hcell2
          have hgw : g < wr.heap.size := Nat.lt_of_lt_of_le hg HB.out.size
          have hgw2 : g2 < wr.heap.size := Nat.lt_of_lt_of_le hg2 HB.out.size
          clear hcell hcell2
          go_wp2_with fail
          go_region_held3 (fun w' => w'.cell? ⟨g, o + k, none⟩ = some (.slice b1 n1 d1) ∧ w'.cell? ⟨g2, o2 + k, none⟩ = some (.slice b2 n2 d2)) (first | exact ks)
            (first | (go_at_call 28; refine (HC.out _ (Below.drew HB.out)).mono ?_; rintro e w5 ⟨rfl, hb5⟩; have ks := And.intro ((hb5.cell (p := ⟨g, o + k, none⟩) hgw).trans ks.1) ((hb5.cell (p := ⟨g2, o2 + k, none⟩) hgw2).trans ks.2)))
          have HB5 := Lib.hid (bth (Below.drew HB.out) hb5 (Nat.le_refl _))
          clear hb5 ks
          go_wp2_with fail
          go_roundw
          case rel => exact ⟨k + 1, by omega, by go_num, HS, HB5.out⟩
          case measure => simp [intOf]; omega
        · have HS : Hid (decide (l = m) = false) := decide_eq_false (same_not hlt hlt2 he)
          have HC := Lib.hid (fun W (h : Below w.heap.size w W) => eqIntS_b (hrk.below h) (hrk2.below h) hx (decide_eq_false he))
          clear hcell0 hcell02 hat hat2 hb hrk hrk2 hx he
          generalize l[k].length = n1 at hcell HC
          generalize m[k].length = n2 at hcell2 HC
          clear HO
          have ks := And.intro hcell hcell2
          have hgw : g < wr.heap.size := Nat.lt_of_lt_of_le hg HB.out.size
          have hgw2 : g2 < wr.heap.size := Nat.lt_of_lt_of_le hg2 HB.out.size
          clear hcell hcell2
          go_wp2_with fail
          go_region_held3 (fun w' => w'.cell? ⟨g, o + k, none⟩ = some (.slice b1 n1 d1) ∧ w'.cell? ⟨g2, o2 + k, none⟩ = some (.slice b2 n2 d2)) (first | exact ks)
            (first | (go_at_call 28; refine (HC.out _ (Below.drew HB.out)).mono ?_; rintro e w5 ⟨rfl, hb5⟩; have ks := And.intro ((hb5.cell (p := ⟨g, o + k, none⟩) hgw).trans ks.1) ((hb5.cell (p := ⟨g2, o2 + k, none⟩) hgw2).trans ks.2)))
          have HB5 := Lib.hid (bth (Below.drew HB.out) hb5 (Nat.le_refl _))
          clear hb5 ks
          go_wp2_with fail
          go_ret
          exact ⟨ret_bool HS.out.symm, HB5.out⟩
      · have HS : Hid (decide (l = m) = true) := decide_eq_true (same_all HO.out (by omega) (by have := HLEN.out; omega))
        clear HO hat hat2 hb
        go_wp2_with fail
        go_ret
        exact ⟨ret_bool HS.out.symm, HB.out⟩
  · have hlen1 : ((l.length : Int) != (m.length : Int)) = true := by simp; omega
    have HS : Hid (decide (l = m) = false) := decide_eq_false (fun h => hlen (by rw [h]))
    clear hat hat2
    go_enter Tryz.func91, Tryz.ntmps91
    go_wp2_with fail
    go_ret
    exact ⟨ret_bool HS.out.symm, Below.refl _ _⟩

theorem eqIntSS_b {l m : List (List Int)} {v u : Value} {w : World} {b : Bool} (hr1 : RowN w v l) (hr2 : RowN w u m) (hl : l.length + total l ≤ 2000000) (h : decide (l = m) = b) :
    Calls Tryz.prog 91 #[v, u] w fun e w' => e = .returned (.bool b) ∧ Below w.heap.size w w' := by
  subst h
  exact eqIntSS_any l m v u w hr1 hr2 hl

theorem results_cell {fn : Func} {p : Tmp} {ty : TypeId} (h : fn.results = #[.cell p ty]) {tmps : Array Value} {w : World} {ad : Addr} {v : Value} (hp : tmps.getD p undef = .pointer (some ad)) (hl : (loadVar ty ad).run Tryz.prog w = .ok v w) :
    (results fn tmps).run Tryz.prog w = .ok v w := by
  have hp' : tmps[p]?.getD undef = .pointer (some ad) := by simpa using hp
  simp only [results, h]
  simp [hp', asAddr, hl]
theorem results_cell2 {fn : Func} {p u : Tmp} {ty : TypeId} (h : fn.results = #[.cell p ty, .tmp u]) {tmps : Array Value} {w : World} {ad : Addr} {v : Value} (hp : tmps.getD p undef = .pointer (some ad)) (hl : (loadVar ty ad).run Tryz.prog w = .ok v w) :
    (results fn tmps).run Tryz.prog w = .ok (.tuple #[v, tmps.getD u undef]) w := by
  have hp' : tmps[p]?.getD undef = .pointer (some ad) := by simpa using hp
  simp only [results, h]
  simp [Result.andThen, hp', asAddr, hl]
theorem results_cell3 {fn : Func} {p u t : Tmp} {ty : TypeId} (h : fn.results = #[.cell p ty, .tmp u, .tmp t]) {tmps : Array Value} {w : World} {ad : Addr} {v : Value} (hp : tmps.getD p undef = .pointer (some ad)) (hl : (loadVar ty ad).run Tryz.prog w = .ok v w) :
    (results fn tmps).run Tryz.prog w = .ok (.tuple #[v, tmps.getD u undef, tmps.getD t undef]) w := by
  have hp' : tmps[p]?.getD undef = .pointer (some ad) := by simpa using hp
  simp only [results, h]
  simp [Result.andThen, hp', asAddr, hl]
theorem load_store2 {w : World} {b : Nat} {x y : Value} (h0 : w.cell? ⟨b, 0, none⟩ = some x) (h1 : w.cell? ⟨b, 1, none⟩ = some y) : (loadVar 39 ⟨b, 0, none⟩).run Tryz.prog w = .ok (.agg #[x, y]) w := by
  go_simp
/-- Whether two graphs are the same. -/
def sameG (ls ms : List (List Int)) (l m : List Int) : Bool := decide (ls = ms) && decide (l = m)
theorem sameG_self (ls : List (List Int)) (l : List Int) : sameG ls ls l l = true := by simp [sameG]

set_option maxRecDepth 20000 in
set_option maxHeartbeats 4000000 in
theorem eqGraph_any (ls ms : List (List Int)) (l m : List Int) (v u : Value) (w : World) (hst : GraphV w v ls l) (hst2 : GraphV w u ms m) (hl : ls.length + total ls + l.length ≤ 2000000) :
    Calls Tryz.prog 54 #[v, u] w fun e w' => e = .returned (.bool (sameG ls ms l m)) ∧ Below w.heap.size w w' := by
  obtain ⟨nv, ov, rfl, h1, h2⟩ := hst
  obtain ⟨nu, ou, rfl, h3, h4⟩ := hst2
  have H1 := Lib.hid h1
  have H2 := Lib.hid h2
  have H3 := Lib.hid h3
  have H4 := Lib.hid h4
  obtain ⟨an, cn, rfl, _⟩ := h1.lists
  obtain ⟨ao, co, rfl, _⟩ := h2.ints
  obtain ⟨bn, dn, rfl, _⟩ := h3.lists
  obtain ⟨bo, do', rfl, _⟩ := h4.ints
  clear h1 h2 h3 h4
  obtain ⟨wa, hwa⟩ : ∃ wa, wa = (w.alloc (.cells #[.slice an ls.length cn, .slice ao l.length co] 39)).alloc (.cells #[.slice bn ms.length dn, .slice bo m.length do'] 39) := ⟨_, rfl⟩
  have hsz : wa.heap.size = w.heap.size + 2 := by rw [hwa]; simp
  have P0 : Hid (Blk2 wa w.heap.size 39 (.slice an ls.length cn) (.slice ao l.length co)) := by rw [hwa]; exact Blk2.new.old _
  have O0 : Hid (Blk2 wa (w.heap.size + 1) 39 (.slice bn ms.length dn) (.slice bo m.length do')) := by
    rw [hwa]
    have := Blk2.new (w := w.alloc (.cells #[.slice an ls.length cn, .slice ao l.length co] 39)) (t := 39) (x := .slice bn ms.length dn) (y := .slice bo m.length do')
    simpa [Hid] using this
  have HA : Hid (Below w.heap.size w wa) := by rw [hwa]; exact ((Below.refl w.heap.size w).alloc (Nat.le_refl _) _).alloc (by simp) _
  have HWA := Lib.hid hwa
  clear hwa
  rcases e1 : decide (ls = ms) with _ | _
  · have HT : Hid (sameG ls ms l m = false) := by rw [sameG, e1]; rfl
    have C1 := Lib.hid (eqIntSS_b (H1.out.below HA.out) (H3.out.below HA.out) (by omega) e1)
    rw [HT.out]
    clear e1 HT
    go_enter Tryz.func54, Tryz.ntmps54
    go_wp2_with fail
    rw [← HWA.out]
    refine C1.out.mono ?_
    rintro e w1 ⟨rfl, hb1⟩
    have HB1 := Lib.hid (bth HA.out hb1 (Nat.le_refl _))
    clear hb1
    go_wp2_with fail
    go_ret
    exact ⟨rfl, HB1.out⟩
  · have C1 := Lib.hid (eqIntSS_b (H1.out.below HA.out) (H3.out.below HA.out) (by omega) e1)
    have HT : Hid (sameG ls ms l m = decide (l = m)) := by rw [sameG, e1]; rfl
    rw [HT.out]
    rcases e2 : decide (l = m) with _ | _
    all_goals
      have C2 := Lib.hid (fun W (h1 : RowV W (.slice ao l.length co) (I l)) (h2 : RowV W (.slice bo m.length do') (I m)) => eqIntS_b h1 h2 (by omega) e2)
      clear e1 e2 HT
      go_enter Tryz.func54, Tryz.ntmps54
      go_wp2_with fail
      rw [← HWA.out]
      refine C1.out.mono ?_
      rintro e w1 ⟨rfl, hb1⟩
      have HB1 := Lib.hid (bth HA.out hb1 (Nat.le_refl _))
      have p11 := (P0.out.below hb1 (by omega)).cells.2
      have o11 := (O0.out.below hb1 (by omega)).cells.2
      clear hb1
      go_wp2_with fail
      refine (C2.out w1 (H2.out.below HB1.out) (H4.out.below HB1.out)).mono ?_
      rintro e w2 ⟨rfl, hb2⟩
      have HB2 := Lib.hid (bth HB1.out hb2 (Nat.le_refl _))
      clear hb2
      go_wp2_with fail
      go_ret
      exact ⟨rfl, HB2.out⟩

set_option maxRecDepth 20000 in
set_option maxHeartbeats 2000000 in
theorem toGraph_any (ls : List (List Int)) (l : List Int) (v : Value) (w : World) (hst : GraphV w v ls l) (hl : ls.length + total ls + l.length ≤ 2000000) :
    Calls Tryz.prog 44 #[v] w fun e w' => ∃ v', e = .returned v' ∧ GraphO w.heap.size w' v' ls l ∧ Below w.heap.size w w' := by
  obtain ⟨nv, ov, rfl, h1, h2⟩ := hst
  have H1 := Lib.hid h1
  have H2 := Lib.hid h2
  obtain ⟨an, cn, rfl, hn1, hn2, _⟩ := h1.lists
  obtain ⟨ao, co, rfl, ho1, ho2, _⟩ := h2.ints
  clear h1 h2
  unfold maxLen at hn2 ho2
  obtain ⟨wa, hwa⟩ : ∃ wa, wa = ((w.alloc (.cells #[.slice an ls.length cn, .slice ao l.length co] 25)).alloc (.cells #[.slice none 0 0, .slice none 0 0] 39)).alloc (.cells #[.slice none 0 0, .slice none 0 0] 39) := ⟨_, rfl⟩
  have hsz : wa.heap.size = w.heap.size + 3 := by rw [hwa]; simp
  have P0 : Hid (Blk2 wa w.heap.size 25 (.slice an ls.length cn) (.slice ao l.length co)) := by rw [hwa]; exact (Blk2.new.old _).old _
  have O0 : Hid (Blk2 wa (w.heap.size + 1 + 1) 39 (.slice none 0 0) (.slice none 0 0)) := by
    rw [hwa]
    have := Blk2.new (w := (w.alloc (.cells #[.slice an ls.length cn, .slice ao l.length co] 25)).alloc (.cells #[.slice none 0 0, .slice none 0 0] 39)) (t := 39) (x := .slice none 0 0) (y := .slice none 0 0)
    simpa [Hid] using this
  have R0 : Hid (Blk2 wa (w.heap.size + 1) 39 (.slice none 0 0) (.slice none 0 0)) := by
    rw [hwa]
    have := Blk2.new (w := w.alloc (.cells #[.slice an ls.length cn, .slice ao l.length co] 25)) (t := 39) (x := .slice none 0 0) (y := .slice none 0 0)
    rw [show (w.alloc (.cells #[.slice an ls.length cn, .slice ao l.length co] 25)).heap.size = w.heap.size + 1 by simp] at this
    exact this.old _
  have HA : Hid (Below w.heap.size w wa) := by rw [hwa]; exact (((Below.refl w.heap.size w).alloc (Nat.le_refl _) _).alloc (by simp) _).alloc (by simp; omega) _
  have HWA := Lib.hid hwa
  clear hwa
  go_enter Tryz.func44, Tryz.ntmps44
  go_wp2_with fail
  rw [← HWA.out]
  refine (toIntSS_any ls _ wa (H1.out.below HA.out) (by omega)).mono ?_
  rintro e w1 ⟨v1, sl, rfl, ⟨hsl, hn1', hL1⟩, hb1⟩
  obtain ⟨b1, d1, rfl⟩ := own_slice hn1'
  have HN1 := Lib.hid (own_setI hn1' (p := ⟨w.heap.size + 1 + 1, 0, none⟩) (by show w.heap.size + 1 + 1 < _; omega) (.slice b1 ls.length d1))
  have HL1 := Lib.hid (hL1.set (p := ⟨w.heap.size + 1 + 1, 0, none⟩) (by show w.heap.size + 1 + 1 < _; omega) (.slice b1 ls.length d1))
  have P1 := P0.out.below hb1 (by omega)
  have O1 := O0.out.below hb1 (by omega)
  have HA1 := Lib.hid (HA.out.trans (hb1.mono HA.out.size))
  have HX1 := Lib.hid (HA1.out.setCell (p := ⟨w.heap.size + 1 + 1, 0, none⟩) (by show w.heap.size ≤ w.heap.size + 1 + 1; omega) (.slice b1 ls.length d1))
  have o0 := O1.cells.1
  have f0 := O1.soft 0
  have hs1 : wa.heap.size ≤ (w1.setCell ⟨w.heap.size + 1 + 1, 0, none⟩ (.slice b1 ls.length d1)).heap.size := by have := hb1.size; simp; omega
  have P2 := Lib.hid (show Blk2 (w1.setCell ⟨w.heap.size + 1 + 1, 0, none⟩ (.slice b1 ls.length d1)) w.heap.size _ _ _ from (Below.heap_setCell w1 ⟨w.heap.size + 1 + 1, 0, none⟩ (.slice b1 ls.length d1) w.heap.size (by show w.heap.size ≠ w.heap.size + 1 + 1; omega)).trans P1)
  have O2 := Lib.hid (O1.set0 (.slice b1 ls.length d1))
  have p1 := P2.out.cells.2
  have R2 := Lib.hid (show Blk2 (w1.setCell ⟨w.heap.size + 1 + 1, 0, none⟩ (.slice b1 ls.length d1)) (w.heap.size + 1) _ _ _ from (Below.heap_setCell w1 ⟨w.heap.size + 1 + 1, 0, none⟩ (.slice b1 ls.length d1) (w.heap.size + 1) (by show w.heap.size + 1 ≠ w.heap.size + 1 + 1; omega)).trans (R0.out.below hb1 (by omega)))
  clear hn1' hb1 P1 O1 hL1
  go_wp2_with fail
  clear o0 f0
  generalize w1.setCell ⟨w.heap.size + 1 + 1, 0, none⟩ (.slice b1 ls.length d1) = x1 at *
  refine (toIntS_any l _ x1 (H2.out.below HX1.out) (by omega)).mono ?_
  rintro e w2 ⟨v2, rfl, hn2', hb2⟩
  obtain ⟨b2, d2, rfl⟩ := own_slice hn2'
  have HL2 := Lib.hid ((HL1.out.snoc hb2 hn2' (Nat.le_refl _) hs1).set (p := ⟨w.heap.size + 1 + 1, 1, none⟩) (by show w.heap.size + 1 + 1 < _; omega) (.slice b2 l.length d2))
  have HM2 := Lib.hid (own_setI (own_below HN1.out hb2) (p := ⟨w.heap.size + 1 + 1, 1, none⟩) (by show w.heap.size + 1 + 1 < _; omega) (.slice b2 l.length d2))
  have O3 := O2.out.below hb2 (by omega)
  have HA2 := Lib.hid (HX1.out.trans (hb2.mono HX1.out.size))
  have HX2 := Lib.hid (HA2.out.setCell (p := ⟨w.heap.size + 1 + 1, 1, none⟩) (by show w.heap.size ≤ w.heap.size + 1 + 1; omega) (.slice b2 l.length d2))
  have o1 := O3.cells.2
  have f1 := O3.soft 1
  have O4 := Lib.hid (O3.set1 (.slice b2 l.length d2))
  have R4 := Lib.hid (show Blk2 (w2.setCell ⟨w.heap.size + 1 + 1, 1, none⟩ (.slice b2 l.length d2)) (w.heap.size + 1) _ _ _ from (Below.heap_setCell w2 ⟨w.heap.size + 1 + 1, 1, none⟩ (.slice b2 l.length d2) (w.heap.size + 1) (by show w.heap.size + 1 ≠ w.heap.size + 1 + 1; omega)).trans (R2.out.below hb2 (by omega)))
  have r0 := O4.out.cells.1
  have r1 := O4.out.cells.2
  obtain ⟨k0, k1⟩ := R4.out.cells
  have z0 := R4.out.soft 0
  have z1 := R4.out.soft 1
  clear hn2' hb2 O3 p1
  go_wp2_with fail
  have Z := (R4.out.set0 (.slice b1 ls.length d1)).set1 (.slice b2 l.length d2)
  refine bodyPost_ret (results_cell rfl rfl (load_store2 Z.cells.1 Z.cells.2)) rfl ?_
  have e1 : w.heap.size ≤ wa.heap.size := by omega
  have e2 : w.heap.size + 1 < wa.heap.size := by omega
  refine ⟨_, rfl, ⟨_, _, sl, rfl, hsl, own_base (own_setI (own_setI HM2.out (p := ⟨w.heap.size + 1, 0, none⟩) e2 _) (p := ⟨w.heap.size + 1, 1, none⟩) e2 _) e1, ((HL2.out.set (p := ⟨w.heap.size + 1, 0, none⟩) e2 _).set (p := ⟨w.heap.size + 1, 1, none⟩) e2 _).base e1⟩, ?_⟩
  exact (HX2.out.setCell (p := ⟨w.heap.size + 1, 0, none⟩) (by show w.heap.size ≤ w.heap.size + 1; omega) _).setCell (p := ⟨w.heap.size + 1, 1, none⟩) (by show w.heap.size ≤ w.heap.size + 1; omega) _
end Go.Proofs.YtgolhfmmlanmlaaGreatDoor

/- Lists of bools, lists of lists of ops: wherever they lie, and as memory of the call's own; the laws' helpers on them. -/
namespace Go.Proofs.YtgolhfmmlanmlaaGreatDoor
open Go.RowKit Pth

/-- Bools as cells. -/
def BL (l : List Bool) : List Value := l.map Value.bool
theorem BL_len (l : List Bool) : (BL l).length = l.length := by simp [BL]
theorem BL_get {l : List Bool} {k : Nat} (hk : k < l.length) : (BL l)[k]'(by rw [BL_len]; exact hk) = .bool l[k] := by simp [BL]
theorem RowV.boolsW {w : World} {v : Value} {l : List Bool} (h : RowV w v (BL l)) :
    ∃ a c, v = .slice a l.length c ∧ l.length ≤ c ∧ c ≤ maxLen ∧ ∀ k (hk : k < l.length), ∃ g o, a = some ⟨g, o, none⟩ ∧ g < w.heap.size ∧ w.cell? ⟨g, o + k, none⟩ = some (.bool l[k]) := by
  obtain ⟨a, c, hv, h1, h2, hat⟩ := h
  rw [BL_len] at hv h1
  refine ⟨a, c, hv, h1, h2, fun k hk => ?_⟩
  obtain ⟨g, o, ha, hg, hc⟩ := hat k (by rw [BL_len]; exact hk)
  rw [BL_get hk] at hc
  exact ⟨g, o, ha, hg, hc⟩
/-- Bools are handed back, in memory of the call's own. -/
def BoolsPost (B : Nat) (l : List Bool) (w : World) (e : Ending) (w' : World) : Prop := ∃ v, e = .returned v ∧ w'.ownsRow B 4 1 v l.length (BL l) ∧ Below w.heap.size w w'

set_option maxHeartbeats 400000 in
theorem szBoolS_any (a : Option Addr) (n cap left : Nat) (w : World) (hn : n ≤ maxLen) (hl : left ≤ 2000000) :
    Calls Tryz.prog 34 #[.slice a n cap, .int .i64 (left : Int)] w fun e w' => ∃ r : Int, e = .returned (.int .i64 r) ∧ (0 ≤ r → r = (left : Int) - (n : Int)) ∧ w = w' := by
  unfold maxLen at hn
  by_cases h : n ≤ left
  · have h1 : decide ((left : Int) - (n : Int) < 0) = false := by simp; omega
    go_enter Tryz.func34, Tryz.ntmps34
    go_wp2_with fail
    go_ret
    exact ⟨_, rfl, fun _ => rfl, rfl⟩
  · have h1 : decide ((left : Int) - (n : Int) < 0) = true := by simp; omega
    go_enter Tryz.func34, Tryz.ntmps34
    go_wp2_with fail
    go_ret
    exact ⟨-1, rfl, fun h => by omega, rfl⟩

set_option maxHeartbeats 1000000 in
theorem toBoolS_any (l : List Bool) (v : Value) (w : World) (hrow : RowV w v (BL l)) (hl : l.length ≤ 2000000) :
    Calls Tryz.prog 45 #[v] w (BoolsPost w.heap.size l w) := by
  obtain ⟨a, cap, rfl, hc1, hc2, hat⟩ := hrow.boolsW
  clear hrow
  unfold maxLen at hc2
  obtain ⟨w0, hmk, hown0, hb0⟩ := make_row elemB rfl l.length w hl
  have HN0 := Lib.hid hown0
  have HB0 := Lib.hid hb0
  clear hown0 hb0
  go_enter Tryz.func45, Tryz.ntmps45
  go_wp2_with fail
  clear hmk
  go_loopw [4] (fun i wr => ∃ k : Nat, k ≤ l.length ∧ i = .int .i64 k ∧ wr.ownsRow w.heap.size 4 1 (.slice (some ⟨w.heap.size, 0, none⟩) l.length l.length) l.length ((BL l).take k ++ List.replicate ((BL l).length - k) (.bool false)) ∧ Below w.heap.size w wr) (fun i _ => l.length - (intOf i).toNat)
  case atStart => exact ⟨0, Nat.zero_le _, rfl, by rw [BL_len]; exact HN0.out, HB0.out⟩
  case round =>
    clear HN0 HB0
    obtain ⟨k, hk, rfl, hown, hb⟩ := hrel
    have hbs := hb.size
    by_cases hlt : k < l.length
    · obtain ⟨g, o, rfl, hg, hcell0⟩ := hat k hlt
      have hcell : wr.cell? ⟨g, o + k, none⟩ = some (.bool l[k]) := by rw [hb.cell (p := ⟨g, o + k, none⟩) hg]; exact hcell0
      have hfz := hown.frozenAt k
      have hcz : wr.cell? ⟨w.heap.size, k, none⟩ = some (.bool false) := by rw [hown.cellAt k (by omega), get_row _ _ _ (by rw [BL_len]; exact hlt)]
      have hst := hown.stored k (.bool l[k])
      have e := set_row (BL l) (.bool false) k (by rw [BL_len]; exact hlt)
      rw [BL_get hlt] at e
      rw [e] at hst
      have HN1 := Lib.hid hst.1
      have HB1 := Lib.hid (hb.trans (only_below hst.2 (Nat.le_refl _) hbs))
      clear hcell0 hat hown hb hst e
      generalize l[k] = x at hcell HN1 HB1
      go_wp2_with fail
      go_roundw
      case rel => exact ⟨k + 1, by omega, by go_num, HN1.out, HB1.out⟩
      case measure => simp [intOf]; omega
    · have HN1 : Hid (wr.ownsRow w.heap.size 4 1 (.slice (some ⟨w.heap.size, 0, none⟩) l.length l.length) l.length (BL l)) := by
        have e1 : (BL l).take k = BL l := List.take_of_length_le (by rw [BL_len]; omega)
        have e2 : (BL l).length - k = 0 := by rw [BL_len]; omega
        rw [e1, e2, List.replicate_zero, List.append_nil] at hown
        exact hown
      have HB := Lib.hid hb
      clear hown hb hat
      go_wp2_with fail
      go_ret
      exact ⟨_, rfl, HN1.out, HB.out⟩



set_option maxHeartbeats 1000000 in
theorem eqBoolS_any (l m : List Bool) (v u : Value) (w : World) (hr1 : RowV w v (BL l)) (hr2 : RowV w u (BL m)) (hl : l.length ≤ 2000000) :
    Calls Tryz.prog 55 #[v, u] w fun e w' => e = .returned (.bool (decide (l = m))) ∧ Below w.heap.size w w' := by
  obtain ⟨a, cap, rfl, hc1, hc2, hat⟩ := hr1.boolsW
  obtain ⟨a2, cap2, rfl, hc3, hc4, hat2⟩ := hr2.boolsW
  clear hr1 hr2
  unfold maxLen at hc2 hc4
  by_cases hlen : l.length = m.length
  · have hlen1 : ((l.length : Int) != (m.length : Int)) = false := by simp [hlen]
    go_enter Tryz.func55, Tryz.ntmps55
    go_wp2_with fail
    go_loopw [5] (fun i wr => ∃ k : Nat, k ≤ l.length ∧ i = .int .i64 k ∧ Hid (l.take k = m.take k) ∧ Below w.heap.size w wr) (fun i _ => l.length - (intOf i).toNat)
    case atStart => exact ⟨0, Nat.zero_le _, rfl, rfl, Below.refl _ _⟩
    case round =>
      obtain ⟨k, hk, rfl, HO, hb⟩ := hrel
      have HB := Lib.hid hb
      by_cases hlt : k < l.length
      · obtain ⟨g, o, rfl, hg, hcell0⟩ := hat k hlt
        obtain ⟨g2, o2, rfl, hg2, hcell02⟩ := hat2 k (by omega)
        have hcell : wr.cell? ⟨g, o + k, none⟩ = some (.bool l[k]) := by rw [hb.cell (p := ⟨g, o + k, none⟩) hg]; exact hcell0
        have hcell2 : wr.cell? ⟨g2, o2 + k, none⟩ = some (.bool m[k]) := by rw [hb.cell (p := ⟨g2, o2 + k, none⟩) hg2]; exact hcell02
        clear hcell0 hcell02 hat hat2 hb
        have hi1 : (k : Int) < (l.length : Int) := by omega
        have hi2 : (k : Int) < (m.length : Int) := by omega
        by_cases he : l[k] = m[k]
        · have HS := Lib.hid (same_next HO.out hlt (by omega) he)
          rw [← he] at hcell2
          clear HO he
          generalize l[k] = x at hcell hcell2
          rcases x with _ | _
          all_goals
            go_wp2_with fail
            go_quiet (fail)
            go_wp2_with fail
            go_roundw
            case rel => exact ⟨k + 1, by omega, by go_num, HS, below_drewN HB.out _⟩
            case measure => simp [intOf]; omega
        · have HS : Hid (decide (l = m) = false) := decide_eq_false (same_not hlt (by omega) he)
          have he1 : m[k] = !l[k] := by revert he; cases l[k] <;> cases m[k] <;> simp
          rw [he1] at hcell2
          clear HO he he1
          generalize l[k] = x at hcell hcell2
          rcases x with _ | _
          all_goals
            go_wp2_with fail
            go_quiet (fail)
            go_wp2_with fail
            go_ret
            exact ⟨ret_bool HS.out.symm, below_drewN HB.out _⟩
      · have HS : Hid (decide (l = m) = true) := decide_eq_true (same_all HO.out (by omega) (by omega))
        clear HO hat hat2 hb
        go_wp2_with fail
        go_ret
        exact ⟨ret_bool HS.out.symm, HB.out⟩
  · have hlen1 : ((l.length : Int) != (m.length : Int)) = true := by simp; omega
    have HS : Hid (decide (l = m) = false) := decide_eq_false (fun h => hlen (by rw [h]))
    clear hat hat2
    go_enter Tryz.func55, Tryz.ntmps55
    go_wp2_with fail
    go_ret
    exact ⟨ret_bool HS.out.symm, Below.refl _ _⟩


/-- A list of lists of ops, wherever it lies. -/
def RowOO (w : World) (v : Value) (rs : List (List OpT)) : Prop :=
  ∃ sl : List Value, sl.length = rs.length ∧ RowV w v sl ∧ ∀ k (h1 : k < sl.length) (h2 : k < rs.length), RowO w sl[k] rs[k]
theorem RowOO.below {w w' : World} {v : Value} {rs : List (List OpT)} (h : RowOO w v rs) (hb : Below w.heap.size w w') : RowOO w' v rs := by
  obtain ⟨sl, h1, h2, h3⟩ := h
  exact ⟨sl, h1, h2.below hb, fun k a b => (h3 k a b).below hb⟩
theorem RowOO.lists {w : World} {v : Value} {rs : List (List OpT)} (h : RowOO w v rs) :
    ∃ a c, v = .slice a rs.length c ∧ rs.length ≤ c ∧ c ≤ maxLen ∧ ∀ k (hk : k < rs.length), ∃ g o a2 c2, a = some ⟨g, o, none⟩ ∧ g < w.heap.size ∧ w.cell? ⟨g, o + k, none⟩ = some (.slice a2 rs[k].length c2) ∧ RowO w (.slice a2 rs[k].length c2) rs[k] := by
  obtain ⟨sl, h1, ⟨a, c, hv, h2, h3, hat⟩, hr⟩ := h
  refine ⟨a, c, by rw [hv, h1], by omega, h3, fun k hk => ?_⟩
  obtain ⟨g, o, ha, hg, hc⟩ := hat k (by omega)
  have hrk := hr k (by omega) hk
  obtain ⟨a2, c2, he, _⟩ := hrk.ops
  rw [he] at hc hrk
  exact ⟨g, o, a2, c2, ha, hg, hc, hrk⟩
theorem elemOO : Elem 40 114 (.slice none 0 0) 24 := ⟨Tryz.underlying40, by kernel_rfl, rfl, by decide⟩

/-- Two lists that do not lie in one block. -/
def ApartO (p q : Value × List OpT) : Prop := ∀ b, p.1.ownBlock = some b → q.1.ownBlock ≠ some b
theorem ApartO.symm {p q : Value × List OpT} (h : ApartO p q) : ApartO q p := fun b h1 h2 => h b h2 h1
/-- Lists of ops of the call's own, no two in one block. -/
def ListsO (B : Nat) (w : World) (L : List (Value × List OpT)) : Prop := (∀ p ∈ L, w.ownsRow B 141 3 p.1 p.2.length (OC p.2)) ∧ L.Pairwise ApartO
theorem ListsO.below {B : Nat} {w w' : World} {L : List (Value × List OpT)} (h : ListsO B w L) (hb : Below w.heap.size w w') : ListsO B w' L := ⟨fun p hp => own_belowG (h.1 p hp) hb, h.2⟩
theorem ListsO.base {B B' : Nat} {w : World} {L : List (Value × List OpT)} (h : ListsO B w L) (hB : B' ≤ B) : ListsO B' w L := ⟨fun p hp => own_baseG (h.1 p hp) hB, h.2⟩
theorem ListsO.snoc {B B2 : Nat} {w w' : World} {L : List (Value × List OpT)} {v : Value} {l : List OpT} (h : ListsO B w L) (hb : Below w.heap.size w w') (hown : w'.ownsRow B2 141 3 v l.length (OC l)) (h2 : w.heap.size ≤ B2) (hB : B ≤ B2) :
    ListsO B w' (L ++ [(v, l)]) := by
  refine ⟨fun p hp => ?_, ?_⟩
  · rw [List.mem_append, List.mem_singleton] at hp
    rcases hp with hp | rfl
    · exact own_belowG (h.1 p hp) hb
    · exact own_baseG hown hB
  · rw [List.pairwise_append]
    refine ⟨h.2, by simp, fun p hp q hq b hpb hqb => ?_⟩
    rw [List.mem_singleton] at hq
    subst hq
    have h1 := ((h.1 p hp).lt b hpb).2
    have h2' := (hown.lt b hqb).1
    omega
theorem own_typesG {w : World} {B B' e e' n n' z z' : Nat} {v v' : Value} {xs xs' : List Value} (h : w.ownsRow B e z v n xs) (h' : w.ownsRow B' e' z' v' n' xs') (hne : e ≠ e') : ∀ k, v.ownBlock = some k → v'.ownBlock ≠ some k := by
  intro k hk hk'
  rcases h.2 with ⟨hv, _⟩ | ⟨g, cap, cur, hv, _, hg, _⟩
  · rw [hv] at hk; simp [Value.ownBlock] at hk
  · rcases h'.2 with ⟨hv', _⟩ | ⟨g', cap', cur', hv', _, hg', _⟩
    · rw [hv'] at hk'; simp [Value.ownBlock] at hk'
    · rw [hv] at hk; rw [hv'] at hk'
      simp only [Value.ownBlock, Option.some.injEq] at hk hk'
      subst hk
      subst hk'
      rw [hg] at hg'
      simp at hg'
      exact hne hg'.2
theorem own_apartG {w w' : World} {B e n z : Nat} {v u : Value} {xs : List Value} (h : w.ownsRow B e z v n xs) (hg : w.grownBy w' u.ownBlock) (hne : ∀ k, u.ownBlock = some k → v.ownBlock ≠ some k) : w'.ownsRow B e z v n xs := by
  refine ⟨h.1, ?_⟩
  rcases h.2 with h0 | ⟨g, cap, cur, hv, hB, hh, r⟩
  · exact .inl h0
  · refine .inr ⟨g, cap, cur, hv, hB, (hg.block g (lt_of_block hh) (fun hi => hne g hi.symm (by rw [hv]; rfl))).trans hh, r⟩
/-- A list of another type has turned. -/
theorem ListsO.outer {B B' e n z : Nat} {w w' : World} {L : List (Value × List OpT)} {u : Value} {xs : List Value} (h : ListsO B w L) (ho : w.ownsRow B' e z u n xs) (he : e ≠ 141) (hg : w.grownBy w' u.ownBlock) : ListsO B w' L :=
  ⟨fun p hp => own_apartG (h.1 p hp) hg (own_typesG ho (h.1 p hp) he), h.2⟩
theorem own_setG {w : World} {B e n z : Nat} {v : Value} {xs : List Value} (h : w.ownsRow B e z v n xs) {p : Addr} (hp : p.block < B) (u : Value) : (w.setCell p u).ownsRow B e z v n xs := by
  refine ⟨h.1, ?_⟩
  rcases h.2 with h0 | ⟨g, cap, cur, hv, hg, hh, r⟩
  · exact .inl h0
  · exact .inr ⟨g, cap, cur, hv, hg, (Below.heap_setCell w p u g (by omega)).trans hh, r⟩
theorem ListsO.set {B : Nat} {w : World} {L : List (Value × List OpT)} (h : ListsO B w L) {p : Addr} (hp : p.block < B) (u : Value) : ListsO B (w.setCell p u) L := ⟨fun q hq => own_setG (h.1 q hq) hp u, h.2⟩
/-- A list of lists of ops of the call's own. -/
def OwnOO (B : Nat) (w : World) (v : Value) (sl : List Value) (rs : List (List OpT)) : Prop := sl.length = rs.length ∧ w.ownsRow B 114 1 v rs.length sl ∧ ListsO B w (sl.zip rs)
theorem zip_getO {sl : List Value} {rs : List (List OpT)} {k : Nat} (h1 : k < sl.length) (h2 : k < rs.length) : (sl[k], rs[k]) ∈ sl.zip rs := by
  rw [List.mem_iff_getElem]
  exact ⟨k, by simp; omega, by simp⟩
theorem OwnOO.view {B : Nat} {w : World} {v : Value} {sl : List Value} {rs : List (List OpT)} (h : OwnOO B w v sl rs) : RowOO w v rs :=
  ⟨sl, h.1, RowV.of_own h.2.1, fun _ h1 h2 => RowO.of_own (h.2.2.1 _ (zip_getO h1 h2))⟩
theorem OwnOO.below {B : Nat} {w w' : World} {v : Value} {sl : List Value} {rs : List (List OpT)} (h : OwnOO B w v sl rs) (hb : Below w.heap.size w w') : OwnOO B w' v sl rs := ⟨h.1, own_below h.2.1 hb, h.2.2.below hb⟩
theorem OwnOO.base {B B' : Nat} {w : World} {v : Value} {sl : List Value} {rs : List (List OpT)} (h : OwnOO B w v sl rs) (hB : B' ≤ B) : OwnOO B' w v sl rs := ⟨h.1, own_base h.2.1 hB, h.2.2.base hB⟩
theorem OwnOO.set {B : Nat} {w : World} {v : Value} {sl : List Value} {rs : List (List OpT)} (h : OwnOO B w v sl rs) {p : Addr} (hp : p.block < B) (u : Value) : OwnOO B (w.setCell p u) v sl rs := ⟨h.1, own_setI h.2.1 hp u, h.2.2.set hp u⟩

/-- How many ops there are. -/
def totalO (rs : List (List OpT)) : Nat := (rs.map List.length).sum
theorem totalO_append (a b : List (List OpT)) : totalO (a ++ b) = totalO a + totalO b := by simp [totalO]
theorem totalO_next {rs : List (List OpT)} {k : Nat} (hk : k < rs.length) : totalO (rs.take (k + 1)) = totalO (rs.take k) + rs[k].length := by
  rw [List.take_succ_eq_append_getElem hk, totalO_append]; rfl
theorem totalO_all {rs : List (List OpT)} {k : Nat} (hk : rs.length ≤ k) : totalO (rs.take k) = totalO rs := by rw [List.take_of_length_le hk]
theorem totalO_le {rs : List (List OpT)} {k : Nat} : totalO (rs.take k) ≤ totalO rs := by
  have := totalO_append (rs.take k) (rs.drop k)
  rw [List.take_append_drop] at this
  omega
theorem totalO_at {rs : List (List OpT)} {k : Nat} (hk : k < rs.length) : rs[k].length ≤ totalO rs := by
  have h1 := totalO_next hk
  have h2 := totalO_le (rs := rs) (k := k + 1)
  omega

set_option maxRecDepth 20000 in
set_option maxHeartbeats 2000000 in
theorem szOpSS_any (rs : List (List OpT)) (left : Nat) (v : Value) (w : World) (hrow : RowOO w v rs) (hx : ∀ l ∈ rs, ∀ f ∈ l, f.2.2.length ≤ maxLen) (hl : left ≤ 2000000) :
    Calls Tryz.prog 35 #[v, .int .i64 (left : Int)] w fun e w' => ∃ r : Int, e = .returned (.int .i64 r) ∧ r ≤ left ∧ (0 ≤ r → r + rs.length + totalO rs ≤ left) ∧ Below w.heap.size w w' := by
  obtain ⟨a, cap, rfl, hc1, hc2, hat⟩ := hrow.lists
  clear hrow
  unfold maxLen at hc2
  by_cases hlen : rs.length ≤ left
  · have hlen1 : decide ((left : Int) - (rs.length : Int) < 0) = false := by simp; omega
    go_enter Tryz.func35, Tryz.ntmps35
    go_wp2_with fail
    go_loopw [1, 5] (fun q i wr => ∃ (k r : Nat), k ≤ rs.length ∧ q = .int .i64 r ∧ i = .int .i64 k ∧ r + rs.length + totalO (rs.take k) ≤ left ∧ Hid (Below w.heap.size w wr)) (fun _ i _ => rs.length - (intOf i).toNat)
    case atStart => exact ⟨0, left - rs.length, Nat.zero_le _, by go_num, rfl, by simp [totalO]; omega, Below.refl _ _⟩
    case round =>
      obtain ⟨k, r, hk, rfl, rfl, hr1, HB⟩ := hrel
      by_cases hlt : k < rs.length
      · obtain ⟨g, o, a2, c2, rfl, hg, hcell0, hrk⟩ := hat k hlt
        have hcell := (HB.out.cell (p := ⟨g, o + k, none⟩) hg).trans hcell0
        have HC := Lib.hid (szOpS_any rs[k] r _ wr (hrk.below HB.out) (hx rs[k] (List.getElem_mem hlt)) (by omega))
        have HT := Lib.hid (totalO_next hlt)
        have HR := Lib.hid hr1
        have hr2 : r ≤ 2000000 := by omega
        clear hcell0 hat hrk hx hr1
        generalize rs[k].length = n at hcell HC HT
        go_wp2_with fail
        refine HC.out.mono ?_
        rintro e w1 ⟨r1, rfl, hle, hif, hb1⟩
        have HB1 := Lib.hid (HB.out.trans (hb1.mono HB.out.size))
        clear hb1 HC
        by_cases h0 : 0 ≤ r1
        · obtain ⟨r2, rfl⟩ : ∃ r2 : Nat, r1 = r2 := ⟨r1.toNat, by omega⟩
          have hd : decide ((r2 : Int) < 0) = false := decide_eq_false (by omega)
          have HS2 : Hid (r2 + rs.length + totalO (rs.take (k + 1)) ≤ left) := by have h1 := (hif h0).1; have h2 := HT.out; have h3 := HR.out; unfold Hid; omega
          clear hif
          go_wp2_with fail
          go_roundw
          case rel => exact ⟨k + 1, r2, by omega, rfl, by go_num, HS2.out, HB1⟩
          case measure => simp [intOf]; omega
        · have hd : decide (r1 < 0) = true := decide_eq_true (by omega)
          clear hif
          go_wp2_with fail
          go_ret
          exact ⟨-1, rfl, by omega, fun h => by omega, HB1.out⟩
      · have HS : Hid (r + rs.length + totalO rs ≤ left) := by have := hr1; rw [totalO_all (by omega)] at this; exact this
        clear hat hx hr1
        go_wp2_with fail
        go_ret
        exact ⟨r, rfl, by have := HS.out; omega, fun _ => by have := HS.out; omega, HB.out⟩
  · have hlen1 : decide ((left : Int) - (rs.length : Int) < 0) = true := by simp; omega
    clear hat hx
    go_enter Tryz.func35, Tryz.ntmps35
    go_wp2_with fail
    go_ret
    exact ⟨-1, rfl, by omega, fun h => by omega, Below.refl _ _⟩

/-- A copy of a list of lists of ops. -/
def ListsPostO (rs : List (List OpT)) (w : World) (e : Ending) (w' : World) : Prop := ∃ v' sl, e = .returned v' ∧ OwnOO w.heap.size w' v' sl rs ∧ Below w.heap.size w w'
theorem zip_snocO (sl : List Value) (rs : List (List OpT)) (k : Nat) (hk : k < rs.length) (hs : sl.length = k) (u : Value) : (sl ++ [u]).zip (rs.take (k + 1)) = sl.zip (rs.take k) ++ [(u, rs[k])] := by
  rw [List.take_succ_eq_append_getElem hk, List.zip_append (by rw [List.length_take]; omega)]
  rfl

set_option maxRecDepth 20000 in
set_option maxHeartbeats 2000000 in
theorem toOpSS_any (rs : List (List OpT)) (v : Value) (w : World) (hrow : RowOO w v rs) (hl : rs.length + totalO rs ≤ 2000000) :
    Calls Tryz.prog 46 #[v] w (ListsPostO rs w) := by
  obtain ⟨a, cap, rfl, hc1, hc2, hat⟩ := hrow.lists
  clear hrow
  unfold maxLen at hc2
  obtain ⟨w0, hmk, hown0, hb0⟩ := make_row elemOO rfl rs.length w (by omega)
  have HN0 := Lib.hid hown0
  have HB0 := Lib.hid hb0
  clear hown0 hb0
  go_enter Tryz.func46, Tryz.ntmps46
  go_wp2_with fail
  clear hmk
  go_loopw [4] (fun i wr => ∃ (k : Nat) (sl : List Value), k ≤ rs.length ∧ i = .int .i64 k ∧ sl.length = k ∧ wr.ownsRow w.heap.size 114 1 (.slice (some ⟨w.heap.size, 0, none⟩) rs.length rs.length) rs.length (sl ++ List.replicate (rs.length - k) (.slice none 0 0)) ∧ ListsO w.heap.size wr (sl.zip (rs.take k)) ∧ Below w.heap.size w wr) (fun i _ => rs.length - (intOf i).toNat)
  case atStart => exact ⟨0, [], Nat.zero_le _, rfl, rfl, by simpa using HN0.out, by simp [ListsO], HB0.out⟩
  case round =>
    clear HN0 HB0
    obtain ⟨k, sl, hk, rfl, hsl, hown, hls, hb⟩ := hrel
    have HO := Lib.hid hown
    have HL := Lib.hid hls
    have HB := Lib.hid hb
    by_cases hlt : k < rs.length
    · obtain ⟨g, o, a2, c2, rfl, hg, hcell0, hrk⟩ := hat k hlt
      have hcell : wr.cell? ⟨g, o + k, none⟩ = some (.slice a2 rs[k].length c2) := by rw [hb.cell (p := ⟨g, o + k, none⟩) hg]; exact hcell0
      have HC := Lib.hid (toOpS_any rs[k] _ wr (hrk.below hb) (by have := totalO_at hlt; omega))
      have HZ := Lib.hid (zip_snocO sl rs k hlt hsl)
      clear hcell0 hat hown hls hb hrk
      have hsl' := hsl
      generalize rs[k] = x at hcell HC HZ
      go_wp2_with fail
      refine HC.out.mono ?_
      rintro e w1 ⟨v1, rfl, hown1, hb1⟩
      have h2 := own_below HO.out hb1
      have hfz := h2.frozenAt k
      have hcz : w1.cell? ⟨w.heap.size, k, none⟩ = some (.slice none 0 0) := by rw [h2.cellAt k (by omega), get_sl sl _ _ k hsl' hlt]
      have hst := h2.stored k v1
      rw [set_sl sl v1 _ _ k hsl' hlt] at hst
      have HN1 := Lib.hid hst.1
      have HL1 := Lib.hid (((HL.out.snoc hb1 hown1 (Nat.le_refl _) HB.out.size).outer h2 (by decide) hst.2))
      have HB1 := Lib.hid ((bth HB.out hb1 (Nat.le_refl _)).trans (only_below hst.2 (Nat.le_refl _) (Nat.le_trans HB.out.size hb1.size)))
      rw [← HZ.out v1] at HL1
      obtain ⟨a3, c3, rfl⟩ := own_sliceG hown1
      clear hst h2 hown1 hb1 HO HL HB HC HZ hsl
      go_wp2_with fail
      go_roundw
      case rel => exact ⟨k + 1, _, by omega, by go_num, by simp [hsl'], HN1.out, HL1.out, HB1.out⟩
      case measure => simp [intOf]; omega
    · obtain rfl : k = rs.length := by omega
      have HN1 : Hid (OwnOO w.heap.size wr (.slice (some ⟨w.heap.size, 0, none⟩) rs.length rs.length) sl rs) := by
        rw [Nat.sub_self, List.replicate_zero, List.append_nil] at hown
        rw [List.take_length] at hls
        exact ⟨hsl, hown, hls⟩
      clear hown hls hb hat HO HL
      go_wp2_with fail
      go_ret
      exact ⟨_, _, rfl, HN1.out, HB.out⟩

theorem eqOpS_b {l m : List OpT} {v u : Value} {w : World} {b : Bool} (hr1 : RowO w v l) (hr2 : RowO w u m) (hl : l.length ≤ 2000000) (h : decide (l = m) = b) :
    Calls Tryz.prog 92 #[v, u] w fun e w' => e = .returned (.bool b) ∧ Below w.heap.size w w' := by
  subst h
  exact eqOpS_any l m v u w hr1 hr2 hl

set_option maxRecDepth 20000 in
set_option maxHeartbeats 2000000 in
theorem eqOpSS_any (l m : List (List OpT)) (v u : Value) (w : World) (hr1 : RowOO w v l) (hr2 : RowOO w u m) (hl : l.length + totalO l ≤ 2000000) :
    Calls Tryz.prog 56 #[v, u] w fun e w' => e = .returned (.bool (decide (l = m))) ∧ Below w.heap.size w w' := by
  obtain ⟨a, cap, rfl, hc1, hc2, hat⟩ := hr1.lists
  obtain ⟨a2, cap2, rfl, hc3, hc4, hat2⟩ := hr2.lists
  clear hr1 hr2
  unfold maxLen at hc2 hc4
  by_cases hlen : l.length = m.length
  · have hlen1 : ((l.length : Int) != (m.length : Int)) = false := by simp [hlen]
    have HLEN := Lib.hid hlen
    clear hlen
    go_enter Tryz.func56, Tryz.ntmps56
    go_wp2_with fail
    go_loopw [5] (fun i wr => ∃ k : Nat, k ≤ l.length ∧ i = .int .i64 k ∧ Hid (l.take k = m.take k) ∧ Below w.heap.size w wr) (fun i _ => l.length - (intOf i).toNat)
    case atStart => exact ⟨0, Nat.zero_le _, rfl, rfl, Below.refl _ _⟩
    case round =>
      obtain ⟨k, hk, rfl, HO, hb⟩ := hrel
      have HB := Lib.hid hb
      by_cases hlt : k < l.length
      · obtain ⟨g, o, b1, d1, rfl, hg, hcell0, hrk⟩ := hat k hlt
        obtain ⟨g2, o2, b2, d2, rfl, hg2, hcell02, hrk2⟩ := hat2 k (by have := HLEN.out; omega)
        have hcell : wr.cell? ⟨g, o + k, none⟩ = some (.slice b1 l[k].length d1) := by rw [hb.cell (p := ⟨g, o + k, none⟩) hg]; exact hcell0
        have hcell2 : wr.cell? ⟨g2, o2 + k, none⟩ = some (.slice b2 m[k].length d2) := by rw [hb.cell (p := ⟨g2, o2 + k, none⟩) hg2]; exact hcell02
        have hi1 : (k : Int) < (l.length : Int) := by omega
        have hlt2 : k < m.length := by have := HLEN.out; omega
        have hi2 : (k : Int) < (m.length : Int) := by omega
        have hx : l[k].length ≤ 2000000 := by have := totalO_at hlt; omega
        by_cases he : l[k] = m[k]
        · have HS := Lib.hid (same_next HO.out hlt hlt2 he)
          have HC := Lib.hid (fun W (h : Below w.heap.size w W) => eqOpS_b (hrk.below h) (hrk2.below h) hx (decide_eq_true he))
          clear hcell0 hcell02 hat hat2 hb hrk hrk2 hx he
          generalize l[k].length = n1 at hcell HC
          generalize m[k].length = n2 at hcell2 HC
          clear HO
          have ks := And.intro hcell hcell2
          have hgw : g < wr.heap.size := Nat.lt_of_lt_of_le hg HB.out.size
          have hgw2 : g2 < wr.heap.size := Nat.lt_of_lt_of_le hg2 HB.out.size
          clear hcell hcell2
          go_wp2_with fail
          go_region_held3 (fun w' => w'.cell? ⟨g, o + k, none⟩ = some (.slice b1 n1 d1) ∧ w'.cell? ⟨g2, o2 + k, none⟩ = some (.slice b2 n2 d2)) (first | exact ks)
            (first | (go_at_call 92; refine (HC.out _ (Below.drew HB.out)).mono ?_; rintro e w5 ⟨rfl, hb5⟩; have ks := And.intro ((hb5.cell (p := ⟨g, o + k, none⟩) hgw).trans ks.1) ((hb5.cell (p := ⟨g2, o2 + k, none⟩) hgw2).trans ks.2)))
          have HB5 := Lib.hid (bth (Below.drew HB.out) hb5 (Nat.le_refl _))
          clear hb5 ks
          go_wp2_with fail
          go_roundw
          case rel => exact ⟨k + 1, by omega, by go_num, HS, HB5.out⟩
          case measure => simp [intOf]; omega
        · have HS : Hid (decide (l = m) = false) := decide_eq_false (same_not hlt hlt2 he)
          have HC := Lib.hid (fun W (h : Below w.heap.size w W) => eqOpS_b (hrk.below h) (hrk2.below h) hx (decide_eq_false he))
          clear hcell0 hcell02 hat hat2 hb hrk hrk2 hx he
          generalize l[k].length = n1 at hcell HC
          generalize m[k].length = n2 at hcell2 HC
          clear HO
          have ks := And.intro hcell hcell2
          have hgw : g < wr.heap.size := Nat.lt_of_lt_of_le hg HB.out.size
          have hgw2 : g2 < wr.heap.size := Nat.lt_of_lt_of_le hg2 HB.out.size
          clear hcell hcell2
          go_wp2_with fail
          go_region_held3 (fun w' => w'.cell? ⟨g, o + k, none⟩ = some (.slice b1 n1 d1) ∧ w'.cell? ⟨g2, o2 + k, none⟩ = some (.slice b2 n2 d2)) (first | exact ks)
            (first | (go_at_call 92; refine (HC.out _ (Below.drew HB.out)).mono ?_; rintro e w5 ⟨rfl, hb5⟩; have ks := And.intro ((hb5.cell (p := ⟨g, o + k, none⟩) hgw).trans ks.1) ((hb5.cell (p := ⟨g2, o2 + k, none⟩) hgw2).trans ks.2)))
          have HB5 := Lib.hid (bth (Below.drew HB.out) hb5 (Nat.le_refl _))
          clear hb5 ks
          go_wp2_with fail
          go_ret
          exact ⟨ret_bool HS.out.symm, HB5.out⟩
      · have HS : Hid (decide (l = m) = true) := decide_eq_true (same_all HO.out (by omega) (by have := HLEN.out; omega))
        clear HO hat hat2 hb
        go_wp2_with fail
        go_ret
        exact ⟨ret_bool HS.out.symm, HB.out⟩
  · have hlen1 : ((l.length : Int) != (m.length : Int)) = true := by simp; omega
    have HS : Hid (decide (l = m) = false) := decide_eq_false (fun h => hlen (by rw [h]))
    clear hat hat2
    go_enter Tryz.func56, Tryz.ntmps56
    go_wp2_with fail
    go_ret
    exact ⟨ret_bool HS.out.symm, Below.refl _ _⟩


end Go.Proofs.YtgolhfmmlanmlaaGreatDoor

/- Plans in memory, wherever they lie and as0 memory of the call's own; the laws' helpers on them: how large, copies, whether they are the same. -/
namespace Go.Proofs.YtgolhfmmlanmlaaGreatDoor
open Go.RowKit Pth

/-- A plan, wherever it lies. -/
def PlanV (w : World) (v : Value) (ls : List (List Int)) (l : List Int) (bs : List Bool) (rs : List (List OpT)) : Prop :=
  ∃ nv ov sv rv, v = .agg #[nv, ov, sv, rv] ∧ RowN w nv ls ∧ RowV w ov (I l) ∧ RowV w sv (BL bs) ∧ RowOO w rv rs
theorem PlanV.below {w w' : World} {v : Value} {ls : List (List Int)} {l : List Int} {bs : List Bool} {rs : List (List OpT)} (h : PlanV w v ls l bs rs) (hb : Below w.heap.size w w') : PlanV w' v ls l bs rs := by
  obtain ⟨nv, ov, sv, rv, hv, h1, h2, h3, h4⟩ := h
  exact ⟨nv, ov, sv, rv, hv, h1.below hb, h2.below hb, h3.below hb, h4.below hb⟩
/-- How large a plan is. -/
def planZ (ls : List (List Int)) (l : List Int) (bs : List Bool) (rs : List (List OpT)) : Nat := ls.length + total ls + l.length + bs.length + rs.length + totalO rs

theorem GraphO.set {B : Nat} {w : World} {v : Value} {ls : List (List Int)} {l : List Int} (h : GraphO B w v ls l) {p : Addr} (hp : p.block < B) (u : Value) : GraphO B (w.setCell p u) v ls l := by
  obtain ⟨nv, ov, sl, hv, h1, h2, h3⟩ := h
  exact ⟨nv, ov, sl, hv, h1, own_setI h2 hp u, h3.set hp u⟩
/-- A plan of the call's own. -/
def PlanO (B : Nat) (w : World) (v : Value) (ls : List (List Int)) (l : List Int) (bs : List Bool) (rs : List (List OpT)) : Prop :=
  ∃ nv ov sv rv so, v = .agg #[nv, ov, sv, rv] ∧ GraphO B w (.agg #[nv, ov]) ls l ∧ w.ownsRow B 4 1 sv bs.length (BL bs) ∧ OwnOO B w rv so rs
theorem PlanO.view {B : Nat} {w : World} {v : Value} {ls : List (List Int)} {l : List Int} {bs : List Bool} {rs : List (List OpT)} (h : PlanO B w v ls l bs rs) : PlanV w v ls l bs rs := by
  obtain ⟨nv, ov, sv, rv, so, hv, h1, h2, h3⟩ := h
  obtain ⟨nv', ov', he, h4, h5⟩ := h1.view
  simp only [Value.agg.injEq, Array.mk.injEq, List.cons.injEq, and_true] at he
  obtain ⟨rfl, rfl⟩ := he
  exact ⟨nv, ov, sv, rv, hv, h4, h5, RowV.of_own h2, h3.view⟩
theorem PlanO.below {B : Nat} {w w' : World} {v : Value} {ls : List (List Int)} {l : List Int} {bs : List Bool} {rs : List (List OpT)} (h : PlanO B w v ls l bs rs) (hb : Below w.heap.size w w') : PlanO B w' v ls l bs rs := by
  obtain ⟨nv, ov, sv, rv, so, hv, h1, h2, h3⟩ := h
  exact ⟨nv, ov, sv, rv, so, hv, h1.below hb, own_below h2 hb, h3.below hb⟩

/-- A block of four cells. -/
def Blk4 (w : World) (b t : Nat) (x y z u : Value) : Prop := w.heap[b]? = some (.cells #[x, y, z, u] t (0, 0))
theorem Blk4.cells {w : World} {b t : Nat} {x y z u : Value} (h : Blk4 w b t x y z u) : w.cell? ⟨b, 0, none⟩ = some x ∧ w.cell? ⟨b, 1, none⟩ = some y ∧ w.cell? ⟨b, 2, none⟩ = some z ∧ w.cell? ⟨b, 3, none⟩ = some u := by
  refine ⟨?_, ?_, ?_, ?_⟩ <;> rw [cell_of_row w b _ _ t (0, 0) h] <;> rfl
theorem Blk4.soft {w : World} {b t : Nat} {x y z u : Value} (h : Blk4 w b t x y z u) (j : Nat) : w.frozen? ⟨b, j, none⟩ = false := frozen_of_row w b j _ t h
theorem Blk4.set0 {w : World} {b t : Nat} {x y z u : Value} (h : Blk4 w b t x y z u) (n : Value) : Blk4 (w.setCell ⟨b, 0, none⟩ n) b t n y z u := heap_setCell_same w b 0 _ t n h
theorem Blk4.set1 {w : World} {b t : Nat} {x y z u : Value} (h : Blk4 w b t x y z u) (n : Value) : Blk4 (w.setCell ⟨b, 1, none⟩ n) b t x n z u := heap_setCell_same w b 1 _ t n h
theorem Blk4.set2 {w : World} {b t : Nat} {x y z u : Value} (h : Blk4 w b t x y z u) (n : Value) : Blk4 (w.setCell ⟨b, 2, none⟩ n) b t x y n u := heap_setCell_same w b 2 _ t n h
theorem Blk4.set3 {w : World} {b t : Nat} {x y z u : Value} (h : Blk4 w b t x y z u) (n : Value) : Blk4 (w.setCell ⟨b, 3, none⟩ n) b t x y z n := heap_setCell_same w b 3 _ t n h
theorem Blk4.below {w w' : World} {B b t : Nat} {x y z u : Value} (h : Blk4 w b t x y z u) (hb : Below B w w') (hlt : b < B) : Blk4 w' b t x y z u := (hb.block b hlt).trans h
theorem Blk4.new {w : World} {t : Nat} {x y z u : Value} : Blk4 (w.alloc (.cells #[x, y, z, u] t)) w.heap.size t x y z u := heap_alloc_new w _
theorem Blk4.old {w : World} {b t : Nat} {x y z u : Value} (h : Blk4 w b t x y z u) (o : Obj) : Blk4 (w.alloc o) b t x y z u := (Below.heap_alloc w o b (lt_of_block h)).trans h
theorem Blk4.other {w : World} {b t : Nat} {x y z u : Value} (h : Blk4 w b t x y z u) {p : Addr} (hp : b ≠ p.block) (n : Value) : Blk4 (w.setCell p n) b t x y z u := (Below.heap_setCell w p n b hp).trans h

set_option maxRecDepth 20000 in
set_option maxHeartbeats 2000000 in
theorem szPlan_any (ls : List (List Int)) (l : List Int) (bs : List Bool) (rs : List (List OpT)) (left : Nat) (v : Value) (w : World) (hp : PlanV w v ls l bs rs) (hx : ∀ l ∈ rs, ∀ f ∈ l, f.2.2.length ≤ maxLen) (hl : left ≤ 2000000) :
    Calls Tryz.prog 6 #[v, .int .i64 (left : Int)] w fun e w' => ∃ r : Int, e = .returned (.int .i64 r) ∧ r ≤ left ∧ (0 ≤ r → r + planZ ls l bs rs ≤ left) ∧ Below w.heap.size w w' := by
  obtain ⟨nv, ov, sv, rv, rfl, h1, h2, h3, h4⟩ := hp
  obtain ⟨as0, cs, rfl, hs1, hs2, _⟩ := h3.boolsW
  obtain ⟨an, cn, rfl, _⟩ := h1.lists
  obtain ⟨ao, co, rfl, _⟩ := h2.ints
  obtain ⟨ar, cr, rfl, _⟩ := h4.lists
  have hbl : bs.length ≤ maxLen := by omega
  obtain ⟨wa, hwa⟩ : ∃ wa, wa = w.alloc (.cells #[.slice an ls.length cn, .slice ao l.length co, .slice as0 bs.length cs, .slice ar rs.length cr] 29) := ⟨_, rfl⟩
  have P0 : Hid (Blk4 wa w.heap.size 29 (.slice an ls.length cn) (.slice ao l.length co) (.slice as0 bs.length cs) (.slice ar rs.length cr)) := by rw [hwa]; exact Blk4.new
  have hsz : wa.heap.size = w.heap.size + 1 := by rw [hwa]; simp
  have HA : Hid (Below w.heap.size w wa) := by rw [hwa]; exact (Below.refl w.heap.size w).alloc (Nat.le_refl _) _
  have HG : Hid (GraphV wa (.agg #[.slice an ls.length cn, .slice ao l.length co]) ls l) := ⟨_, _, rfl, h1.below HA.out, h2.below HA.out⟩
  have H4 := Lib.hid h4
  have HX := Lib.hid hx
  have HWA := Lib.hid hwa
  clear hwa h1 h2 h3 h4 hx
  go_enter Tryz.func6, Tryz.ntmps6
  go_wp2_with fail
  rw [← HWA.out]
  refine (szGraph_any ls l left _ wa HG.out hl).mono ?_
  rintro e w1 ⟨r1, rfl, hr1, hb1⟩
  have HR1 := Lib.hid hr1
  have HB1 := Lib.hid (bth HA.out hb1 (Nat.le_refl _))
  have P1 := Lib.hid (P0.out.below hb1 (by omega))
  clear hr1 hb1
  by_cases p1 : 0 ≤ r1
  · obtain ⟨n1, rfl⟩ : ∃ n1 : Nat, r1 = n1 := ⟨r1.toNat, by omega⟩
    have HQ := Lib.hid (HR1.out p1)
    have q1 : n1 ≤ 2000000 := by have := HQ.out; omega
    have t1 : decide ((n1 : Int) < 0) = false := decide_eq_false (by omega)
    have c2 := P1.out.cells.2.2.1
    clear HR1
    go_wp2_with fail
    refine (szBoolS_any as0 bs.length cs n1 w1 hbl q1).mono ?_
    rintro e w2 ⟨r2, rfl, hr2, rfl⟩
    have HR2 := Lib.hid hr2
    clear hr2
    by_cases p2 : 0 ≤ r2
    · obtain ⟨n2, rfl⟩ : ∃ n2 : Nat, r2 = n2 := ⟨r2.toNat, by omega⟩
      have HQ2 := Lib.hid (HR2.out p2)
      have q2 : n2 ≤ 2000000 := by have := HQ2.out; omega
      have t2 : decide ((n2 : Int) < 0) = false := decide_eq_false (by omega)
      have c3 := P1.out.cells.2.2.2
      clear HR2
      go_wp2_with fail
      refine (szOpSS_any rs n2 _ w1 (H4.out.below HB1.out) HX.out q2).mono ?_
      rintro e w3 ⟨r3, rfl, hle3, hr3, hb3⟩
      have HR3 := Lib.hid hr3
      have HB3 := Lib.hid (bth HB1.out hb3 (Nat.le_refl _))
      clear hr3 hb3
      by_cases p3 : 0 ≤ r3
      · have t3 : decide (r3 < 0) = false := decide_eq_false (by omega)
        go_wp2_with fail
        go_ret
        exact ⟨r3, rfl, by have := HQ.out; have := HQ2.out; omega, fun h => by have h1 := HQ.out; have h2 := HQ2.out; have h3 := HR3.out h; unfold planZ; omega, HB3.out⟩
      · have t3 : decide (r3 < 0) = true := decide_eq_true (by omega)
        go_wp2_with fail
        go_ret
        exact ⟨-1, rfl, by omega, fun h => by omega, HB3.out⟩
    · have t2 : decide (r2 < 0) = true := decide_eq_true (by omega)
      go_wp2_with fail
      go_ret
      exact ⟨-1, rfl, by omega, fun h => by omega, HB1.out⟩
  · have t1 : decide (r1 < 0) = true := decide_eq_true (by omega)
    clear HR1
    go_wp2_with fail
    go_ret
    exact ⟨-1, rfl, by omega, fun h => by omega, HB1.out⟩

set_option maxRecDepth 20000 in
set_option maxHeartbeats 2000000 in
theorem eqPlan_same (ls : List (List Int)) (l : List Int) (bs : List Bool) (rs : List (List OpT)) (v u : Value) (w : World) (hp : PlanV w v ls l bs rs) (hq : PlanV w u ls l bs rs) (hz : planZ ls l bs rs ≤ 2000000) :
    Calls Tryz.prog 16 #[v, u] w fun e w' => e = .returned (.bool true) ∧ Below w.heap.size w w' := by
  obtain ⟨nv, ov, sv, rv, rfl, h1, h2, h3, h4⟩ := hp
  obtain ⟨nu, ou, su, ru, rfl, k1, k2, k3, k4⟩ := hq
  unfold planZ at hz
  have H3 := Lib.hid h3
  have H4 := Lib.hid h4
  have K3 := Lib.hid k3
  have K4 := Lib.hid k4
  obtain ⟨as0, cs, rfl, _⟩ := h3.boolsW
  obtain ⟨an, cn, rfl, _⟩ := h1.lists
  obtain ⟨ao, co, rfl, _⟩ := h2.ints
  obtain ⟨ar, cr, rfl, _⟩ := h4.lists
  obtain ⟨bs', ds, rfl, _⟩ := k3.boolsW
  obtain ⟨bn, dn, rfl, _⟩ := k1.lists
  obtain ⟨bo, do', rfl, _⟩ := k2.ints
  obtain ⟨br, dr, rfl, _⟩ := k4.lists
  obtain ⟨wa, hwa⟩ : ∃ wa, wa = (w.alloc (.cells #[.slice an ls.length cn, .slice ao l.length co, .slice as0 bs.length cs, .slice ar rs.length cr] 42)).alloc (.cells #[.slice bn ls.length dn, .slice bo l.length do', .slice bs' bs.length ds, .slice br rs.length dr] 42) := ⟨_, rfl⟩
  have hsz : wa.heap.size = w.heap.size + 2 := by rw [hwa]; simp
  have P0 : Hid (Blk4 wa w.heap.size 42 (.slice an ls.length cn) (.slice ao l.length co) (.slice as0 bs.length cs) (.slice ar rs.length cr)) := by rw [hwa]; exact Blk4.new.old _
  have O0 : Hid (Blk4 wa (w.heap.size + 1) 42 (.slice bn ls.length dn) (.slice bo l.length do') (.slice bs' bs.length ds) (.slice br rs.length dr)) := by
    rw [hwa]
    have := Blk4.new (w := w.alloc (.cells #[.slice an ls.length cn, .slice ao l.length co, .slice as0 bs.length cs, .slice ar rs.length cr] 42)) (t := 42) (x := .slice bn ls.length dn) (y := .slice bo l.length do') (z := .slice bs' bs.length ds) (u := .slice br rs.length dr)
    simpa [Hid] using this
  have HA : Hid (Below w.heap.size w wa) := by rw [hwa]; exact ((Below.refl w.heap.size w).alloc (Nat.le_refl _) _).alloc (by simp) _
  have HG : Hid (GraphV wa (.agg #[.slice an ls.length cn, .slice ao l.length co]) ls l) := ⟨_, _, rfl, h1.below HA.out, h2.below HA.out⟩
  have HK : Hid (GraphV wa (.agg #[.slice bn ls.length dn, .slice bo l.length do']) ls l) := ⟨_, _, rfl, k1.below HA.out, k2.below HA.out⟩
  have HWA := Lib.hid hwa
  clear hwa h1 h2 h3 h4 k1 k2 k3 k4
  go_enter Tryz.func16, Tryz.ntmps16
  go_wp2_with fail
  rw [← HWA.out]
  refine (eqGraph_any ls ls l l _ _ wa HG.out HK.out (by omega)).mono ?_
  rw [sameG_self]
  rintro e w1 ⟨rfl, hb1⟩
  have HB1 := Lib.hid (bth HA.out hb1 (Nat.le_refl _))
  have P1 := Lib.hid (P0.out.below hb1 (by omega))
  have O1 := Lib.hid (O0.out.below hb1 (by omega))
  have hs1 := hb1.size
  have c2 := P1.out.cells.2.2.1
  have d2 := O1.out.cells.2.2.1
  clear hb1
  go_wp2_with fail
  refine (eqBoolS_any bs bs _ _ w1 (H3.out.below HB1.out) (K3.out.below HB1.out) (by omega)).mono ?_
  rw [decide_eq_true (rfl : bs = bs)]
  rintro e w2 ⟨rfl, hb2⟩
  have HB2 := Lib.hid (bth HB1.out hb2 (Nat.le_refl _))
  have c3 := (P1.out.below hb2 (by omega)).cells.2.2.2
  have d3 := (O1.out.below hb2 (by omega)).cells.2.2.2
  clear hb2 c2 d2
  go_wp2_with fail
  refine (eqOpSS_any rs rs _ _ w2 (H4.out.below HB2.out) (K4.out.below HB2.out) (by omega)).mono ?_
  rw [decide_eq_true (rfl : rs = rs)]
  rintro e w3 ⟨rfl, hb3⟩
  have HB3 := Lib.hid (bth HB2.out hb3 (Nat.le_refl _))
  clear hb3 c3 d3
  go_wp2_with fail
  go_ret
  exact ⟨rfl, HB3.out⟩

theorem load_plan {w : World} {b : Nat} {x y z u : Value} (h : Blk4 w b 42 x y z u) : (loadVar 42 ⟨b, 0, none⟩).run Tryz.prog w = .ok (.agg #[x, y, z, u]) w := by
  obtain ⟨h0, h1, h2, h3⟩ := h.cells
  clear h
  go_simp
end Go.Proofs.YtgolhfmmlanmlaaGreatDoor
