/- Texts of one claim, joined in their order. -/
import Derived.Test.YtnnojeoehomadaaDoorM4
import Derived.Test.YtnnojeoehomadaaDoorM5

/- Walks: the laws' helpers on lists of ops: how much they hold, copies, whether they are the same. -/
namespace Go.Proofs.YtnnojeoehomadaaDoor
open Go.RowKit Pth

def noOp : OpT := (0, 0, [])
/-- Ops are handed back, in memory of the call's own. -/
def OpsPost (l : List OpT) (w : World) (e : Ending) (w' : World) : Prop :=
  ∃ v, e = .returned v ∧ w'.ownsRow w.heap.size 30 3 v l.length (OC l) ∧ Below w.heap.size w w'
theorem OC_zero (n : Nat) : OC (List.replicate n noOp) = (madeCells #[.int .i64 0, .int .i64 0, .string ByteArray.empty] (n * 3)).toList := by
  apply List.ext_getElem?
  intro j
  by_cases hj : j < n * 3
  · have hd : j / 3 < n := by omega
    obtain ⟨q0, q1, q2⟩ := OC_at (l := List.replicate n noOp) (k := j / 3) (by simpa using hd)
    have hm : j % 3 = 0 ∨ j % 3 = 1 ∨ j % 3 = 2 := by omega
    rcases hm with h | h | h
    · rw [show j = j / 3 * 3 by omega, q0]
      simp [madeCells, noOp, hd]
    · rw [show j = j / 3 * 3 + 1 by omega, q1]
      have e : (j / 3 * 3 + 1) % 3 = 1 := by omega
      have e2 : j / 3 * 3 + 1 < n * 3 := by omega
      simp [madeCells, noOp, e, e2]
    · rw [show j = j / 3 * 3 + 2 by omega, q2]
      have e : (j / 3 * 3 + 2) % 3 = 2 := by omega
      have e2 : j / 3 * 3 + 2 < n * 3 := by omega
      simp [madeCells, noOp, e, e2]; rfl
  · rw [List.getElem?_eq_none (by rw [OC_len]; simp; omega)]
    simp [madeCells, hj]
theorem make_rowO (n : Nat) (w : World) (hn : n ≤ 2000000) :
    ∃ w', (Instr.makeSlice 23 (.int .i64 (n : Int)) (.int .i64 (n : Int))).run Tryd.prog w = .ok (.slice (some ⟨w.heap.size, 0, none⟩) n n) w' ∧
      w'.ownsRow w.heap.size 30 3 (.slice (some ⟨w.heap.size, 0, none⟩) n n) n (OC (List.replicate n noOp)) ∧ Below w.heap.size w w' := by
  obtain ⟨i0, hi, hz0, hz1, hz2⟩ := info_parts elemO.info
  obtain ⟨w', h1, h2, h3⟩ := run_makeSlice_full (P := Tryd.prog) w w.heap.size _ _ i0 _ 3 elemO.under hi hz0 hz1 .i64 .i64 n (by omega) (by rw [hz2]; exact Nat.le_trans (Nat.mul_le_mul elemO.small hn) (by decide)) (by unfold maxLen; omega) (Nat.le_refl _)
  rw [OC_zero]
  exact ⟨w', h1, h2, (Below.refl _ w).grown h3 (Nat.le_refl _) (fun k hk => by cases hk)⟩
theorem set_three (a : List OpT) (k : Nat) (ha : a.length = k) (p : OpT) (rest : List OpT) (x : OpT) :
    (((OC a ++ OC (p :: rest)).set (k * 3) (.int .i64 x.1)).set (k * 3 + 1) (.int .i64 x.2.1)).set (k * 3 + 2) (.string ⟨x.2.2.toArray⟩) = OC (a ++ [x]) ++ OC rest := by
  have hl : (OC a).length = k * 3 := by rw [OC_len, ha]
  rw [List.set_append_right _ _ (by omega), hl, Nat.sub_self, List.set_append_right _ _ (by omega), hl, show k * 3 + 1 - k * 3 = 1 by omega, List.set_append_right _ _ (by omega), hl, show k * 3 + 2 - k * 3 = 2 by omega, OC_append]
  simp [OC, opC]
theorem get_three (a : List OpT) (k : Nat) (ha : a.length = k) (p : OpT) (rest : List OpT) :
    (OC a ++ OC (p :: rest))[k * 3]? = some (.int .i64 p.1) ∧ (OC a ++ OC (p :: rest))[k * 3 + 1]? = some (.int .i64 p.2.1) ∧ (OC a ++ OC (p :: rest))[k * 3 + 2]? = some (.string ⟨p.2.2.toArray⟩) := by
  have hl : (OC a).length = k * 3 := by rw [OC_len, ha]
  rw [List.getElem?_append_right (by omega), hl, Nat.sub_self, List.getElem?_append_right (by omega), hl, show k * 3 + 1 - k * 3 = 1 by omega, List.getElem?_append_right (by omega), hl, show k * 3 + 2 - k * 3 = 2 by omega]
  exact ⟨rfl, rfl, rfl⟩

set_option maxRecDepth 20000 in
set_option maxHeartbeats 1000000 in
theorem szOpS_any (l : List OpT) (left : Nat) (v : Value) (w : World) (hrow : RowO w v l) (hx : ∀ f ∈ l, f.2.2.length ≤ maxLen) (hl : left ≤ 2000000) :
    Calls Tryd.prog 14 #[v, .int .i64 (left : Int)] w fun e w' => ∃ r : Int, e = .returned (.int .i64 r) ∧ r ≤ left ∧ (0 ≤ r → r + l.length ≤ left ∧ ∀ f ∈ l, f.2.2.length ≤ left) ∧ Below w.heap.size w w' := by
  obtain ⟨a, cap, rfl, hc1, hc2, hat⟩ := hrow.ops
  clear hrow
  unfold maxLen at hc2
  by_cases hlen : l.length ≤ left
  · have hlen1 : decide ((left : Int) - (l.length : Int) < 0) = false := by simp; omega
    go_enter Tryd.func14, Tryd.ntmps14
    go_wp2_with fail
    go_loopw [1, 5] (fun q i wr => ∃ (k r : Nat), k ≤ l.length ∧ r + l.length ≤ left ∧ q = .int .i64 r ∧ i = .int .i64 k ∧ Hid (∀ f ∈ l.take k, f.2.2.length ≤ left) ∧ Hid (Below w.heap.size w wr)) (fun _ i _ => l.length - (intOf i).toNat)
    case atStart => exact ⟨0, left - l.length, Nat.zero_le _, by omega, by go_num, rfl, by simp [Hid], Below.refl _ _⟩
    case round =>
      obtain ⟨k, r, hk, hr1, rfl, rfl, HO, HB⟩ := hrel
      by_cases hlt : k < l.length
      · obtain ⟨g, o, rfl, hg, hcell1, hcell2, hcell3⟩ := hat k hlt
        have s1 := (HB.out.cell (p := ⟨g, o + k * 3, none⟩) hg).trans hcell1
        have s2 := (HB.out.cell (p := ⟨g, o + k * 3 + 1, none⟩) hg).trans hcell2
        have s3 := (HB.out.cell (p := ⟨g, o + k * 3 + 2, none⟩) hg).trans hcell3
        have hxl := hx l[k] (List.getElem_mem hlt)
        have HC := Lib.hid (szOp_any l[k] r wr hxl (by omega))
        have HS : Hid (l[k].2.2.length ≤ left → ∀ f ∈ l.take (k + 1), f.2.2.length ≤ left) := by
          intro h1 f hf
          rw [List.take_succ_eq_append_getElem hlt, List.mem_append, List.mem_singleton] at hf
          rcases hf with h | h
          · exact HO.out f h
          · rw [h]; exact h1
        clear hcell1 hcell2 hcell3 hat HO hx hxl
        generalize l[k] = x at s1 s2 s3 HC HS
        obtain ⟨x1, x2, x3⟩ := x
        unfold opV at HC
        simp only at s1 s2 s3 HC HS
        go_wp2_with fail
        refine HC.out.mono ?_
        rintro e w1 ⟨r1, rfl, hle, hif, hb1⟩
        have HB1 := Lib.hid (HB.out.trans (hb1.mono HB.out.size))
        clear hb1 HC
        by_cases h0 : 0 ≤ r1
        · obtain ⟨r2, rfl⟩ : ∃ r2 : Nat, r1 = r2 := ⟨r1.toNat, by omega⟩
          have hd : decide ((r2 : Int) < 0) = false := decide_eq_false (by omega)
          have HS2 := Lib.hid (HS.out (by have := (hif h0); omega))
          clear HS hif
          go_wp2_with fail
          go_roundw
          case rel => exact ⟨k + 1, r2, by omega, by omega, rfl, by go_num, HS2, HB1⟩
          case measure => simp [intOf]; omega
        · have hd : decide (r1 < 0) = true := decide_eq_true (by omega)
          clear HS hif
          go_wp2_with fail
          go_ret
          exact ⟨-1, rfl, by omega, fun h => by omega, HB1.out⟩
      · have HS : Hid (∀ f ∈ l, f.2.2.length ≤ left) := by have := HO.out; rw [List.take_of_length_le (by omega)] at this; exact this
        clear hat HO hx
        go_wp2_with fail
        go_ret
        exact ⟨r, rfl, by omega, fun _ => ⟨by omega, HS.out⟩, HB.out⟩
  · have hlen1 : decide ((left : Int) - (l.length : Int) < 0) = true := by simp; omega
    clear hat hx
    go_enter Tryd.func14, Tryd.ntmps14
    go_wp2_with fail
    go_ret
    exact ⟨-1, rfl, by omega, fun h => by omega, Below.refl _ _⟩

set_option maxRecDepth 20000 in
set_option maxHeartbeats 1000000 in
theorem toOpS_any (l : List OpT) (v : Value) (w : World) (hrow : RowO w v l) (hl : l.length ≤ 2000000) :
    Calls Tryd.prog 16 #[v] w (OpsPost l w) := by
  obtain ⟨a, cap, rfl, hc1, hc2, hat⟩ := hrow.ops
  clear hrow
  unfold maxLen at hc2
  obtain ⟨w0, hmk, hown0, hb0⟩ := make_rowO l.length w hl
  have HN0 := Lib.hid hown0
  have HB0 := Lib.hid hb0
  clear hown0 hb0
  go_enter Tryd.func16, Tryd.ntmps16
  go_wp2_with fail
  clear hmk
  go_loopw [4] (fun i wr => ∃ k : Nat, k ≤ l.length ∧ i = .int .i64 k ∧ Hid (wr.ownsRow w.heap.size 30 3 (.slice (some ⟨w.heap.size, 0, none⟩) l.length l.length) l.length (OC (l.take k) ++ OC (List.replicate (l.length - k) noOp))) ∧ Hid (Below w.heap.size w wr)) (fun i _ => l.length - (intOf i).toNat)
  case atStart => exact ⟨0, Nat.zero_le _, rfl, HN0, HB0⟩
  case round =>
    clear HN0 HB0
    obtain ⟨k, hk, rfl, HN, HB⟩ := hrel
    have hbs := HB.out.size
    by_cases hlt : k < l.length
    · obtain ⟨g, o, rfl, hg, hcell1, hcell2, hcell3⟩ := hat k hlt
      have s1 := (HB.out.cell (p := ⟨g, o + k * 3, none⟩) hg).trans hcell1
      have s2 := (HB.out.cell (p := ⟨g, o + k * 3 + 1, none⟩) hg).trans hcell2
      have s3 := (HB.out.cell (p := ⟨g, o + k * 3 + 2, none⟩) hg).trans hcell3
      have HC := Lib.hid (fun W => toOp_any l[k] W)
      have ht : (l.take k).length = k := by rw [List.length_take]; omega
      have er : List.replicate (l.length - k) noOp = noOp :: List.replicate (l.length - (k + 1)) noOp := by rw [show l.length - k = (l.length - (k + 1)) + 1 by omega, List.replicate_succ]
      rw [er] at HN
      have HE := Lib.hid (set_three (l.take k) k ht noOp (List.replicate (l.length - (k + 1)) noOp) l[k])
      have HE2 := Lib.hid (get_three (l.take k) k ht noOp (List.replicate (l.length - (k + 1)) noOp))
      have HT : Hid (l.take k ++ [l[k]] = l.take (k + 1)) := (List.take_succ_eq_append_getElem hlt).symm
      rw [HT.out] at HE
      clear hcell1 hcell2 hcell3 hat HT er ht
      generalize l[k] = x at s1 s2 s3 HC HE
      obtain ⟨x1, x2, x3⟩ := x
      unfold opV at HC
      simp only at s1 s2 s3 HC HE
      go_wp2_with fail
      refine (HC.out _).mono ?_
      rintro e w1 ⟨rfl, hb1⟩
      have HN1 := Lib.hid (own_belowG HN.out hb1)
      have HB1 := Lib.hid (HB.out.trans (hb1.mono HB.out.size))
      have hfz := HN1.out.frozenAt (k * 3)
      have hfz2 := HN1.out.frozenAt (k * 3 + 1)
      have hfz3 := HN1.out.frozenAt (k * 3 + 2)
      have hcz : w1.cell? ⟨w.heap.size, k * 3, none⟩ = some (.int .i64 0) := by rw [HN1.out.cellAt (k * 3) (by omega), HE2.out.1]; rfl
      have hcz2 : w1.cell? ⟨w.heap.size, k * 3 + 1, none⟩ = some (.int .i64 0) := by rw [HN1.out.cellAt (k * 3 + 1) (by omega), HE2.out.2.1]; rfl
      have hcz3 : w1.cell? ⟨w.heap.size, k * 3 + 2, none⟩ = some (.string ByteArray.empty) := by rw [HN1.out.cellAt (k * 3 + 2) (by omega), HE2.out.2.2]; rfl
      have hst := HN1.out.stored (k * 3) (.int .i64 x1)
      have hst2 := hst.1.stored (k * 3 + 1) (.int .i64 x2)
      have hst3 := hst2.1.stored (k * 3 + 2) (.string ⟨x3.toArray⟩)
      rw [HE.out] at hst3
      have HN2 := Lib.hid hst3.1
      have HB2 := Lib.hid (((HB1.out.trans (only_below hst.2 (Nat.le_refl _) HB1.out.size)).trans (only_below hst2.2 (Nat.le_refl _) (Nat.le_trans HB1.out.size hst.2.size))).trans (only_below hst3.2 (Nat.le_refl _) (Nat.le_trans (Nat.le_trans HB1.out.size hst.2.size) hst2.2.size)))
      clear hst hst2 hst3 HN HB HC HE HE2 HN1 HB1 hb1
      go_wp2_with fail
      go_roundw
      case rel => exact ⟨k + 1, by omega, by go_num, HN2, HB2⟩
      case measure => simp [intOf]; omega
    · have HN1 : Hid (wr.ownsRow w.heap.size 30 3 (.slice (some ⟨w.heap.size, 0, none⟩) l.length l.length) l.length (OC l)) := by
        have := HN.out
        rw [List.take_of_length_le (by omega), show l.length - k = 0 by omega] at this
        simpa [OC, Hid] using this
      clear HN hat
      go_wp2_with fail
      go_ret
      exact ⟨_, rfl, HN1.out, HB.out⟩

set_option maxRecDepth 20000 in
set_option maxHeartbeats 2000000 in
theorem eqOpS_any (l m : List OpT) (v u : Value) (w : World) (hr1 : RowO w v l) (hr2 : RowO w u m) (hl : l.length ≤ 2000000) :
    Calls Tryd.prog 18 #[v, u] w fun e w' => e = .returned (.bool (decide (l = m))) ∧ Below w.heap.size w w' := by
  obtain ⟨a, cap, rfl, hc1, hc2, hat⟩ := hr1.ops
  obtain ⟨a2, cap2, rfl, hc3, hc4, hat2⟩ := hr2.ops
  clear hr1 hr2
  unfold maxLen at hc2 hc4
  by_cases hlen : l.length = m.length
  · have hlen1 : ((l.length : Int) != (m.length : Int)) = false := by simp [hlen]
    have hle1 : l.length ≤ m.length := by omega
    have hle2 : m.length ≤ l.length := by omega
    clear hlen
    go_enter Tryd.func18, Tryd.ntmps18
    go_wp2_with fail
    go_loopw [5] (fun i wr => ∃ k : Nat, k ≤ l.length ∧ i = .int .i64 k ∧ Hid (l.take k = m.take k) ∧ Hid (Below w.heap.size w wr)) (fun i _ => l.length - (intOf i).toNat)
    case atStart => exact ⟨0, Nat.zero_le _, rfl, rfl, Below.refl _ _⟩
    case round =>
      obtain ⟨k, hk, rfl, HO, HB⟩ := hrel
      by_cases hlt : k < l.length
      · obtain ⟨g, o, rfl, hg, hcell1, hcell2, hcell3⟩ := hat k hlt
        obtain ⟨g2, o2, rfl, hg2, hcell4, hcell5, hcell6⟩ := hat2 k (by omega)
        have s1 := (HB.out.cell (p := ⟨g, o + k * 3, none⟩) hg).trans hcell1
        have s2 := (HB.out.cell (p := ⟨g, o + k * 3 + 1, none⟩) hg).trans hcell2
        have s3 := (HB.out.cell (p := ⟨g, o + k * 3 + 2, none⟩) hg).trans hcell3
        have s4 := (HB.out.cell (p := ⟨g2, o2 + k * 3, none⟩) hg2).trans hcell4
        have s5 := (HB.out.cell (p := ⟨g2, o2 + k * 3 + 1, none⟩) hg2).trans hcell5
        have s6 := (HB.out.cell (p := ⟨g2, o2 + k * 3 + 2, none⟩) hg2).trans hcell6
        have hi1 : (k : Int) < (l.length : Int) := by omega
        have hi2 : (k : Int) < (m.length : Int) := by omega
        have hbs := HB.out.size
        have hgw : g < wr.heap.size := by omega
        have hgw2 : g2 < wr.heap.size := by omega
        clear hcell1 hcell2 hcell3 hcell4 hcell5 hcell6 hat hat2
        obtain ⟨b, hbE⟩ : ∃ b, decide (l[k] = m[k]) = b := ⟨_, rfl⟩
        have HC := Lib.hid (fun W => eqOp_b hbE W)
        have HS : Hid (if b then l.take (k + 1) = m.take (k + 1) else decide (l = m) = false) := by
          unfold Hid
          subst hbE
          by_cases he : l[k] = m[k]
          · simp only [he, decide_true, if_true]; exact same_next HO.out hlt (by omega) he
          · simp only [he, decide_false]; exact decide_eq_false (same_not hlt (by omega) he)
        clear HO hbE
        generalize l[k] = x at s1 s2 s3 HC
        generalize m[k] = y at s4 s5 s6 HC
        obtain ⟨x1, x2, x3⟩ := x
        obtain ⟨y1, y2, y3⟩ := y
        unfold opV at HC
        simp only at s1 s2 s3 s4 s5 s6 HC
        go_wp2_with fail
        go_region_held3 (fun w' => w'.cell? ⟨g, o + k * 3, none⟩ = some (.int .i64 x1) ∧ w'.cell? ⟨g, o + k * 3 + 1, none⟩ = some (.int .i64 x2) ∧ w'.cell? ⟨g, o + k * 3 + 2, none⟩ = some (.string ⟨x3.toArray⟩) ∧ w'.cell? ⟨g2, o2 + k * 3, none⟩ = some (.int .i64 y1) ∧ w'.cell? ⟨g2, o2 + k * 3 + 1, none⟩ = some (.int .i64 y2) ∧ w'.cell? ⟨g2, o2 + k * 3 + 2, none⟩ = some (.string ⟨y3.toArray⟩)) (first | exact ⟨s1, s2, s3, s4, s5, s6⟩ | exact ks)
          (first | (go_at_call 34; refine (HC.out _).mono ?_; rintro e w5 ⟨rfl, hb5⟩; have ks := And.intro ((hb5.cell (p := ⟨g, o + k * 3, none⟩) hgw).trans s1) (And.intro ((hb5.cell (p := ⟨g, o + k * 3 + 1, none⟩) hgw).trans s2) (And.intro ((hb5.cell (p := ⟨g, o + k * 3 + 2, none⟩) hgw).trans s3) (And.intro ((hb5.cell (p := ⟨g2, o2 + k * 3, none⟩) hgw2).trans s4) (And.intro ((hb5.cell (p := ⟨g2, o2 + k * 3 + 1, none⟩) hgw2).trans s5) ((hb5.cell (p := ⟨g2, o2 + k * 3 + 2, none⟩) hgw2).trans s6)))))))
        have HB5 := Lib.hid ((Below.drew HB.out).trans (hb5.mono HB.out.size))
        clear hb5 ks
        rcases b with _ | _
        · go_wp2_with fail
          go_ret
          exact ⟨ret_bool (by have := HS.out; simpa using this.symm), HB5.out⟩
        · go_wp2_with fail
          go_roundw
          case rel => exact ⟨k + 1, by omega, by go_num, HS.out, HB5⟩
          case measure => simp [intOf]; omega
      · have HS : Hid (decide (l = m) = true) := decide_eq_true (same_all HO.out (by omega) (by omega))
        clear HO hat hat2
        go_wp2_with fail
        go_ret
        exact ⟨ret_bool HS.out.symm, HB.out⟩
  · have hlen1 : ((l.length : Int) != (m.length : Int)) = true := by simp; omega
    have HS : Hid (decide (l = m) = false) := decide_eq_false (fun h => hlen (by rw [h]))
    clear hat hat2
    go_enter Tryd.func18, Tryd.ntmps18
    go_wp2_with fail
    go_ret
    exact ⟨ret_bool HS.out.symm, Below.refl _ _⟩

end Go.Proofs.YtnnojeoehomadaaDoor

/- Walks: the exact law of RunRecipe. -/
namespace Go.Proofs.YtnnojeoehomadaaDoor
open Go.RowKit Pth

/-- The law says yes, and only new memory is written. -/
def YesR (w : World) (e : Ending) (w' : World) : Prop := e = .returned (.bool true) ∧ Below w.heap.size w w'

set_option maxRecDepth 20000 in
set_option maxHeartbeats 4000000 in
theorem exactRun_any (l : List OpT) (ins : List (List UInt8)) (v u : Value) (w : World) (hrow : RowO w v l) (hins : RowV w u (S ins)) (hx : ∀ f ∈ l, f.2.2.length ≤ maxLen) (hi : ∀ x ∈ ins, x.length ≤ maxLen) :
    Calls Tryd.prog 4 #[v, u] w (YesR w) := by
  have HS := Lib.hid (szOpS_any l 1048576 v w hrow hx (by omega))
  have HR := Lib.hid hrow
  have HI := Lib.hid hins
  have HX := Lib.hid hx
  have HY := Lib.hid hi
  clear hrow hins hx hi
  go_enter Tryd.func4, Tryd.ntmps4
  go_wp2_with fail
  refine HS.out.mono ?_
  rintro e w1 ⟨r, rfl, hr1, hr, hb1⟩
  by_cases h0 : r < 0
  · have HB1 := Lib.hid hb1
    clear hr hr1 hb1
    go_wp2_with fail
    go_ret
    exact ⟨rfl, HB1.out⟩
  have hl : l.length ≤ 2000000 := by have := (hr (by omega)).1; omega
  have HB1 := Lib.hid hb1
  obtain ⟨m, rfl⟩ : ∃ m : Nat, r = m := ⟨r.toNat, by omega⟩
  have hm : m ≤ 1048576 := by omega
  have HS2 := Lib.hid (szStringS_any ins m u w1 (HI.out.below HB1.out) HY.out (by omega))
  clear hr hr1 hb1 HS h0
  go_wp2_with fail
  refine HS2.out.mono ?_
  rintro e w1' ⟨r2, rfl, hr2, rfl⟩
  by_cases h02 : r2 < 0
  · clear hr2
    go_wp2_with fail
    go_ret
    exact ⟨rfl, HB1.out⟩
  have hl2 : ins.length ≤ 2000000 := by have := (hr2 (by omega)).1; omega
  clear hr2 HS2
  go_wp2_with fail
  refine (toOpS_any l v w1 (HR.out.below HB1.out) hl).mono ?_
  rintro e w2 ⟨v2, rfl, hown2, hb2⟩
  have HB2 := Lib.hid (below_step HB1.out hb2)
  have HO2 := Lib.hid (RowO.of_own hown2)
  clear hown2 hb2
  go_wp2_with fail
  refine (toStringS_any ins u w2 (HI.out.below HB2.out) hl2).mono ?_
  rintro e w3 ⟨u3, rfl, hown3, hb3⟩
  have HC := Lib.hid (specRun_any l ins v2 u3 w3 (HO2.out.below hb3) (RowV.of_own hown3) HX.out HY.out)
  have HB3 := Lib.hid (below_step HB2.out hb3)
  clear hown3 hb3 HB2 HO2
  generalize hG : runOk l ins = G at HC
  generalize hT : runA l ins = T at HC
  have HG := Lib.hid hG
  have HT := Lib.hid hT
  clear hG hT
  go_wp2_with fail
  refine HC.out.mono ?_
  rintro e w4 ⟨rfl, hb4⟩
  have HB4 := Lib.hid (below_step HB3.out hb4)
  clear hb4 HB3 HC
  go_wp2_with fail
  refine (toOpS_any l v w4 (HR.out.below HB4.out) hl).mono ?_
  rintro e w5 ⟨v5, rfl, hown5, hb5⟩
  have HB5 := Lib.hid (below_step HB4.out hb5)
  have HO5 := Lib.hid (RowO.of_own hown5)
  clear hown5 hb5 HB4
  go_wp2_with fail
  refine (toStringS_any ins u w5 (HI.out.below HB5.out) hl2).mono ?_
  rintro e w6 ⟨u6, rfl, hown6, hb6⟩
  have HB6 := Lib.hid (below_step HB5.out hb6)
  have HO6 := Lib.hid (HO5.out.below hb6)
  have HU6 := Lib.hid (RowV.of_own hown6)
  have HC := Lib.hid (implRun_any l ins v5 u6 w6 HO6.out HU6.out HY.out)
  rw [HG.out, HT.out] at HC
  clear hown6 hb6 HB5 HO5
  go_wp2_with fail
  refine HC.out.mono ?_
  rintro e w7 ⟨rfl, hb7⟩
  have HB7 := Lib.hid (below_step HB6.out hb7)
  have HO7 := Lib.hid (HO6.out.below hb7)
  have HU7 := Lib.hid (HU6.out.below hb7)
  clear hb7 HB6 HO6 HU6 HC
  have hne : (G != G) = false := by cases G <;> rfl
  obtain ⟨t, ht⟩ : ∃ t, t = txtO T := ⟨_, rfl⟩
  obtain ⟨b, hb⟩ : ∃ b, b = T.isSome := ⟨_, rfl⟩
  rw [← ht, ← hb]
  have hnt : (t != t) = false := by simp
  have hnb : (b != b) = false := by cases b <;> rfl
  clear ht hb
  go_wp2_with fail
  refine (toOpS_any l v w7 (HR.out.below HB7.out) hl).mono ?_
  rintro e w8 ⟨v8, rfl, hown8, hb8⟩
  have HC := Lib.hid (eqOpS_any l l v5 v8 w8 (HO7.out.below hb8) (RowO.of_own hown8) hl)
  have HB8 := Lib.hid (below_step HB7.out hb8)
  have HU8 := Lib.hid (HU7.out.below hb8)
  rw [decide_eq_true (rfl : l = l)] at HC
  clear hown8 hb8 HB7 HO7 HU7
  go_wp2_with fail
  refine HC.out.mono ?_
  rintro e w9 ⟨rfl, hb9⟩
  have HB9 := Lib.hid (below_step HB8.out hb9)
  have HU9 := Lib.hid (HU8.out.below hb9)
  clear hb9 HB8 HU8 HC
  go_wp2_with fail
  refine (toStringS_any ins u w9 (HI.out.below HB9.out) hl2).mono ?_
  rintro e w10 ⟨u10, rfl, hown10, hb10⟩
  have HC := Lib.hid (eqStringS_any ins ins u6 u10 w10 (HU9.out.below hb10) (RowV.of_own hown10) hl2)
  have HB10 := Lib.hid (below_step HB9.out hb10)
  rw [decide_eq_true (rfl : ins = ins)] at HC
  clear hown10 hb10 HB9 HU9
  go_wp2_with fail
  refine HC.out.mono ?_
  rintro e w11 ⟨rfl, hb11⟩
  have HB11 := Lib.hid (below_step HB10.out hb11)
  clear hb11 HB10 HC
  go_wp2_with fail
  go_ret
  exact ⟨rfl, HB11.out⟩

end Go.Proofs.YtnnojeoehomadaaDoor
