/- Texts of one claim, joined in their order. -/
import Derived.ChangeKeysEq
import Derived.Test.YtngldlconipnnaaGreatM7
import Derived.Test.YtngldlconipnnaaGreatM4
import Derived.Test.YtngldlconipnnaaGreatM1

/- Walks: the laws' helpers on traces: how large, copies, whether they are the same. -/
namespace Go.Proofs.YtngldlconipnnaaGreat
open Go.RowKit Pth

/-- How many inputs traces have together. -/
def totT (l : List TrT) : Nat := (l.map (fun t => t.2.1.length)).sum
theorem totT_append (a b : List TrT) : totT (a ++ b) = totT a + totT b := by simp [totT]
theorem totT_next {l : List TrT} {k : Nat} (hk : k < l.length) : totT (l.take (k + 1)) = totT (l.take k) + l[k].2.1.length := by
  rw [List.take_succ_eq_append_getElem hk, totT_append]; rfl
theorem totT_all {l : List TrT} {k : Nat} (hk : l.length ≤ k) : totT (l.take k) = totT l := by rw [List.take_of_length_le hk]
theorem totT_le {l : List TrT} {k : Nat} : totT (l.take k) ≤ totT l := by
  have := totT_append (l.take k) (l.drop k)
  rw [List.take_append_drop] at this
  omega
theorem totT_at {l : List TrT} {k : Nat} (hk : k < l.length) : l[k].2.1.length ≤ totT l := by
  have h1 := totT_next hk
  have h2 := totT_le (l := l) (k := k + 1)
  omega
/-- Texts that a machine can hold; texts of at most so many bytes. -/
def HeldT (n : Nat) (t : TrT) : Prop := (∀ x ∈ t.2.1, x.length ≤ n) ∧ t.2.2.1.length ≤ n

set_option maxRecDepth 20000 in
set_option maxHeartbeats 2000000 in
theorem szTrace_any (t : TrT) (left : Nat) (v : Value) (w : World) (hv : TrV w v t) (hx : HeldT maxLen t) (hl : left ≤ 2000000) :
    Calls Tryz.prog 6 #[v, .int .i64 (left : Int)] w fun e w' => ∃ r : Int, e = .returned (.int .i64 r) ∧ r ≤ left ∧ (0 ≤ r → r + t.2.1.length ≤ left ∧ HeldT left t) ∧ Below w.heap.size w w' := by
  obtain ⟨t1, ins, o1, o2⟩ := t
  obtain ⟨a, c, rfl, hr⟩ := hv
  obtain ⟨hx1, hx2⟩ := hx
  simp only at hr hx1 hx2 ⊢
  unfold trV
  simp only
  obtain ⟨_, _, he, hc1, hc2, _⟩ := hr.texts
  injection he with ea _ ec
  subst ea ec
  obtain ⟨wa, hwa⟩ : ∃ wa, wa = w.alloc (.cells #[.int .i64 t1, .slice a ins.length c, .string ⟨o1.toArray⟩, .int .i64 o2] 35) := ⟨_, rfl⟩
  have P0 : Hid (Blk4 wa w.heap.size 35 (.int .i64 t1) (.slice a ins.length c) (.string ⟨o1.toArray⟩) (.int .i64 o2)) := by rw [hwa]; exact Blk4.new
  have HA : Hid (Below w.heap.size w wa) := by rw [hwa]; exact (Below.refl w.heap.size w).alloc (Nat.le_refl _) _
  have HWA := Lib.hid hwa
  have HC := Lib.hid (szStringS_le ins left _ wa (hr.below HA.out) hx1 hl)
  have HX2 := Lib.hid hx2
  obtain ⟨_, _, c2, c3⟩ := P0.out.cells
  clear hwa hr hx1 hx2
  go_enter Tryz.func6, Tryz.ntmps6
  go_wp2_with fail
  rw [← HWA.out]
  refine HC.out.mono ?_
  rintro e w1 ⟨r1, rfl, hle, hif, rfl⟩
  have HIF := Lib.hid hif
  clear hif HC
  by_cases h0 : 0 ≤ r1
  · obtain ⟨r2, rfl⟩ : ∃ r2 : Nat, r1 = r2 := ⟨r1.toNat, by omega⟩
    have hd : decide ((r2 : Int) < 0) = false := decide_eq_false (by omega)
    have HQ := Lib.hid (HIF.out h0)
    have HR := Lib.hid (szResult_any (o1, o2) r2 wa HX2.out (by omega))
    unfold resV at HR
    simp only at HR
    clear HIF h0
    go_wp2_with fail
    refine HR.out.mono ?_
    rintro e w2 ⟨r3, rfl, hle3, hif3, hb3⟩
    have HB3 := Lib.hid (bth HA.out hb3 (Nat.le_refl _))
    have HI3 := Lib.hid hif3
    clear hb3 hif3 HR
    by_cases h3 : 0 ≤ r3
    · have hd3 : decide (r3 < 0) = false := decide_eq_false (by omega)
      go_wp2_with fail
      go_ret
      exact ⟨r3, rfl, by omega, fun _ => ⟨by have := HQ.out.1; omega, HQ.out.2, by have h4 : r3 + (o1.length : Int) = r2 := HI3.out h3; show o1.length ≤ left; omega⟩, HB3.out⟩
    · have hd3 : decide (r3 < 0) = true := decide_eq_true (by omega)
      go_wp2_with fail
      go_ret
      exact ⟨-1, rfl, by omega, fun h => by omega, HB3.out⟩
  · have hd : decide (r1 < 0) = true := decide_eq_true (by omega)
    clear HIF
    go_wp2_with fail
    go_ret
    exact ⟨-1, rfl, by omega, fun h => by omega, HA.out⟩

set_option maxRecDepth 20000 in
set_option maxHeartbeats 2000000 in
theorem szTraceS_any (l : List TrT) (left : Nat) (v : Value) (w : World) (hrow : RowT w v l) (hx : ∀ t ∈ l, HeldT maxLen t) (hl : left ≤ 2000000) :
    Calls Tryz.prog 5 #[v, .int .i64 (left : Int)] w fun e w' => ∃ r : Int, e = .returned (.int .i64 r) ∧ r ≤ left ∧ (0 ≤ r → r + l.length + totT l ≤ left ∧ ∀ t ∈ l, HeldT left t) ∧ Below w.heap.size w w' := by
  obtain ⟨a, cap, rfl, hc1, hc2, hat⟩ := hrow.traces
  clear hrow
  unfold maxLen at hc2
  have HAT := Lib.hid hat
  have HX := Lib.hid hx
  clear hat hx
  by_cases hlen : l.length ≤ left
  · have hlen1 : decide ((left : Int) - (l.length : Int) < 0) = false := by simp; omega
    go_enter Tryz.func5, Tryz.ntmps5
    go_wp2_with fail
    go_loopw [1, 5] (fun q i wr => ∃ (k r : Nat), k ≤ l.length ∧ q = .int .i64 r ∧ i = .int .i64 k ∧ r + l.length + totT (l.take k) ≤ left ∧ Hid (∀ t ∈ l.take k, HeldT left t) ∧ Hid (Below w.heap.size w wr)) (fun _ i _ => l.length - (intOf i).toNat)
    case atStart => exact ⟨0, left - l.length, Nat.zero_le _, by go_num, rfl, by simp [totT]; omega, by simp [Hid], Below.refl _ _⟩
    case round =>
      obtain ⟨k, r, hk, rfl, rfl, hr1, HO, HB⟩ := hrel
      by_cases hlt : k < l.length
      · obtain ⟨g, o, a2, c2, rfl, hg, ⟨k0, k1, k2, k3⟩, hrk⟩ := HAT.out k hlt
        have s0 := (HB.out.cell (p := ⟨g, o + k * 4, none⟩) hg).trans k0
        have s1 := (HB.out.cell (p := ⟨g, o + k * 4 + 1, none⟩) hg).trans k1
        have s2 := (HB.out.cell (p := ⟨g, o + k * 4 + 2, none⟩) hg).trans k2
        have s3 := (HB.out.cell (p := ⟨g, o + k * 4 + 3, none⟩) hg).trans k3
        have HC := Lib.hid (szTrace_any l[k] r _ wr ⟨a2, c2, rfl, hrk.below HB.out⟩ (HX.out _ (List.getElem_mem hlt)) (by omega))
        have HT := Lib.hid (totT_next hlt)
        have HR := Lib.hid hr1
        have hr2 : r ≤ 2000000 := by omega
        have HS : Hid (HeldT left l[k] → ∀ f ∈ l.take (k + 1), HeldT left f) := by
          intro h1 f hf
          rw [List.take_succ_eq_append_getElem hlt, List.mem_append, List.mem_singleton] at hf
          rcases hf with h | h
          · exact HO.out f h
          · rw [h]; exact h1
        have hrl : r ≤ left := by omega
        clear k0 k1 k2 k3 hrk hr1 HO
        generalize l[k] = x at *
        obtain ⟨x1, xi, x2, x3⟩ := x
        unfold trV at HC
        simp only at s0 s1 s2 s3 HC HT HS
        generalize xi.length = n at *
        go_wp2_with fail
        refine HC.out.mono ?_
        rintro e w1 ⟨r1, rfl, hle, hif, hb1⟩
        have HB1 := Lib.hid (HB.out.trans (hb1.mono HB.out.size))
        have HIF := Lib.hid hif
        clear hb1 HC hif
        by_cases h0 : 0 ≤ r1
        · obtain ⟨r2, rfl⟩ : ∃ r2 : Nat, r1 = r2 := ⟨r1.toNat, by omega⟩
          have hd : decide ((r2 : Int) < 0) = false := decide_eq_false (by omega)
          have HS2 : Hid (r2 + l.length + totT (l.take (k + 1)) ≤ left) := by have h1 := (HIF.out h0).1; have h2 := HT.out; have h3 := HR.out; unfold Hid; omega
          have HS3 := Lib.hid (HS.out ⟨fun x hx => Nat.le_trans ((HIF.out h0).2.1 x hx) hrl, Nat.le_trans (HIF.out h0).2.2 hrl⟩)
          clear HIF HS h0 hle HT HR
          go_wp2_with fail
          go_roundw
          case rel => exact ⟨k + 1, r2, by omega, rfl, by go_num, HS2.out, HS3, HB1⟩
          case measure => simp [intOf]; omega
        · have hd : decide (r1 < 0) = true := decide_eq_true (by omega)
          clear HIF HS HT HR
          go_wp2_with fail
          go_ret
          exact ⟨-1, rfl, by omega, fun h => by omega, HB1.out⟩
      · have HS : Hid (r + l.length + totT l ≤ left) := by have := hr1; rw [totT_all (by omega)] at this; exact this
        have HH : Hid (∀ t ∈ l, HeldT left t) := by have := HO.out; rw [List.take_of_length_le (by omega)] at this; exact this
        clear HAT HX hr1 HO
        go_wp2_with fail
        go_ret
        exact ⟨r, rfl, by have := HS.out; omega, fun _ => ⟨by have := HS.out; omega, HH.out⟩, HB.out⟩
  · have hlen1 : decide ((left : Int) - (l.length : Int) < 0) = true := by simp; omega
    clear HAT HX
    go_enter Tryz.func5, Tryz.ntmps5
    go_wp2_with fail
    go_ret
    exact ⟨-1, rfl, by omega, fun h => by omega, Below.refl _ _⟩

theorem load_trace {w : World} {b : Nat} {x y z u : Value} (h : Blk4 w b 50 x y z u) : (loadVar 50 ⟨b, 0, none⟩).run Tryz.prog w = .ok (.agg #[x, y, z, u]) w := by
  obtain ⟨h0, h1, h2, h3⟩ := h.cells
  clear h
  go_simp
/-- A trace is handed back, its inputs in memory of the call's own. -/
def TrPost (t : TrT) (w : World) (e : Ending) (w' : World) : Prop :=
  ∃ a c, e = .returned (trV (.slice a t.2.1.length c) t) ∧ w'.ownsRow w.heap.size 9 1 (.slice a t.2.1.length c) t.2.1.length (S t.2.1) ∧ Below w.heap.size w w'

set_option maxRecDepth 20000 in
set_option maxHeartbeats 4000000 in
theorem toTrace_any (t : TrT) (v : Value) (w : World) (hv : TrV w v t) (hz : t.2.1.length ≤ 2000000) :
    Calls Tryz.prog 10 #[v] w (TrPost t w) := by
  obtain ⟨t1, ins, x1, x2⟩ := t
  obtain ⟨a, c, rfl, hr⟩ := hv
  simp only at hr hz ⊢
  unfold trV
  simp only
  have H1 := Lib.hid hr
  obtain ⟨_, _, he, hc1, hc2, _⟩ := hr.texts
  injection he with ea _ ec
  subst ea ec
  unfold maxLen at hc2
  clear hr
  obtain ⟨wp, hwp⟩ : ∃ wp, wp = w.alloc (.cells #[.int .i64 t1, .slice a ins.length c, .string ⟨x1.toArray⟩, .int .i64 x2] 35) := ⟨_, rfl⟩
  obtain ⟨wq, hwq⟩ : ∃ wq, wq = wp.alloc (.cells #[.int .i64 0, .slice none 0 0, .string ⟨#[]⟩, .int .i64 0] 50) := ⟨_, rfl⟩
  obtain ⟨wb, hwb⟩ : ∃ wb, wb = wq.alloc (.cells #[.int .i64 t1, .slice none 0 0, .string ⟨#[]⟩, .int .i64 0] 50) := ⟨_, rfl⟩
  have ep : wp.heap.size = w.heap.size + 1 := by rw [hwp]; simp
  have eq : wq.heap.size = w.heap.size + 2 := by rw [hwq]; simp [ep]
  have eq' : wq.heap.size = w.heap.size + 1 + 1 := by omega
  have eb : wb.heap.size = w.heap.size + 3 := by rw [hwb]; simp [eq]
  have P1 : Hid (Blk4 wb w.heap.size 35 (.int .i64 t1) (.slice a ins.length c) (.string ⟨x1.toArray⟩) (.int .i64 x2)) := by
    rw [hwb, hwq, hwp]; exact (Blk4.new.old _).old _
  have R1 : Hid (Blk4 wb (w.heap.size + 1) 50 (.int .i64 0) (.slice none 0 0) (.string ⟨#[]⟩) (.int .i64 0)) := by
    rw [hwb, hwq, ← ep]; exact Blk4.new.old _
  have O1 : Hid (Blk4 wb (w.heap.size + 1 + 1) 50 (.int .i64 t1) (.slice none 0 0) (.string ⟨#[]⟩) (.int .i64 0)) := by
    rw [hwb, ← eq']; exact Blk4.new
  have HB : Hid (Below w.heap.size w wb) := by
    rw [hwb, hwq, hwp]; exact (((Below.refl w.heap.size w).alloc (Nat.le_refl _) _).alloc (by simp) _).alloc (by simp; omega) _
  have n1 : w.heap.size + 1 + 1 < wb.heap.size := by omega
  have n0 : w.heap.size ≤ w.heap.size + 1 + 1 := by omega
  have n2 : w.heap.size ≠ w.heap.size + 1 + 1 := by omega
  have n3 : w.heap.size + 1 ≠ w.heap.size + 1 + 1 := by omega
  have HWB : Hid (((w.alloc (.cells #[.int .i64 t1, .slice a ins.length c, .string ⟨x1.toArray⟩, .int .i64 x2] 35)).alloc (.cells #[.int .i64 0, .slice none 0 0, .string ⟨#[]⟩, .int .i64 0] 50)).alloc (.cells #[.int .i64 t1, .slice none 0 0, .string ⟨#[]⟩, .int .i64 0] 50) = wb) := by rw [hwb, hwq, hwp]; rfl
  have HC := Lib.hid (toStringS_any ins _ wb (H1.out.below HB.out) (by omega))
  clear hwq hwp hwb ep eq eq'
  go_enter Tryz.func10, Tryz.ntmps10
  go_wp2_with fail
  rw [HWB.out]
  refine HC.out.mono ?_
  rintro e w1 ⟨v1, rfl, ho1, hb1⟩
  obtain ⟨b1, d1, rfl⟩ := own_slice ho1
  have hs1 := hb1.size
  have P2 := P1.out.below hb1 (by omega)
  have R2 := Lib.hid (R1.out.below hb1 (by omega))
  have O2 := O1.out.below hb1 (by omega)
  have HB2 := Lib.hid (HB.out.trans (hb1.mono HB.out.size))
  have HO1 := Lib.hid ho1
  have c2 := P2.cells.2.2.1
  have c3 := P2.cells.2.2.2
  have o1 := O2.cells.2.1
  have f1 := O2.soft 1
  have O3 := Lib.hid (O2.set1 (.slice b1 ins.length d1))
  have P3 := Lib.hid (P2.other (p := ⟨w.heap.size + 1 + 1, 1, none⟩) n2 (.slice b1 ins.length d1))
  have R3 := Lib.hid (R2.out.other (p := ⟨w.heap.size + 1 + 1, 1, none⟩) n3 (.slice b1 ins.length d1))
  have HB3 := Lib.hid (HB2.out.setCell (p := ⟨w.heap.size + 1 + 1, 1, none⟩) n0 (.slice b1 ins.length d1))
  have HO3 := Lib.hid (own_setI HO1.out (p := ⟨w.heap.size + 1 + 1, 1, none⟩) n1 (.slice b1 ins.length d1))
  clear ho1 hb1 P2 O2 HB2 HO1 P1 R1 O1 HB HC R2
  have cc2 := P3.out.cells.2.2.1
  have cc3 := P3.out.cells.2.2.2
  have hs3 : wb.heap.size ≤ (w1.setCell ⟨w.heap.size + 1 + 1, 1, none⟩ (.slice b1 ins.length d1)).heap.size := by simp; omega
  go_wp2_with fail
  clear o1 f1 c2 c3 cc2 cc3
  generalize w1.setCell ⟨w.heap.size + 1 + 1, 1, none⟩ (.slice b1 ins.length d1) = y1 at *
  have HR := toResult_any (x1, x2) y1
  unfold resV at HR
  simp only at HR
  refine HR.mono ?_
  rintro e w3 ⟨rfl, hb3⟩
  have hs4 := hb3.size
  have R4 := Lib.hid (R3.out.below hb3 (by omega))
  have O4 := O3.out.below hb3 (by omega)
  have HB4 := Lib.hid (HB3.out.trans (hb3.mono HB3.out.size))
  have HO4 := Lib.hid (own_below HO3.out hb3)
  obtain ⟨p0, p1, p2, p3⟩ := O4.cells
  have g2 := O4.soft 2
  have g3 := O4.soft 3
  have O5 := Lib.hid ((O4.set2 (.string ⟨x1.toArray⟩)).set3 (.int .i64 x2))
  have R5 := Lib.hid ((R4.out.other (p := ⟨w.heap.size + 1 + 1, 2, none⟩) n3 (.string ⟨x1.toArray⟩)).other (p := ⟨w.heap.size + 1 + 1, 3, none⟩) n3 (.int .i64 x2))
  obtain ⟨k0, k1, k2, k3⟩ := R4.out.cells
  have z0 := R4.out.soft 0
  have z1 := R4.out.soft 1
  have z2 := R4.out.soft 2
  have z3 := R4.out.soft 3
  obtain ⟨q0, q1, q2, q3⟩ := O5.out.cells
  clear hb3 O4 HB3 HO3 R3 O3 P3 HR
  go_wp2_with fail
  have Z := (((R5.out.set0 (.int .i64 t1)).set1 (.slice b1 ins.length d1)).set2 (.string ⟨x1.toArray⟩)).set3 (.int .i64 x2)
  refine bodyPost_ret (results_cellP rfl rfl (load_trace Z)) rfl ?_
  have e1 : w.heap.size ≤ wb.heap.size := by omega
  have e2 : w.heap.size + 1 < wb.heap.size := by omega
  have e3 : w.heap.size ≤ w.heap.size + 1 := by omega
  refine ⟨b1, d1, rfl, ?_, ?_⟩
  · exact own_base (own_setI (own_setI (own_setI (own_setI (own_setI (own_setI HO4.out (p := ⟨w.heap.size + 1 + 1, 2, none⟩) n1 _) (p := ⟨w.heap.size + 1 + 1, 3, none⟩) n1 _) (p := ⟨w.heap.size + 1, 0, none⟩) e2 _) (p := ⟨w.heap.size + 1, 1, none⟩) e2 _) (p := ⟨w.heap.size + 1, 2, none⟩) e2 _) (p := ⟨w.heap.size + 1, 3, none⟩) e2 _) e1
  · exact (((((HB4.out.setCell (p := ⟨w.heap.size + 1 + 1, 2, none⟩) n0 _).setCell (p := ⟨w.heap.size + 1 + 1, 3, none⟩) n0 _).setCell (p := ⟨w.heap.size + 1, 0, none⟩) e3 _).setCell (p := ⟨w.heap.size + 1, 1, none⟩) e3 _).setCell (p := ⟨w.heap.size + 1, 2, none⟩) e3 _).setCell (p := ⟨w.heap.size + 1, 3, none⟩) e3 _
end Go.Proofs.YtngldlconipnnaaGreat

/- Walks: a task with its inputs as a struct that is compared whole; where a trace of these lies. -/
namespace Go.Proofs.YtngldlconipnnaaGreat
open Go.RowKit Pth

def padT (ins : List (List UInt8)) (i : Nat) : List UInt8 := ins.getD i []
def makV (t : Int) (ins : List (List UInt8)) : Value := .agg #[.int .i64 t, .string ⟨(padT ins 0).toArray⟩, .string ⟨(padT ins 1).toArray⟩, .string ⟨(padT ins 2).toArray⟩, .string ⟨(padT ins 3).toArray⟩, .string ⟨(padT ins 4).toArray⟩, .string ⟨(padT ins 5).toArray⟩, .string ⟨(padT ins 6).toArray⟩, .string ⟨(padT ins 7).toArray⟩, .string ⟨(padT ins 8).toArray⟩, .string ⟨(padT ins 9).toArray⟩]
def BlkM (w : World) (b : Nat) (t : Int) (ins : List (List UInt8)) : Prop := w.heap[b]? = some (.cells #[.int .i64 t, .string ⟨(padT ins 0).toArray⟩, .string ⟨(padT ins 1).toArray⟩, .string ⟨(padT ins 2).toArray⟩, .string ⟨(padT ins 3).toArray⟩, .string ⟨(padT ins 4).toArray⟩, .string ⟨(padT ins 5).toArray⟩, .string ⟨(padT ins 6).toArray⟩, .string ⟨(padT ins 7).toArray⟩, .string ⟨(padT ins 8).toArray⟩, .string ⟨(padT ins 9).toArray⟩] 114 (0, 0))
theorem BlkM.cells {w : World} {b : Nat} {t : Int} {ins : List (List UInt8)} (h : BlkM w b t ins) : w.cell? ⟨b, 0, none⟩ = some (.int .i64 t) ∧ w.cell? ⟨b, 1, none⟩ = some (.string ⟨(padT ins 0).toArray⟩) ∧ w.cell? ⟨b, 2, none⟩ = some (.string ⟨(padT ins 1).toArray⟩) ∧ w.cell? ⟨b, 3, none⟩ = some (.string ⟨(padT ins 2).toArray⟩) ∧ w.cell? ⟨b, 4, none⟩ = some (.string ⟨(padT ins 3).toArray⟩) ∧ w.cell? ⟨b, 5, none⟩ = some (.string ⟨(padT ins 4).toArray⟩) ∧ w.cell? ⟨b, 6, none⟩ = some (.string ⟨(padT ins 5).toArray⟩) ∧ w.cell? ⟨b, 7, none⟩ = some (.string ⟨(padT ins 6).toArray⟩) ∧ w.cell? ⟨b, 8, none⟩ = some (.string ⟨(padT ins 7).toArray⟩) ∧ w.cell? ⟨b, 9, none⟩ = some (.string ⟨(padT ins 8).toArray⟩) ∧ w.cell? ⟨b, 10, none⟩ = some (.string ⟨(padT ins 9).toArray⟩) := by
  refine ⟨?_, ?_, ?_, ?_, ?_, ?_, ?_, ?_, ?_, ?_, ?_⟩ <;> rw [cell_of_row w b _ _ 114 (0, 0) h] <;> rfl
theorem BlkM.below {w w' : World} {B b : Nat} {t : Int} {ins : List (List UInt8)} (h : BlkM w b t ins) (hb : Below B w w') (hlt : b < B) : BlkM w' b t ins := (hb.block b hlt).trans h
theorem BlkM.new {w : World} {t : Int} {ins : List (List UInt8)} : BlkM (w.alloc (.cells #[.int .i64 t, .string ⟨(padT ins 0).toArray⟩, .string ⟨(padT ins 1).toArray⟩, .string ⟨(padT ins 2).toArray⟩, .string ⟨(padT ins 3).toArray⟩, .string ⟨(padT ins 4).toArray⟩, .string ⟨(padT ins 5).toArray⟩, .string ⟨(padT ins 6).toArray⟩, .string ⟨(padT ins 7).toArray⟩, .string ⟨(padT ins 8).toArray⟩, .string ⟨(padT ins 9).toArray⟩] 114)) w.heap.size t ins := heap_alloc_new w _
theorem load_making {w : World} {b : Nat} {t : Int} {ins : List (List UInt8)} (h : BlkM w b t ins) : (loadVar 114 ⟨b, 0, none⟩).run Tryz.prog w = .ok (makV t ins) w := by
  obtain ⟨h0, h1, h2, h3, h4, h5, h6, h7, h8, h9, h10⟩ := h.cells
  clear h
  unfold makV
  go_simp
theorem results_cellM {fn : Func} {p : Tmp} {ty : TypeId} (h : fn.results = #[.cell p ty]) {tmps : Array Value} {w : World} {ad : Addr} {v : Value} (hp : tmps.getD p undef = .pointer (some ad)) (hl : (loadVar ty ad).run Tryz.prog w = .ok v w) :
    (results fn tmps).run Tryz.prog w = .ok v w := by
  have hp' : tmps[p]?.getD undef = .pointer (some ad) := by simpa using hp
  simp only [results, h]
  simp [hp', asAddr, hl]
theorem pads_same {a b : List (List UInt8)} (h : a.length = b.length) (h10 : a.length ≤ 10) : ((List.range 10).all (fun i => decide (padT a i = padT b i))) = decide (a = b) := by
  rw [Bool.eq_iff_iff, List.all_eq_true, decide_eq_true_eq]
  constructor
  · intro hh
    refine List.ext_getElem h fun i h1 h2 => ?_
    have := hh i (List.mem_range.2 (by omega))
    rw [decide_eq_true_eq] at this
    unfold padT at this
    rwa [List.getD_eq_getElem?_getD, List.getD_eq_getElem?_getD, List.getElem?_eq_getElem h1, List.getElem?_eq_getElem h2] at this
  · intro e i _
    rw [e]; simp

set_option maxRecDepth 20000 in
/-- Texts side by side, compared one by one. -/
theorem eqItems_texts (xs ys : Array Value) (A B : Nat → List UInt8) (hx : ∀ i, i < 10 → xs[i]? = some (.string ⟨(A i).toArray⟩)) (hy : ∀ i, i < 10 → ys[i]? = some (.string ⟨(B i).toArray⟩)) (w : World) (d : Nat) : ∀ is : List Nat, (∀ i ∈ is, i < 10) →
    (Op.eqItems (d + 1) 9 1 xs ys is).run Tryz.prog w = .ok (is.all (fun i => decide (A i = B i))) w
  | [], _ => by simp [Op.eqItems]
  | i :: is, h => by
    have h1 := hx i (h i (by simp))
    have h2 := hy i (h i (by simp))
    have ih := eqItems_texts xs ys A B hx hy w d is (fun j hj => h j (List.mem_cons_of_mem _ hj))
    have p1 : (part 9 xs (i * 1)).run Tryz.prog w = .ok (.string ⟨(A i).toArray⟩) w := by
      rw [Nat.mul_one]
      go_simp
    have p2 : (part 9 ys (i * 1)).run Tryz.prog w = .ok (.string ⟨(B i).toArray⟩) w := by
      rw [Nat.mul_one]
      go_simp
    have p3 : (Op.equalIn (d + 1) 9 (.string ⟨(A i).toArray⟩) (.string ⟨(B i).toArray⟩)).run Tryz.prog w = .ok (decide (A i = B i)) w := by
      refine (run_equalIn_string w d 9 _ _ Tryz.underlying9).trans ?_
      have e1 : ∀ l : List UInt8, (⟨l.toArray⟩ : ByteArray).toList = l := fun l => by rw [ByteArray.toList_eq]
      rw [e1, e1]
      by_cases e : A i = B i
      · simp [e]
      · simp [e]
    simp only [Op.eqItems, Sem.run_bind, p1, p2, p3, Result.andThen_ok, List.all_cons]
    by_cases e : A i = B i
    · simp [e, ih]
    · simp [e]
set_option maxRecDepth 20000 in
theorem run_pads (a b : List (List UInt8)) (w : World) : (Op.equalIn 9999 112 (.agg #[.string ⟨(padT a 0).toArray⟩, .string ⟨(padT a 1).toArray⟩, .string ⟨(padT a 2).toArray⟩, .string ⟨(padT a 3).toArray⟩, .string ⟨(padT a 4).toArray⟩, .string ⟨(padT a 5).toArray⟩, .string ⟨(padT a 6).toArray⟩, .string ⟨(padT a 7).toArray⟩, .string ⟨(padT a 8).toArray⟩, .string ⟨(padT a 9).toArray⟩]) (.agg #[.string ⟨(padT b 0).toArray⟩, .string ⟨(padT b 1).toArray⟩, .string ⟨(padT b 2).toArray⟩, .string ⟨(padT b 3).toArray⟩, .string ⟨(padT b 4).toArray⟩, .string ⟨(padT b 5).toArray⟩, .string ⟨(padT b 6).toArray⟩, .string ⟨(padT b 7).toArray⟩, .string ⟨(padT b 8).toArray⟩, .string ⟨(padT b 9).toArray⟩])).run Tryz.prog w = .ok ((List.range 10).all (fun i => decide (padT a i = padT b i))) w := by
  obtain ⟨i0, hi, _, _, _⟩ := info_parts elemS.info
  rw [show (9999 : Nat) = 9998 + 1 from rfl, run_equalIn_array w 9998 _ _ Tryz.underlying112 hi]
  have hc : Tryz.prog.cellsOf 9 = 1 := by kernel_rfl
  rw [hc]
  refine eqItems_texts _ _ (padT a) (padT b) (fun i hi => ?_) (fun i hi => ?_) w 9997 _ (fun i hi => List.mem_range.1 hi)
  · rcases i with _ | _ | _ | _ | _ | _ | _ | _ | _ | _ | i <;> first | rfl | omega
  · rcases i with _ | _ | _ | _ | _ | _ | _ | _ | _ | _ | i <;> first | rfl | omega
set_option maxRecDepth 20000 in
theorem run_making (t u : Int) (a b : List (List UInt8)) (w : World) : (binOp .eql 114 (makV t a) (makV u b)).run Tryz.prog w = .ok (.bool (decide (t = u) && (List.range 10).all (fun i => decide (padT a i = padT b i)))) w := by
  have hS : Tryz.prog.underlying 114 = some (.struct (Tryz.prog.fieldsOf 114)) := by kernel_rfl
  have hp : Tryz.prog.stoodInHeld 114 = false := by kernel_rfl
  have u3 := Tryz.underlying3
  have a3 := Tryz.isAgg3
  have z3 := Tryz.sizeOf3
  have a4 := Tryz.isAgg112
  have z4 := Tryz.sizeOf112
  have hr := run_pads a b w
  generalize (List.range 10).all (fun i => decide (padT a i = padT b i)) = B at hr ⊢
  unfold makV
  rw [run_eql_struct, show (10000 : Nat) = 9999 + 1 from rfl, run_equalIn_agg w 9999 114 _ _ hS hp]
  simp only [Program.fieldsOf, Tryz.underlying114]
  go_simp
  by_cases h : t = u
  · simp [h]
    cases B <;> rfl
  · simp [h]
/-- A copy whose run is known. -/
theorem wpList_runCopy {t s : TypeId} {ops : Array Oper} {rest : List Oper} {o : Oper} {a : Act} {Q : Exit → Act → World → Prop} {w w' : World} {v u r : Value} (hgd : o.guard = none) (x y : Operand)
    (ho : o.op = .call { callee := .builtin .copy, args := #[x, y], argTypes := #[t, s] }) (hs : a.eval x = v) (hx : a.eval y = u) (hrun : (Builtin.copy_ #[t, s] o.type #[v, u]).run Tryz.prog w = .ok r w')
    (h : wpList Tryz.prog ops Q rest (a.put o.dst r) w') : wpList Tryz.prog ops Q (o :: rest) a w := by
  refine wpList_plain hgd fun K hK => ?_
  unfold Oper.wp execOp
  simp only [ho, resolve, invoke, builtin, Sem.run_bind, Sem.run_pure, Result.andThen_ok, List.map_toArray, List.map_cons, List.map_nil, hs, hx, hrun]
  exact hK _ _ h
theorem setCells_behind (g : Nat) (e : TypeId) : ∀ (vs : List Value) (o : Nat) (w : World) (cur cur' : Array Value), w.heap[g]? = some (.cells cur e (0, 0)) → (w.setCells g o vs).heap[g]? = some (.cells cur' e (0, 0)) → ∀ i, o + vs.length ≤ i → cur'[i]? = cur[i]?
  | [], o, w, cur, cur', h, h', i, _ => by
    have : some (Obj.cells cur e (0, 0)) = some (.cells cur' e (0, 0)) := h.symm.trans h'
    simp at this
    rw [this]
  | v :: vs, o, w, cur, cur', h, h', i, hi => by
    rw [List.length_cons] at hi
    rw [setCells_behind g e vs (o + 1) (w.setCell ⟨g, o, none⟩ v) _ cur' (heap_setCell_same w g o cur e v h) h' i (by omega), Array.getElem?_setIfInBounds_ne (by omega)]
set_option maxRecDepth 20000 in
/-- The inputs copied behind the task. -/
theorem copy_pads (t : Int) (ins : List (List UInt8)) (a : Option Addr) (c : Nat) (w : World) (B b : Nat) (hr : RowV w (.slice a ins.length c) (S ins)) (h10 : ins.length ≤ 10) (hb : BlkM w b t []) (hB : B ≤ b) :
    ∃ w', (∀ ty, (Builtin.copy_ #[31, 31] ty #[.slice (some ⟨b, 1, none⟩) 10 10, .slice a ins.length c]).run Tryz.prog w = .ok (goInt ins.length) w') ∧ BlkM w' b t ins ∧ Below B w w' ∧ w'.heap.size = w.heap.size := by
  obtain ⟨i0, hi, hz0, hz1, hz2⟩ := info_parts elemS.info
  have hmin : Nat.min ins.length 10 = ins.length := Nat.min_eq_left h10
  rcases Nat.eq_zero_or_pos ins.length with h0 | hpos
  · have he : ins = [] := List.eq_nil_of_length_eq_zero h0
    subst he
    refine ⟨w, fun ty => run_copy_none (P := Tryz.prog) w 31 31 ty 9 _ _ _ _ _ _ Tryz.underlying31 (by kernel_rfl) rfl, hb, Below.refl _ _, rfl⟩
  · obtain ⟨_, _, he, hc1, hc2, hat⟩ := hr.texts
    injection he with e1 _ e3
    subst e1 e3
    obtain ⟨g, o, rfl, hg, _⟩ := hat 0 hpos
    have hsrc : ∀ j v, (S ins)[j]? = some v → w.cell? ((⟨g, o, none⟩ : Addr).add j) = some v := by
      intro j v hj
      obtain ⟨hj1, hj2⟩ := List.getElem?_eq_some_iff.1 hj
      rw [S_len] at hj1
      obtain ⟨g', o', he', _, hc⟩ := hat j hj1
      obtain ⟨rfl, rfl⟩ := addr_inj he'
      rw [add_addr, hc, ← hj2, S_get hj1]
    have hsz : ∀ j, j < 11 → (w.cell? ⟨b, j, none⟩).isSome = true := fun j hj => by
      rw [cell_of_row w b j _ _ (0, 0) hb, Array.getElem?_eq_getElem (by simpa using hj)]; rfl
    have hrun := fun ty => run_copy_cells (P := Tryz.prog) w 31 31 ty 9 b 1 10 10 ⟨g, o, none⟩ ins.length c (S ins) Tryz.underlying31 (by kernel_rfl) (by rw [S_len]; exact hmin.symm) hsrc (fun j hj => by rw [S_len] at hj; exact hsz _ (by omega)) (fun j _ => frozen_of_row w b _ _ _ hb) (S_one ins)
    rw [S_len] at hrun
    obtain ⟨cur', k1, k2, k3, k4⟩ := setCells_block b 114 (S ins) 1 w _ hb
    have k5 := setCells_behind b 114 (S ins) 1 w _ cur' hb k1
    obtain ⟨f1, f2, f3, f4, f5⟩ := setCells_frame b (S ins) 1 w
    refine ⟨_, hrun, ?_, ⟨f1, f2, f3, by rw [f4]; exact Nat.le_refl _, fun i hi => f5 i (by omega)⟩, f4⟩
    have hcs : cur'.size = 11 := by rw [k2]; rfl
    have hget : ∀ i, i < 10 → cur'[1 + i]? = some (.string ⟨(padT ins i).toArray⟩) := by
      intro i hi
      by_cases hl : i < ins.length
      · rw [k3 i (by rw [S_len]; exact hl) (by simp; omega), S_get hl]
        unfold padT
        rw [List.getD_eq_getElem?_getD, List.getElem?_eq_getElem hl]; rfl
      · rw [k5 (1 + i) (by rw [S_len]; omega)]
        have e : padT ins i = [] := by unfold padT; rw [List.getD_eq_getElem?_getD, List.getElem?_eq_none (by omega)]; rfl
        rw [e]
        rcases i with _ | _ | _ | _ | _ | _ | _ | _ | _ | _ | i <;> first | rfl | omega
    have hget0 : cur'[0]? = some (.int .i64 t) := by rw [k4 0 (by omega)]; rfl
    have hall : cur' = #[.int .i64 t, .string ⟨(padT ins 0).toArray⟩, .string ⟨(padT ins 1).toArray⟩, .string ⟨(padT ins 2).toArray⟩, .string ⟨(padT ins 3).toArray⟩, .string ⟨(padT ins 4).toArray⟩, .string ⟨(padT ins 5).toArray⟩, .string ⟨(padT ins 6).toArray⟩, .string ⟨(padT ins 7).toArray⟩, .string ⟨(padT ins 8).toArray⟩, .string ⟨(padT ins 9).toArray⟩] := by
     apply Array.ext
     · rw [hcs]; rfl
     · intro i h1 h2
       have hi : i < 11 := by omega
       rcases i with _ | i
       · rw [Array.getElem?_eq_getElem (by omega)] at hget0
         exact Option.some.inj hget0
       · have := hget i (by omega)
         rw [Nat.add_comm 1 i, Array.getElem?_eq_getElem (by omega)] at this
         rw [Option.some.inj this]
         rcases i with _ | _ | _ | _ | _ | _ | _ | _ | _ | _ | i <;> first | rfl | omega
    unfold BlkM
    rw [k1, hall]
theorem BlkM.fill {w : World} {b : Nat} {t0 : Int} {ins0 : List (List UInt8)} (h : BlkM w b t0 ins0) (t : Int) (ins : List (List UInt8)) : BlkM (((((((((((w.setCell ⟨b, 0, none⟩ (.int .i64 t)).setCell ⟨b, 1, none⟩ (.string ⟨(padT ins 0).toArray⟩)).setCell ⟨b, 2, none⟩ (.string ⟨(padT ins 1).toArray⟩)).setCell ⟨b, 3, none⟩ (.string ⟨(padT ins 2).toArray⟩)).setCell ⟨b, 4, none⟩ (.string ⟨(padT ins 3).toArray⟩)).setCell ⟨b, 5, none⟩ (.string ⟨(padT ins 4).toArray⟩)).setCell ⟨b, 6, none⟩ (.string ⟨(padT ins 5).toArray⟩)).setCell ⟨b, 7, none⟩ (.string ⟨(padT ins 6).toArray⟩)).setCell ⟨b, 8, none⟩ (.string ⟨(padT ins 7).toArray⟩)).setCell ⟨b, 9, none⟩ (.string ⟨(padT ins 8).toArray⟩)).setCell ⟨b, 10, none⟩ (.string ⟨(padT ins 9).toArray⟩)) b t ins := by
  have z0 := heap_setCell_same w b 0 _ 114 (.int .i64 t) h
  have z1 := heap_setCell_same _ b 1 _ 114 (.string ⟨(padT ins 0).toArray⟩) z0
  have z2 := heap_setCell_same _ b 2 _ 114 (.string ⟨(padT ins 1).toArray⟩) z1
  have z3 := heap_setCell_same _ b 3 _ 114 (.string ⟨(padT ins 2).toArray⟩) z2
  have z4 := heap_setCell_same _ b 4 _ 114 (.string ⟨(padT ins 3).toArray⟩) z3
  have z5 := heap_setCell_same _ b 5 _ 114 (.string ⟨(padT ins 4).toArray⟩) z4
  have z6 := heap_setCell_same _ b 6 _ 114 (.string ⟨(padT ins 5).toArray⟩) z5
  have z7 := heap_setCell_same _ b 7 _ 114 (.string ⟨(padT ins 6).toArray⟩) z6
  have z8 := heap_setCell_same _ b 8 _ 114 (.string ⟨(padT ins 7).toArray⟩) z7
  have z9 := heap_setCell_same _ b 9 _ 114 (.string ⟨(padT ins 8).toArray⟩) z8
  have z10 := heap_setCell_same _ b 10 _ 114 (.string ⟨(padT ins 9).toArray⟩) z9
  unfold BlkM
  rw [z10]
  simp only [List.setIfInBounds_toArray, List.set_cons_zero, List.set_cons_succ]

set_option maxRecDepth 20000 in
set_option maxHeartbeats 8000000 in
theorem makingOf_any (t : Int) (ins : List (List UInt8)) (x : Value) (w : World) (hr : RowV w x (S ins)) (h10 : ins.length ≤ 10) :
    Calls Tryz.prog 81 #[.int .i64 t, x] w fun e w' => e = .returned (makV t ins) ∧ Below w.heap.size w w' := by
  obtain ⟨a, c, rfl, hc1, hc2, _⟩ := hr.texts
  unfold maxLen at hc2
  obtain ⟨wa, hwa⟩ : ∃ wa, wa = w.alloc (.cells #[.int .i64 0, .string ⟨#[]⟩, .string ⟨#[]⟩, .string ⟨#[]⟩, .string ⟨#[]⟩, .string ⟨#[]⟩, .string ⟨#[]⟩, .string ⟨#[]⟩, .string ⟨#[]⟩, .string ⟨#[]⟩, .string ⟨#[]⟩] 114) := ⟨_, rfl⟩
  obtain ⟨wb, hwb⟩ : ∃ wb, wb = wa.alloc (.cells #[.int .i64 t, .string ⟨#[]⟩, .string ⟨#[]⟩, .string ⟨#[]⟩, .string ⟨#[]⟩, .string ⟨#[]⟩, .string ⟨#[]⟩, .string ⟨#[]⟩, .string ⟨#[]⟩, .string ⟨#[]⟩, .string ⟨#[]⟩] 114) := ⟨_, rfl⟩
  have ea : wa.heap.size = w.heap.size + 1 := by rw [hwa]; simp
  have R0 : BlkM wa w.heap.size 0 [] := by rw [hwa]; exact BlkM.new (w := w) (t := 0) (ins := [])
  have hAw : Below w.heap.size w wa := by rw [hwa]; exact (Below.refl w.heap.size w).alloc (Nat.le_refl _) _
  have hAb : Below wa.heap.size wa wb := by rw [hwb]; exact (Below.refl wa.heap.size wa).alloc (Nat.le_refl _) _
  have M0 : BlkM wb (w.heap.size + 1) t [] := by rw [hwb, ← ea]; exact BlkM.new (w := wa) (t := t) (ins := [])
  obtain ⟨wc, hrun, M1, hbc, hsc⟩ := copy_pads t ins a c wb (w.heap.size + 1) (w.heap.size + 1) (hr.below (bth hAw hAb (Nat.le_refl _))) h10 M0 (Nat.le_refl _)
  have HRUN := Lib.hid hrun
  have R1 := Lib.hid ((R0.below hAb (by omega)).below hbc (by omega))
  have MM := Lib.hid M1
  have HB := Lib.hid ((bth hAw hAb (Nat.le_refl _)).trans (hbc.mono (by omega)))
  have hsz : wc.heap.size = w.heap.size + 2 := by rw [hsc, hwb]; simp; omega
  have HWB : Hid ((w.alloc (.cells #[.int .i64 0, .string ⟨#[]⟩, .string ⟨#[]⟩, .string ⟨#[]⟩, .string ⟨#[]⟩, .string ⟨#[]⟩, .string ⟨#[]⟩, .string ⟨#[]⟩, .string ⟨#[]⟩, .string ⟨#[]⟩, .string ⟨#[]⟩] 114)).alloc (.cells #[.int .i64 t, .string ⟨#[]⟩, .string ⟨#[]⟩, .string ⟨#[]⟩, .string ⟨#[]⟩, .string ⟨#[]⟩, .string ⟨#[]⟩, .string ⟨#[]⟩, .string ⟨#[]⟩, .string ⟨#[]⟩, .string ⟨#[]⟩] 114) = wb) := by rw [hwb, hwa]; rfl
  have hrun2 : ∀ ty, (Builtin.copy_ #[31, 31] ty #[.slice (some ⟨w.heap.size + 1, 1, none⟩) 10 10, .slice a ins.length c]).run Tryz.prog ((w.alloc (.cells #[.int .i64 0, .string ⟨#[]⟩, .string ⟨#[]⟩, .string ⟨#[]⟩, .string ⟨#[]⟩, .string ⟨#[]⟩, .string ⟨#[]⟩, .string ⟨#[]⟩, .string ⟨#[]⟩, .string ⟨#[]⟩, .string ⟨#[]⟩] 114)).alloc (.cells #[.int .i64 t, .string ⟨#[]⟩, .string ⟨#[]⟩, .string ⟨#[]⟩, .string ⟨#[]⟩, .string ⟨#[]⟩, .string ⟨#[]⟩, .string ⟨#[]⟩, .string ⟨#[]⟩, .string ⟨#[]⟩, .string ⟨#[]⟩] 114)) = .ok (goInt ins.length) wc := fun ty => by rw [HWB.out]; exact HRUN.out ty
  clear hr hrun R0 hAw hAb M0 M1 hbc hsc hwa hwb ea
  obtain ⟨m0, m1, m2, m3, m4, m5, m6, m7, m8, m9, m10⟩ := MM.out.cells
  obtain ⟨r0, r1, r2, r3, r4, r5, r6, r7, r8, r9, r10⟩ := R1.out.cells
  have hf : ∀ j, wc.frozen? ⟨w.heap.size, j, none⟩ = false := fun j => frozen_of_row wc _ j _ _ R1.out
  have f0 := hf 0
  have f1 := hf 1
  have f2 := hf 2
  have f3 := hf 3
  have f4 := hf 4
  have f5 := hf 5
  have f6 := hf 6
  have f7 := hf 7
  have f8 := hf 8
  have f9 := hf 9
  have f10 := hf 10
  clear hf
  go_enter Tryz.func81, Tryz.ntmps81
  go_wp2_with fail
  have hZ := R1.out.fill t ins
  refine bodyPost_ret (results_cellM rfl rfl (load_making hZ)) rfl ?_
  exact ⟨rfl, ((((((((((HB.out.setCell (p := ⟨w.heap.size, 0, none⟩) (Nat.le_refl _) _).setCell (p := ⟨w.heap.size, 1, none⟩) (Nat.le_refl _) _).setCell (p := ⟨w.heap.size, 2, none⟩) (Nat.le_refl _) _).setCell (p := ⟨w.heap.size, 3, none⟩) (Nat.le_refl _) _).setCell (p := ⟨w.heap.size, 4, none⟩) (Nat.le_refl _) _).setCell (p := ⟨w.heap.size, 5, none⟩) (Nat.le_refl _) _).setCell (p := ⟨w.heap.size, 6, none⟩) (Nat.le_refl _) _).setCell (p := ⟨w.heap.size, 7, none⟩) (Nat.le_refl _) _).setCell (p := ⟨w.heap.size, 8, none⟩) (Nat.le_refl _) _).setCell (p := ⟨w.heap.size, 9, none⟩) (Nat.le_refl _) _).setCell (p := ⟨w.heap.size, 10, none⟩) (Nat.le_refl _) _⟩

end Go.Proofs.YtngldlconipnnaaGreat

/- Walks: where a trace of a task and these inputs lies. -/
namespace Go.Proofs.YtngldlconipnnaaGreat
open Go.RowKit Pth

/-- The first place where p. -/
def idxK (p : TrT → Bool) (T : List TrT) : Int := match T.findIdx? p with | some k => (k : Int) | none => -1
theorem idx_next {T : List TrT} {p : TrT → Bool} {k : Nat} (hk : k < T.length) (h : (T.take k).any p = false) (hn : p T[k] = false) : (T.take (k + 1)).any p = false := by
  rw [List.take_succ_eq_append_getElem hk, List.any_append, h]; simp [hn]
theorem idx_here {T : List TrT} {p : TrT → Bool} {k : Nat} (hk : k < T.length) (h : (T.take k).any p = false) (hn : p T[k] = true) : idxK p T = (k : Int) := by
  have : T.findIdx? p = some k := by
    rw [List.findIdx?_eq_some_iff_getElem]
    refine ⟨hk, hn, fun j hj => ?_⟩
    have := List.any_eq_false.1 h (T[j]'(by omega)) (by rw [List.mem_take_iff_getElem]; exact ⟨j, by omega, rfl⟩)
    simpa using this
  unfold idxK; rw [this]
theorem idx_none {T : List TrT} {p : TrT → Bool} (h : T.any p = false) : idxK p T = -1 := by
  have : T.findIdx? p = none := by
    rw [List.findIdx?_eq_none_iff]
    intro x hx
    have := List.any_eq_false.1 h x hx
    simpa using this
  unfold idxK; rw [this]
theorem idx_any (p : TrT → Bool) (T : List TrT) : decide (0 ≤ idxK p T) = T.any p := by
  rw [Bool.eq_iff_iff, decide_eq_true_eq]
  constructor
  · intro h
    by_cases hp : T.any p = true
    · exact hp
    · rw [idx_none (by simpa using hp)] at h; omega
  · intro h
    unfold idxK
    split
    · omega
    · rename_i hn
      rw [List.findIdx?_eq_none_iff] at hn
      obtain ⟨x, hx, hpx⟩ := List.any_eq_true.1 h
      rw [hn x hx] at hpx; cases hpx
theorem idx_same {p q : TrT → Bool} {T : List TrT} (h : ∀ x ∈ T, p x = q x) : idxK p T = idxK q T := by
  have : T.findIdx? p = T.findIdx? q := by
    induction T with
    | nil => rfl
    | cons x r ih =>
      rw [List.findIdx?_cons, List.findIdx?_cons, h x (by simp), ih (fun y hy => h y (List.mem_cons_of_mem _ hy))]
  unfold idxK; rw [this]
/-- A function value that tells of each trace of D whether p holds. -/
def TestT (w0 : World) (fv : Value) (D : TrT → Prop) (p : TrT → Bool) : Prop :=
  ∃ K cap, fv = .func (.func K) #[] cap ∧ (∀ args w, (callFunc K args).run Tryz.prog w = .ok (.enter K args) w) ∧ ∀ W, Below w0.heap.size w0 W → ∀ x t, TrV W x t → D t → Calls Tryz.prog K (#[x] ++ cap) W (BoolPost (p t) W)

set_option maxRecDepth 20000 in
set_option maxHeartbeats 8000000 in
theorem indexT_any (T : List TrT) (p : TrT → Bool) (D : TrT → Prop) (v fv : Value) (w : World) (hrow : RowT w v T) (ht : TestT w fv D p) (hD : ∀ x ∈ T, D x) :
    Calls Tryz.prog 82 #[v, fv] w fun e w' => e = .returned (.int .i64 (idxK p T)) ∧ Below w.heap.size w w' := by
  obtain ⟨a, cap0, rfl, hc1, hc2, hat⟩ := hrow.traces
  obtain ⟨K, cap, rfl, hent, ht⟩ := ht
  have HT := Lib.hid ht
  have HAT := Lib.hid hat
  have HD := Lib.hid hD
  clear hrow hat ht hD
  unfold maxLen at hc2
  obtain ⟨R, hR⟩ : ∃ R, idxK p T = R := ⟨_, rfl⟩
  have HRR := Lib.hid hR
  rw [hR]
  clear hR
  go_enter Tryz.func82, Tryz.ntmps82
  go_wp2_with fail
  go_loopw [8] (fun i wr => ∃ k : Nat, k ≤ T.length ∧ i = .int .i64 k ∧ Hid ((T.take k).any p = false) ∧ Hid (Below w.heap.size w wr)) (fun i _ => T.length - (intOf i).toNat)
  case atStart => exact ⟨0, Nat.zero_le _, by go_num, by simp [Hid], Below.refl _ _⟩
  case round =>
    obtain ⟨k, hk, rfl, HO, HB⟩ := hrel
    by_cases hlt : k < T.length
    · obtain ⟨g, o, a2, c2, rfl, hg, ⟨k0, k1, k2, k3⟩, hrk⟩ := HAT.out k hlt
      have s0 := (HB.out.cell (p := ⟨g, o + k * 4, none⟩) hg).trans k0
      have s1 := (HB.out.cell (p := ⟨g, o + k * 4 + 1, none⟩) hg).trans k1
      have s2 := (HB.out.cell (p := ⟨g, o + k * 4 + 2, none⟩) hg).trans k2
      have s3 := (HB.out.cell (p := ⟨g, o + k * 4 + 3, none⟩) hg).trans k3
      have hltz : (k : Int) < (T.length : Int) := by omega
      have HC := HT.out wr HB.out (trV (.slice a2 T[k].2.1.length c2) T[k]) T[k] ⟨a2, c2, rfl, hrk.below HB.out⟩ (HD.out _ (List.getElem_mem hlt))
      clear k0 k1 k2 k3 hrk
      rcases hb : p T[k] with _ | _
      · have HS := Lib.hid (idx_next hlt HO.out hb)
        rw [hb] at HC
        have HCC := Lib.hid HC
        clear HC hb HO
        generalize T[k] = x at *
        obtain ⟨x1, xi, x2, x3⟩ := x
        unfold trV at HCC
        simp only at s0 s1 s2 s3 HCC
        generalize xi.length = n at *
        go_wp2_with fail
        refine HCC.out.mono ?_
        rintro e w1 ⟨rfl, hb1⟩
        have HB1 := Lib.hid (bth HB.out hb1 (Nat.le_refl _))
        clear hb1 s0 s1 s2 s3 HCC
        go_wp2_with fail
        go_roundw
        case rel => exact ⟨k + 1, by omega, by go_num, HS, HB1⟩
        case measure => simp [intOf]; omega
      · have HS : Hid (R = (k : Int)) := by rw [← HRR.out]; exact idx_here hlt HO.out hb
        rw [hb] at HC
        have HCC := Lib.hid HC
        clear HC hb HO
        generalize T[k] = x at *
        obtain ⟨x1, xi, x2, x3⟩ := x
        unfold trV at HCC
        simp only at s0 s1 s2 s3 HCC
        generalize xi.length = n at *
        go_wp2_with fail
        refine HCC.out.mono ?_
        rintro e w1 ⟨rfl, hb1⟩
        have HB1 := Lib.hid (bth HB.out hb1 (Nat.le_refl _))
        clear hb1 s0 s1 s2 s3 HCC
        go_wp2_with fail
        go_ret
        exact ⟨by rw [HS.out] <;> rfl, HB1.out⟩
    · have HS : Hid (R = -1) := by
        rw [← HRR.out]
        have := HO.out
        rw [List.take_of_length_le (by omega)] at this
        exact idx_none this
      have hltz : ¬ ((k : Int) < (T.length : Int)) := by omega
      clear HO
      go_wp2_with fail
      go_ret
      exact ⟨by rw [HS.out] <;> rfl, HB.out⟩

set_option maxRecDepth 20000 in
set_option maxHeartbeats 8000000 in
theorem making1_any (t0 : Int) (ins0 : List (List UInt8)) (b : Nat) (t : TrT) (x : Value) (w : World) (hv : TrV w x t) (h10 : t.2.1.length ≤ 10) (hb : BlkM w b t0 ins0) :
    Calls Tryz.prog 83 #[x, .pointer (some ⟨b, 0, none⟩)] w (BoolPost (decide (t.1 = t0) && (List.range 10).all (fun i => decide (padT t.2.1 i = padT ins0 i))) w) := by
  obtain ⟨t1, ins, x1, x2⟩ := t
  obtain ⟨a, c, rfl, hr⟩ := hv
  simp only at hr h10 ⊢
  unfold trV
  simp only
  obtain ⟨_, _, he, hc1, hc2, _⟩ := hr.texts
  injection he with ea _ ec
  subst ea ec
  unfold maxLen at hc2
  have hbs := lt_of_block hb
  obtain ⟨wa, hwa⟩ : ∃ wa, wa = w.alloc (.cells #[.int .i64 t1, .slice a ins.length c, .string ⟨x1.toArray⟩, .int .i64 x2] 50) := ⟨_, rfl⟩
  have P0 : Hid (Blk4 wa w.heap.size 50 (.int .i64 t1) (.slice a ins.length c) (.string ⟨x1.toArray⟩) (.int .i64 x2)) := by rw [hwa]; exact Blk4.new
  have hAw : Below w.heap.size w wa := by rw [hwa]; exact (Below.refl w.heap.size w).alloc (Nat.le_refl _) _
  have HA := Lib.hid hAw
  have hsz : w.heap.size < wa.heap.size := by rw [hwa]; simp
  have M0 := Lib.hid (hb.below hAw hbs)
  have HC := Lib.hid (makingOf_any t1 ins _ wa.drew (hr.below (Below.drew hAw)) h10)
  have HWA : Hid (w.alloc (.cells #[.int .i64 t1, .slice a ins.length c, .string ⟨x1.toArray⟩, .int .i64 x2] 50) = wa) := by rw [hwa]; rfl
  have hrun := run_pads ins ins0
  have ha := P0.out.cells
  have hm := M0.out.cells
  have ks : (wa.drew.cell? ⟨w.heap.size, 0, none⟩ = some (.int .i64 t1) ∧ wa.drew.cell? ⟨w.heap.size, 1, none⟩ = some (.slice a ins.length c) ∧ wa.drew.cell? ⟨w.heap.size, 2, none⟩ = some (.string ⟨x1.toArray⟩) ∧ wa.drew.cell? ⟨w.heap.size, 3, none⟩ = some (.int .i64 x2)) ∧ (wa.drew.cell? ⟨b, 0, none⟩ = some (.int .i64 t0) ∧ wa.drew.cell? ⟨b, 1, none⟩ = some (.string ⟨(padT ins0 0).toArray⟩) ∧ wa.drew.cell? ⟨b, 2, none⟩ = some (.string ⟨(padT ins0 1).toArray⟩) ∧ wa.drew.cell? ⟨b, 3, none⟩ = some (.string ⟨(padT ins0 2).toArray⟩) ∧ wa.drew.cell? ⟨b, 4, none⟩ = some (.string ⟨(padT ins0 3).toArray⟩) ∧ wa.drew.cell? ⟨b, 5, none⟩ = some (.string ⟨(padT ins0 4).toArray⟩) ∧ wa.drew.cell? ⟨b, 6, none⟩ = some (.string ⟨(padT ins0 5).toArray⟩) ∧ wa.drew.cell? ⟨b, 7, none⟩ = some (.string ⟨(padT ins0 6).toArray⟩) ∧ wa.drew.cell? ⟨b, 8, none⟩ = some (.string ⟨(padT ins0 7).toArray⟩) ∧ wa.drew.cell? ⟨b, 9, none⟩ = some (.string ⟨(padT ins0 8).toArray⟩) ∧ wa.drew.cell? ⟨b, 10, none⟩ = some (.string ⟨(padT ins0 9).toArray⟩)) := ⟨ha, hm⟩
  have PD : Hid (Blk4 wa.drew w.heap.size 50 (.int .i64 t1) (.slice a ins.length c) (.string ⟨x1.toArray⟩) (.int .i64 x2)) := P0.out
  have MD : Hid (BlkM wa.drew b t0 ins0) := M0.out
  have hbw : b < wa.drew.heap.size := by show b < wa.heap.size; omega
  have hsw : w.heap.size < wa.drew.heap.size := hsz
  clear ha hm hwa hAw hr hb
  generalize (List.range 10).all (fun i => decide (padT ins i = padT ins0 i)) = B at *
  unfold makV at HC
  by_cases ht : t1 = t0
  · subst ht
    rcases B with _ | _
    all_goals
      go_enter Tryz.func83, Tryz.ntmps83
      go_wp2_with fail
      rw [HWA.out]
      go_region_held3 (fun w' => (w'.cell? ⟨w.heap.size, 0, none⟩ = some (.int .i64 t1) ∧ w'.cell? ⟨w.heap.size, 1, none⟩ = some (.slice a ins.length c) ∧ w'.cell? ⟨w.heap.size, 2, none⟩ = some (.string ⟨x1.toArray⟩) ∧ w'.cell? ⟨w.heap.size, 3, none⟩ = some (.int .i64 x2)) ∧ (w'.cell? ⟨b, 0, none⟩ = some (.int .i64 t1) ∧ w'.cell? ⟨b, 1, none⟩ = some (.string ⟨(padT ins0 0).toArray⟩) ∧ w'.cell? ⟨b, 2, none⟩ = some (.string ⟨(padT ins0 1).toArray⟩) ∧ w'.cell? ⟨b, 3, none⟩ = some (.string ⟨(padT ins0 2).toArray⟩) ∧ w'.cell? ⟨b, 4, none⟩ = some (.string ⟨(padT ins0 3).toArray⟩) ∧ w'.cell? ⟨b, 5, none⟩ = some (.string ⟨(padT ins0 4).toArray⟩) ∧ w'.cell? ⟨b, 6, none⟩ = some (.string ⟨(padT ins0 5).toArray⟩) ∧ w'.cell? ⟨b, 7, none⟩ = some (.string ⟨(padT ins0 6).toArray⟩) ∧ w'.cell? ⟨b, 8, none⟩ = some (.string ⟨(padT ins0 7).toArray⟩) ∧ w'.cell? ⟨b, 9, none⟩ = some (.string ⟨(padT ins0 8).toArray⟩) ∧ w'.cell? ⟨b, 10, none⟩ = some (.string ⟨(padT ins0 9).toArray⟩))) (first | exact ks)
        (first | (go_at_call 81; refine HC.out.mono ?_; rintro e w5 ⟨rfl, hb5⟩
                  have ks := And.intro (PD.out.below hb5 hsw).cells (MD.out.below hb5 hbw).cells
                  have HB5 := Lib.hid (bth (Below.drew HA.out) hb5 (Nat.le_refl _))
                  clear hb5))
      go_wp2_with fail
      go_ret
      exact ⟨ret_bool (by simp), HB5.out⟩
  · have ht1 : (t1 == t0) = false := by simp [ht]
    clear hrun
    go_enter Tryz.func83, Tryz.ntmps83
    go_wp2_with fail
    rw [HWA.out]
    go_region_held3 (fun w' => (w'.cell? ⟨w.heap.size, 0, none⟩ = some (.int .i64 t1) ∧ w'.cell? ⟨w.heap.size, 1, none⟩ = some (.slice a ins.length c) ∧ w'.cell? ⟨w.heap.size, 2, none⟩ = some (.string ⟨x1.toArray⟩) ∧ w'.cell? ⟨w.heap.size, 3, none⟩ = some (.int .i64 x2)) ∧ (w'.cell? ⟨b, 0, none⟩ = some (.int .i64 t0) ∧ w'.cell? ⟨b, 1, none⟩ = some (.string ⟨(padT ins0 0).toArray⟩) ∧ w'.cell? ⟨b, 2, none⟩ = some (.string ⟨(padT ins0 1).toArray⟩) ∧ w'.cell? ⟨b, 3, none⟩ = some (.string ⟨(padT ins0 2).toArray⟩) ∧ w'.cell? ⟨b, 4, none⟩ = some (.string ⟨(padT ins0 3).toArray⟩) ∧ w'.cell? ⟨b, 5, none⟩ = some (.string ⟨(padT ins0 4).toArray⟩) ∧ w'.cell? ⟨b, 6, none⟩ = some (.string ⟨(padT ins0 5).toArray⟩) ∧ w'.cell? ⟨b, 7, none⟩ = some (.string ⟨(padT ins0 6).toArray⟩) ∧ w'.cell? ⟨b, 8, none⟩ = some (.string ⟨(padT ins0 7).toArray⟩) ∧ w'.cell? ⟨b, 9, none⟩ = some (.string ⟨(padT ins0 8).toArray⟩) ∧ w'.cell? ⟨b, 10, none⟩ = some (.string ⟨(padT ins0 9).toArray⟩))) (first | exact ks)
      (first | (go_at_call 81; refine HC.out.mono ?_; rintro e w5 ⟨rfl, hb5⟩
                have ks := And.intro (PD.out.below hb5 hsw).cells (MD.out.below hb5 hbw).cells
                have HB5 := Lib.hid (bth (Below.drew HA.out) hb5 (Nat.le_refl _))
                clear hb5))
    go_wp2_with fail
    go_ret
    exact ⟨ret_bool (by simp [ht]), HB5.out⟩

end Go.Proofs.YtngldlconipnnaaGreat

/- Walks: strings.Clone. -/
namespace Go.Proofs.YtngldlconipnnaaGreat
open Go.RowKit Pth

set_option maxHeartbeats 1000000 in
theorem clone_any (s : List UInt8) (w : World) (hs : s.length ≤ 1000) : Calls Tryz.prog 87 #[.string ⟨s.toArray⟩] w fun e w' => e = .returned (.string ⟨s.toArray⟩) ∧ Below w.heap.size w w' := by
  have HC := Lib.hid (Tryz.stringslite_Clone ⟨s.toArray⟩ w (by simp [ByteArray.size]; omega))
  clear hs
  go_enter Tryz.func87, Tryz.ntmps87
  go_wp2_with fail
  refine HC.out.mono ?_
  rintro e w1 ⟨rfl, hb1⟩
  go_wp2_with fail
  go_ret
  exact ⟨rfl, hb1⟩
end Go.Proofs.YtngldlconipnnaaGreat

/- Walks: whether it is a trace of the plan, of both; copies of a trace; where one lies. -/
namespace Go.Proofs.YtngldlconipnnaaGreat
open Go.RowKit Pth

theorem find_idx (T : List TrT) (t : Int) (ins : List (List UInt8)) : idxK (isT t ins) T = findK T t ins := rfl
theorem find_pads {T : List TrT} {t : Int} {ins : List (List UInt8)} (h : SameLen T t ins.length) : idxK (fun x => decide (x.1 = t) && (List.range 10).all (fun i => decide (padT x.2.1 i = padT ins i))) T = findK T t ins := by
  rw [← find_idx]
  refine idx_same fun x hx => ?_
  obtain ⟨h1, h2⟩ := h x hx
  unfold isT
  by_cases e : x.1 = t
  · rw [pads_same (h2 e) h1]
  · rw [decide_eq_false e]; rfl
theorem isSome_findK (T : List TrT) (t : Int) (ins : List (List UInt8)) : decide (0 ≤ findK T t ins) = (findT T t ins).isSome := by
  unfold findK
  cases findT T t ins <;> simp
theorem resA_one (r : ResT) : resA [r] = resOk r := by simp [resA]
theorem row_lit (w : World) (o : ResT) : RowR (w.alloc (.cells #[.string ⟨o.1.toArray⟩, .int .i64 o.2] 48)) (.slice (some ⟨w.heap.size, 0, none⟩) 1 1) [o] := by
  refine ⟨_, 1, rfl, rfl, Nat.le_refl _, by unfold maxLen; omega, fun k hk => ⟨w.heap.size, 0, rfl, by simp, ?_⟩⟩
  have h := cells_new w (RC [o]) 48 k (RC [o])[k] (by rw [List.getElem?_eq_getElem hk])
  rw [add_addr] at h
  exact h
theorem texts_long {l : List (List UInt8)} (h : l.length ≤ 10) : textsL l = !longL9 l := by
  rw [Bool.eq_iff_iff]
  unfold textsL longL9
  simp only [Bool.and_eq_true, decide_eq_true_eq, List.all_eq_true, Bool.not_eq_true', List.any_eq_false]
  constructor
  · intro hh x hx; have := hh.1 x hx; omega
  · intro hh; exact ⟨fun x hx => by have := hh x hx; omega, h⟩

set_option maxRecDepth 20000 in
set_option maxHeartbeats 8000000 in
theorem placeOf_any (T : List TrT) (t : Int) (ins : List (List UInt8)) (v x : Value) (w : World) (hT : RowT w v T) (hr : RowV w x (S ins)) (h10 : ins.length ≤ 10) (hs : SameLen T t ins.length) :
    Calls Tryz.prog 60 #[v, .int .i64 t, x] w fun e w' => e = .returned (.int .i64 (findK T t ins)) ∧ Below w.heap.size w w' := by
  have HT := Lib.hid hT
  have HC := Lib.hid (makingOf_any t ins x w hr h10)
  obtain ⟨a, cap, rfl, hc1, hc2, _⟩ := hT.traces
  obtain ⟨ai, ci, rfl, hi1, hi2, _⟩ := hr.texts
  unfold maxLen at hc2 hi2
  have HI : Hid (∀ W b, Below w.heap.size w W → BlkM W b t ins → Calls Tryz.prog 82 #[.slice a T.length cap, .func (.func 83) #[] #[.pointer (some ⟨b, 0, none⟩)]] W fun e w' => e = .returned (.int .i64 (findK T t ins)) ∧ Below W.heap.size W w') := by
    intro W b hb hm
    rw [← find_pads hs]
    refine indexT_any T _ (fun x => x.2.1.length ≤ 10) _ _ W (HT.out.below hb) ⟨83, #[.pointer (some ⟨b, 0, none⟩)], rfl, enters_of Tryz.func83 (by kernel_rfl) rfl, fun W2 hW2 x z hz hD => ?_⟩ (fun x hx => (hs x hx).1)
    exact making1_any t ins b z x W2 hz hD (hm.below hW2 (lt_of_block hm))
  have hmf : ∀ (fn : Fn) (first cap : Array Value) (w : World), (Instr.makeFunc fn first cap).run Tryz.prog w = .ok (.func fn first cap) w := fun _ _ _ _ => rfl
  clear hT hr hs
  unfold makV at HC
  go_enter Tryz.func60, Tryz.ntmps60
  go_wp2_with fail
  refine HC.out.mono ?_
  rintro e w1 ⟨rfl, hb1⟩
  have HB1 := Lib.hid hb1
  clear hb1 HC
  go_wp2_with fail
  refine (HI.out _ w1.heap.size (HB1.out.alloc HB1.out.size _) BlkM.new).mono ?_
  rintro e w2 ⟨rfl, hb2⟩
  have HB2 := Lib.hid ((HB1.out.alloc HB1.out.size _).trans (hb2.mono (HB1.out.alloc HB1.out.size _).size))
  clear hb2 HI
  go_wp2_with fail
  go_ret
  exact ⟨rfl, HB2.out⟩

set_option maxRecDepth 20000 in
set_option maxHeartbeats 8000000 in
theorem implIns9_b (ls : List (List Int)) (l : List Int) (bs : List Bool) (rs : List (List OpT)) (t : Int) (ins : List (List UInt8)) {b : Bool} (hb : insOk ls bs t ins = b) (v x : Value) (w : World) (hp : PlanV w v ls l bs rs) (hr : RowV w x (S ins)) (hpl : planA ls l bs rs = true) (hx : ∀ y ∈ ins, y.length ≤ maxLen) :
    Calls Tryz.prog 61 #[v, .int .i64 t, x] w (BoolPost b w) := by
  have hbl := (plan_parts hpl).2.1
  have HV := Lib.hid hp
  obtain ⟨nv, ov, sv, rv, rfl, h1, h2, h3, h4⟩ := hp
  obtain ⟨as0, cs, rfl, hs1, hs2, hats⟩ := h3.boolsW
  obtain ⟨an, cn, rfl, hn1, hn2, hatn⟩ := h1.lists
  obtain ⟨ao, co, rfl, ho1, ho2, hato⟩ := h2.ints
  obtain ⟨ar, cr, rfl, hr1, hr2, hatr⟩ := h4.lists
  clear h1 h2 h3 h4
  unfold maxLen at hs2 hn2 ho2 hr2
  obtain ⟨wa, hwa⟩ : ∃ wa, wa = w.alloc (.cells #[.slice an ls.length cn, .slice ao l.length co, .slice as0 bs.length cs, .slice ar rs.length cr] 45) := ⟨_, rfl⟩
  have hsz : w.heap.size < wa.heap.size := by rw [hwa]; simp
  have P0 : Hid (Blk4 wa w.heap.size 45 (.slice an ls.length cn) (.slice ao l.length co) (.slice as0 bs.length cs) (.slice ar rs.length cr)) := by rw [hwa]; exact Blk4.new
  have HA : Hid (Below w.heap.size w wa) := by rw [hwa]; exact (Below.refl w.heap.size w).alloc (Nat.le_refl _) _
  have HWA : Hid (w.alloc (.cells #[.slice an ls.length cn, .slice ao l.length co, .slice as0 bs.length cs, .slice ar rs.length cr] 45) = wa) := by rw [hwa]; rfl
  have HVW : Hid (∀ W, Below wa.heap.size wa W → PlanV W (.agg #[.slice an ls.length cn, .slice ao l.length co, .slice as0 bs.length cs, .slice ar rs.length cr]) ls l bs rs) := fun W h => HV.out.below (bth HA.out h (Nat.le_refl _))
  clear hwa
  have HT := Lib.hid (fun W (h : Below wa.heap.size wa W) => contains_anyO9 ins x W (hr.below (bth HA.out h (Nat.le_refl _))) hx)
  obtain ⟨ai, ci, rfl, hi1, hi2, _⟩ := hr.texts
  unfold maxLen at hi2
  have HB := Lib.hid hb
  obtain ⟨c0, c1, c2, c3⟩ := P0.out.cells
  obtain ⟨d, hd⟩ : ∃ d, (decide (0 ≤ t) && decide (t < (ls.length : Int))) = d := ⟨_, rfl⟩
  have HG : Hid (GraphV wa (.agg #[.slice an ls.length cn, .slice ao l.length co]) ls l) := by
    obtain ⟨nv', ov', sv', rv', he, g1, g2, _⟩ := HVW.out wa (Below.refl _ _)
    injection he with he
    simp only [Array.mk.injEq, List.cons.injEq, and_true] at he
    obtain ⟨e1, e2, _, _⟩ := he
    exact ⟨nv', ov', by rw [e1, e2], g1, g2⟩
  have HCT := Lib.hid (isTask_b HG.out hd)
  have HATS := Lib.hid hats
  have HATN := Lib.hid hatn
  clear hr hx hb hats hatn hato hatr
  rcases d with _ | _
  · have HE : Hid (b = false) := by
      rw [← HB.out]; show _ = _
      unfold insOk
      rw [hd]; simp
    clear hd HB hbl hpl
    go_enter Tryz.func61, Tryz.ntmps61
    go_wp2_with fail
    rw [HWA.out]
    refine HCT.out.mono ?_
    rintro e w1 ⟨rfl, hb1⟩
    have HB1 := Lib.hid (bth HA.out hb1 (Nat.le_refl _))
    clear hb1 c0 c1 c2 c3
    go_wp2_with fail
    go_ret
    exact ⟨by rw [HE.out] <;> rfl, HB1.out⟩
  obtain ⟨j, hj⟩ : ∃ j : Nat, t = j := ⟨t.toNat, by simp only [Bool.and_eq_true, decide_eq_true_eq] at hd; omega⟩
  subst hj
  have hjl : j < ls.length := by simp only [Bool.and_eq_true, decide_eq_true_eq] at hd; omega
  have hjb : j < bs.length := by omega
  have h10 := (plan_task hpl hjl).1
  have HE : Hid (b = (!bs[j] && (decide (ins.length = ls[j].length) && !longL9 ins))) := by
    rw [← HB.out]; show _ = _
    unfold insOk
    rw [Int.toNat_natCast, getD_at _ hjb, getD_at _ hjl, hd, Bool.true_and, Bool.and_assoc]
    congr 1
    by_cases hl : ins.length = ls[j].length
    · rw [texts_long (by omega)]
    · rw [decide_eq_false hl, Bool.false_and, Bool.false_and]
  obtain ⟨gs, os, rfl, hgs, hcs⟩ := HATS.out j hjb
  have hsc := (HA.out.cell (p := ⟨gs, os + j, none⟩) hgs).trans hcs
  have hjz : (j : Int) < (bs.length : Int) := by omega
  have hjn : (j : Int) < (ls.length : Int) := by omega
  obtain ⟨gn, on, a2, c2', rfl, hgn, hcn, hrn⟩ := HATN.out j hjl
  have hnc := (HA.out.cell (p := ⟨gn, on + j, none⟩) hgn).trans hcn
  have hgsa : gs < wa.heap.size := by omega
  have hgna : gn < wa.heap.size := by omega
  clear hd HB hcs hcn hrn HATS HATN hbl hpl h10 HG
  generalize bs[j] = s at *
  generalize hnl : ls[j].length = nl at *
  rcases s with _ | _
  · by_cases hl : ins.length = nl
    · have hl1 : ((ins.length : Int) == (nl : Int)) = true := by simp [hl]
      have HE2 : Hid (b = !longL9 ins) := by rw [HE.out, decide_eq_true hl]; rfl
      clear HE hl
      generalize longL9 ins = tb at *
      go_enter Tryz.func61, Tryz.ntmps61
      go_wp2_with fail
      rw [HWA.out]
      refine HCT.out.mono ?_
      rintro e w1 ⟨rfl, hb1⟩
      have K1 := Lib.hid hb1
      have s1 := (hb1.cell (p := ⟨gs, os + j, none⟩) hgsa).trans hsc
      have s2 := (hb1.cell (p := ⟨gn, on + j, none⟩) hgna).trans hnc
      clear hb1 c0 c1 c2 c3 hsc hnc
      obtain ⟨c0, c1, c2, c3⟩ := (P0.out.below K1.out hsz).cells
      go_wp2_with fail
      refine (HT.out w1 K1.out).mono ?_
      rintro e w2 ⟨rfl, hw2⟩
      obtain rfl := hw2
      go_wp2_with fail
      go_ret
      exact ⟨by rw [HE2.out] <;> rfl, bth HA.out K1.out (Nat.le_refl _)⟩
    · have hl1 : ((ins.length : Int) == (nl : Int)) = false := by simp; omega
      have HE2 : Hid (b = false) := by rw [HE.out, decide_eq_false hl]; rfl
      clear HE hl HT
      go_enter Tryz.func61, Tryz.ntmps61
      go_wp2_with fail
      rw [HWA.out]
      refine HCT.out.mono ?_
      rintro e w1 ⟨rfl, hb1⟩
      have K1 := Lib.hid hb1
      have s1 := (hb1.cell (p := ⟨gs, os + j, none⟩) hgsa).trans hsc
      have s2 := (hb1.cell (p := ⟨gn, on + j, none⟩) hgna).trans hnc
      clear hb1 c0 c1 c2 c3 hsc hnc
      obtain ⟨c0, c1, c2, c3⟩ := (P0.out.below K1.out hsz).cells
      go_wp2_with fail
      go_ret
      exact ⟨by rw [HE2.out] <;> rfl, bth HA.out K1.out (Nat.le_refl _)⟩
  · have HE2 : Hid (b = false) := by rw [HE.out]; rfl
    clear HE HT
    go_enter Tryz.func61, Tryz.ntmps61
    go_wp2_with fail
    rw [HWA.out]
    refine HCT.out.mono ?_
    rintro e w1 ⟨rfl, hb1⟩
    have K1 := Lib.hid hb1
    have s1 := (hb1.cell (p := ⟨gs, os + j, none⟩) hgsa).trans hsc
    clear hb1 c0 c1 c2 c3 hsc hnc
    obtain ⟨c0, c1, c2, c3⟩ := (P0.out.below K1.out hsz).cells
    go_wp2_with fail
    go_ret
    exact ⟨by rw [HE2.out] <;> rfl, bth HA.out K1.out (Nat.le_refl _)⟩

set_option maxRecDepth 20000 in
set_option maxHeartbeats 8000000 in
theorem specTrace9_b (ls : List (List Int)) (l : List Int) (bs : List Bool) (rs : List (List OpT)) (t : TrT) {b : Bool} (hb : traceA ls bs t = b) (v x : Value) (w : World) (hp : PlanV w v ls l bs rs) (ht : TrV w x t) (hpl : planA ls l bs rs = true) (hx : HeldT maxLen t) :
    Calls Tryz.prog 25 #[v, x] w (BoolPost b w) := by
  obtain ⟨t1, ins, x1, x2⟩ := t
  obtain ⟨ai, ci, rfl, hr⟩ := ht
  obtain ⟨hx1, hx2⟩ := hx
  simp only at hr hx1 hx2
  unfold trV
  simp only
  obtain ⟨_, _, he, hi1, hi2, _⟩ := hr.texts
  injection he with ea _ ec
  subst ea ec
  unfold maxLen at hi2
  have HV := Lib.hid hp
  obtain ⟨nv, ov, sv, rv, rfl, h1, h2, h3, h4⟩ := hp
  obtain ⟨as0, cs, rfl, hs1, hs2, hats⟩ := h3.boolsW
  obtain ⟨an, cn, rfl, hn1, hn2, hatn⟩ := h1.lists
  obtain ⟨ao, co, rfl, ho1, ho2, hato⟩ := h2.ints
  obtain ⟨ar, cr, rfl, hr1, hr2, hatr⟩ := h4.lists
  clear h1 h2 h3 h4
  unfold maxLen at hs2 hn2 ho2 hr2
  obtain ⟨wa, hwa⟩ : ∃ wa, wa = w.alloc (.cells #[.slice an ls.length cn, .slice ao l.length co, .slice as0 bs.length cs, .slice ar rs.length cr] 45) := ⟨_, rfl⟩
  have hsz : w.heap.size < wa.heap.size := by rw [hwa]; simp
  have P0 : Hid (Blk4 wa w.heap.size 45 (.slice an ls.length cn) (.slice ao l.length co) (.slice as0 bs.length cs) (.slice ar rs.length cr)) := by rw [hwa]; exact Blk4.new
  have HA : Hid (Below w.heap.size w wa) := by rw [hwa]; exact (Below.refl w.heap.size w).alloc (Nat.le_refl _) _
  have HWA : Hid (w.alloc (.cells #[.slice an ls.length cn, .slice ao l.length co, .slice as0 bs.length cs, .slice ar rs.length cr] 45) = wa) := by rw [hwa]; rfl
  have HVW : Hid (∀ W, Below wa.heap.size wa W → PlanV W (.agg #[.slice an ls.length cn, .slice ao l.length co, .slice as0 bs.length cs, .slice ar rs.length cr]) ls l bs rs) := fun W h => HV.out.below (bth HA.out h (Nat.le_refl _))
  clear hwa
  obtain ⟨wb, hwb⟩ : ∃ wb, wb = wa.alloc (.cells #[.int .i64 t1, .slice ai ins.length ci, .string ⟨x1.toArray⟩, .int .i64 x2] 50) := ⟨_, rfl⟩
  have Q0 : Hid (Blk4 wb wa.heap.size 50 (.int .i64 t1) (.slice ai ins.length ci) (.string ⟨x1.toArray⟩) (.int .i64 x2)) := by rw [hwb]; exact Blk4.new
  have hAB : Below wa.heap.size wa wb := by rw [hwb]; exact (Below.refl wa.heap.size wa).alloc (Nat.le_refl _) _
  have HAB := Lib.hid hAB
  have hsb : wb.heap.size = wa.heap.size + 1 := by rw [hwb]; simp
  have hsa : wa.heap.size < wb.heap.size := by omega
  have PB := Lib.hid (P0.out.below hAB hsz)
  have HWB : Hid ((w.alloc (.cells #[.slice an ls.length cn, .slice ao l.length co, .slice as0 bs.length cs, .slice ar rs.length cr] 45)).alloc (.cells #[.int .i64 t1, .slice ai ins.length ci, .string ⟨x1.toArray⟩, .int .i64 x2] 50) = wb) := by rw [HWA.out, hwb]; rfl
  obtain ⟨d, hd⟩ : ∃ d, insOk ls bs t1 ins = d := ⟨_, rfl⟩
  obtain ⟨r, hr9⟩ : ∃ r, resOk (x1, x2) = r := ⟨_, rfl⟩
  have HE : Hid (b = (d && r && decide (x2 ≠ 2))) := by show _ = _; rw [← hb, ← hd, ← hr9]; rfl
  have HW := Lib.hid (bth HA.out hAB (Nat.le_refl _))
  have HC := Lib.hid (specIns9_b ls l bs rs t1 ins hd _ _ wb (HV.out.below HW.out) (hr.below HW.out) hpl hx1)
  have HX2 := Lib.hid hx2
  have HR9 := Lib.hid hr9
  obtain ⟨c0, c1, c2, c3⟩ := PB.out.cells
  obtain ⟨d0, d1, d2, d3⟩ := Q0.out.cells
  have ea1 : wa.heap.size = w.heap.size + 1 := by rw [← HWA.out]; simp
  clear hwb hAB hb hd hr9 hr hx1 hx2 hats hatn hato hatr hpl
  have he : x2 ≠ 2 ∨ x2 = 2 := by omega
  rw [ea1] at d0 d1 d2 d3
  rcases d with _ | _
  · have HE2 : Hid (b = false) := by rw [HE.out]; rfl
    go_enter Tryz.func25, Tryz.ntmps25
    go_wp2_with fail
    rw [HWB.out]
    refine HC.out.mono ?_
    rintro e w1 ⟨rfl, hb1⟩
    have HB1 := Lib.hid (bth HW.out hb1 (Nat.le_refl _))
    clear hb1 c0 c1 c2 c3 d0 d1 d2 d3
    go_wp2_with fail
    go_ret
    exact ⟨by rw [HE2.out] <;> rfl, HB1.out⟩
  go_enter Tryz.func25, Tryz.ntmps25
  go_wp2_with fail
  rw [HWB.out]
  refine HC.out.mono ?_
  rintro e w1 ⟨rfl, hb1⟩
  have HB1 := Lib.hid (bth HW.out hb1 (Nat.le_refl _))
  have Q1 := Lib.hid (Q0.out.below hb1 hsa)
  have hs1 := hb1.size
  clear hb1 c0 c1 c2 c3 d0 d1 d2 d3 HC
  obtain ⟨_, _, d2, d3⟩ := Q1.out.cells
  rw [ea1] at d2 d3
  go_wp2_with fail
  have hrow := row_lit w1 (x1, x2)
  have hAl : Below w1.heap.size w1 (w1.alloc (.cells #[.string ⟨x1.toArray⟩, .int .i64 x2] 48)) := (Below.refl w1.heap.size w1).alloc (Nat.le_refl _) _
  refine (specResults_b (l := [(x1, x2)]) (b := r) (by rw [resA_one]; exact HR9.out) _ _ hrow (fun f hf => by rw [List.mem_singleton] at hf; rw [hf]; exact HX2.out)).mono ?_
  rintro e w2 ⟨rfl, hb2⟩
  have hb2' := bth hAl hb2 (Nat.le_refl _)
  have HB2 := Lib.hid (bth HB1.out hb2' (Nat.le_refl _))
  clear hrow hAl
  have Q2 := Lib.hid (Q1.out.below hb2' (by omega))
  clear hb2 d2 d3
  obtain ⟨_, _, d2, d3⟩ := Q2.out.cells
  rw [ea1] at d2 d3
  have HE2 : Hid (b = (r && decide (x2 ≠ 2))) := by rw [HE.out]; rfl
  rcases r with _ | _
  · have HE3 : Hid (b = false) := by rw [HE2.out]; rfl
    go_wp2_with fail
    go_ret
    exact ⟨by rw [HE3.out] <;> rfl, HB2.out⟩
  · rcases he with he | he
    · have hn : (x2 != 2) = true := by simp [he]
      have HE3 : Hid (b = true) := by rw [HE2.out, decide_eq_true he]; rfl
      clear he
      go_wp2_with fail
      go_ret
      exact ⟨by rw [HE3.out] <;> rfl, HB2.out⟩
    · have hn : (x2 != 2) = false := by simp [he]
      have HE3 : Hid (b = false) := by show b = false; rw [HE2.out]; simp [he]
      clear he
      go_wp2_with fail
      go_ret
      exact ⟨by rw [HE3.out] <;> rfl, HB2.out⟩

set_option maxRecDepth 20000 in
set_option maxHeartbeats 8000000 in
theorem implTrace_b (ls : List (List Int)) (l : List Int) (bs : List Bool) (rs : List (List OpT)) (t : TrT) {b : Bool} (hb : traceA ls bs t = b) (v x : Value) (w : World) (hp : PlanV w v ls l bs rs) (ht : TrV w x t) (hpl : planA ls l bs rs = true) (hx : HeldT maxLen t) :
    Calls Tryz.prog 34 #[v, x] w (BoolPost b w) := by
  obtain ⟨t1, ins, x1, x2⟩ := t
  obtain ⟨ai, ci, rfl, hr⟩ := ht
  obtain ⟨hx1, hx2⟩ := hx
  simp only at hr hx1 hx2
  unfold trV
  simp only
  obtain ⟨_, _, he, hi1, hi2, _⟩ := hr.texts
  injection he with ea _ ec
  subst ea ec
  unfold maxLen at hi2
  have HV := Lib.hid hp
  obtain ⟨nv, ov, sv, rv, rfl, h1, h2, h3, h4⟩ := hp
  obtain ⟨as0, cs, rfl, hs1, hs2, hats⟩ := h3.boolsW
  obtain ⟨an, cn, rfl, hn1, hn2, hatn⟩ := h1.lists
  obtain ⟨ao, co, rfl, ho1, ho2, hato⟩ := h2.ints
  obtain ⟨ar, cr, rfl, hr1, hr2, hatr⟩ := h4.lists
  clear h1 h2 h3 h4
  unfold maxLen at hs2 hn2 ho2 hr2
  obtain ⟨wa, hwa⟩ : ∃ wa, wa = w.alloc (.cells #[.slice an ls.length cn, .slice ao l.length co, .slice as0 bs.length cs, .slice ar rs.length cr] 45) := ⟨_, rfl⟩
  have hsz : w.heap.size < wa.heap.size := by rw [hwa]; simp
  have P0 : Hid (Blk4 wa w.heap.size 45 (.slice an ls.length cn) (.slice ao l.length co) (.slice as0 bs.length cs) (.slice ar rs.length cr)) := by rw [hwa]; exact Blk4.new
  have HA : Hid (Below w.heap.size w wa) := by rw [hwa]; exact (Below.refl w.heap.size w).alloc (Nat.le_refl _) _
  have HWA : Hid (w.alloc (.cells #[.slice an ls.length cn, .slice ao l.length co, .slice as0 bs.length cs, .slice ar rs.length cr] 45) = wa) := by rw [hwa]; rfl
  have HVW : Hid (∀ W, Below wa.heap.size wa W → PlanV W (.agg #[.slice an ls.length cn, .slice ao l.length co, .slice as0 bs.length cs, .slice ar rs.length cr]) ls l bs rs) := fun W h => HV.out.below (bth HA.out h (Nat.le_refl _))
  clear hwa
  obtain ⟨wb, hwb⟩ : ∃ wb, wb = wa.alloc (.cells #[.int .i64 t1, .slice ai ins.length ci, .string ⟨x1.toArray⟩, .int .i64 x2] 50) := ⟨_, rfl⟩
  have Q0 : Hid (Blk4 wb wa.heap.size 50 (.int .i64 t1) (.slice ai ins.length ci) (.string ⟨x1.toArray⟩) (.int .i64 x2)) := by rw [hwb]; exact Blk4.new
  have hAB : Below wa.heap.size wa wb := by rw [hwb]; exact (Below.refl wa.heap.size wa).alloc (Nat.le_refl _) _
  have HAB := Lib.hid hAB
  have hsb : wb.heap.size = wa.heap.size + 1 := by rw [hwb]; simp
  have hsa : wa.heap.size < wb.heap.size := by omega
  have PB := Lib.hid (P0.out.below hAB hsz)
  have HWB : Hid ((w.alloc (.cells #[.slice an ls.length cn, .slice ao l.length co, .slice as0 bs.length cs, .slice ar rs.length cr] 45)).alloc (.cells #[.int .i64 t1, .slice ai ins.length ci, .string ⟨x1.toArray⟩, .int .i64 x2] 50) = wb) := by rw [HWA.out, hwb]; rfl
  obtain ⟨d, hd⟩ : ∃ d, insOk ls bs t1 ins = d := ⟨_, rfl⟩
  obtain ⟨r, hr9⟩ : ∃ r, resOk (x1, x2) = r := ⟨_, rfl⟩
  have HE : Hid (b = (d && r && decide (x2 ≠ 2))) := by show _ = _; rw [← hb, ← hd, ← hr9]; rfl
  have HW := Lib.hid (bth HA.out hAB (Nat.le_refl _))
  have HC := Lib.hid (implIns9_b ls l bs rs t1 ins hd _ _ wb (HV.out.below HW.out) (hr.below HW.out) hpl hx1)
  have HX2 := Lib.hid hx2
  have HR9 := Lib.hid hr9
  obtain ⟨c0, c1, c2, c3⟩ := PB.out.cells
  obtain ⟨d0, d1, d2, d3⟩ := Q0.out.cells
  have ea1 : wa.heap.size = w.heap.size + 1 := by rw [← HWA.out]; simp
  clear hwb hAB hb hd hr9 hr hx1 hx2 hats hatn hato hatr hpl
  have he : x2 ≠ 2 ∨ x2 = 2 := by omega
  rw [ea1] at d0 d1 d2 d3
  rcases d with _ | _
  · have HE2 : Hid (b = false) := by rw [HE.out]; rfl
    go_enter Tryz.func34, Tryz.ntmps34
    go_wp2_with fail
    rw [HWB.out]
    refine HC.out.mono ?_
    rintro e w1 ⟨rfl, hb1⟩
    have HB1 := Lib.hid (bth HW.out hb1 (Nat.le_refl _))
    clear hb1 c0 c1 c2 c3 d0 d1 d2 d3
    go_wp2_with fail
    go_ret
    exact ⟨by rw [HE2.out] <;> rfl, HB1.out⟩
  go_enter Tryz.func34, Tryz.ntmps34
  go_wp2_with fail
  rw [HWB.out]
  refine HC.out.mono ?_
  rintro e w1 ⟨rfl, hb1⟩
  have HB1 := Lib.hid (bth HW.out hb1 (Nat.le_refl _))
  have Q1 := Lib.hid (Q0.out.below hb1 hsa)
  have hs1 := hb1.size
  clear hb1 c0 c1 c2 c3 d0 d1 d2 d3 HC
  obtain ⟨_, _, d2, d3⟩ := Q1.out.cells
  rw [ea1] at d2 d3
  go_wp2_with fail
  have HN := noRes_b HR9.out w1 HX2.out
  unfold resV at HN
  simp only at HN
  refine HN.mono ?_
  rintro e w2 ⟨rfl, hb2⟩
  have HB2 := Lib.hid (bth HB1.out hb2 (Nat.le_refl _))
  clear HN
  have Q2 := Lib.hid (Q1.out.below hb2 (by omega))
  clear hb2 d2 d3
  obtain ⟨_, _, d2, d3⟩ := Q2.out.cells
  rw [ea1] at d2 d3
  have HE2 : Hid (b = (r && decide (x2 ≠ 2))) := by rw [HE.out]; rfl
  rcases r with _ | _
  · have HE3 : Hid (b = false) := by rw [HE2.out]; rfl
    go_wp2_with fail
    go_ret
    exact ⟨by rw [HE3.out] <;> rfl, HB2.out⟩
  · rcases he with he | he
    · have hn : (x2 != 2) = true := by simp [he]
      have HE3 : Hid (b = true) := by rw [HE2.out, decide_eq_true he]; rfl
      clear he
      go_wp2_with fail
      go_ret
      exact ⟨by rw [HE3.out] <;> rfl, HB2.out⟩
    · have hn : (x2 != 2) = false := by simp [he]
      have HE3 : Hid (b = false) := by show b = false; rw [HE2.out]; simp [he]
      clear he
      go_wp2_with fail
      go_ret
      exact ⟨by rw [HE3.out] <;> rfl, HB2.out⟩

end Go.Proofs.YtngldlconipnnaaGreat
