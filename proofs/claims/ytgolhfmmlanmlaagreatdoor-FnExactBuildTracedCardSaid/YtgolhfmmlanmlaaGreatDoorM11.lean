/- Texts of one claim, joined in their order. -/
import Derived.Sort.LotD3
import Derived.Sort.LotB
import Derived.Sort.LotC
import Derived.Deep.QuietTactic
import Derived.IntWalk
import Derived.Test.YtgolhfmmlanmlaaGreatDoorM9
import Derived.Test.YtgolhfmmlanmlaaGreatDoorM10
import Derived.Test.YtgolhfmmlanmlaaGreatDoorM2
import Derived.Test.YtgolhfmmlanmlaaGreatDoorM7
import Derived.Test.YtgolhfmmlanmlaaGreatDoorM1

/- Walks: the laws' helpers on lists of traces: copies, whether they are the same. -/
namespace Go.Proofs.YtgolhfmmlanmlaaGreatDoor
open Go.RowKit Pth

theorem TC_zero (n : Nat) : TC (List.replicate n (.slice none 0 0)) (List.replicate n noTr) = (madeCells #[.int .i64 0, .slice none 0 0, .string ByteArray.empty, .int .i64 0] (n * 4)).toList := by
  apply List.ext_getElem?
  intro j
  have hs : (List.replicate n (Value.slice none 0 0)).length = (List.replicate n noTr).length := by simp
  by_cases hj : j < n * 4
  · have hd : j / 4 < n := by omega
    obtain ⟨q0, q1, q2, q3⟩ := TC_at (l := List.replicate n noTr) hs (k := j / 4) (by simpa using hd)
    have hm : j % 4 = 0 ∨ j % 4 = 1 ∨ j % 4 = 2 ∨ j % 4 = 3 := by omega
    rcases hm with h | h | h | h
    · rw [show j = j / 4 * 4 by omega, q0]
      simp [madeCells, noTr, hd]
    · rw [show j = j / 4 * 4 + 1 by omega, q1]
      have e : (j / 4 * 4 + 1) % 4 = 1 := by omega
      have e2 : j / 4 * 4 + 1 < n * 4 := by omega
      simp [madeCells, e, e2]
    · rw [show j = j / 4 * 4 + 2 by omega, q2]
      have e : (j / 4 * 4 + 2) % 4 = 2 := by omega
      have e2 : j / 4 * 4 + 2 < n * 4 := by omega
      simp [madeCells, noTr, noRes, e, e2]; rfl
    · rw [show j = j / 4 * 4 + 3 by omega, q3]
      have e : (j / 4 * 4 + 3) % 4 = 3 := by omega
      have e2 : j / 4 * 4 + 3 < n * 4 := by omega
      simp [madeCells, noTr, noRes, e, e2]
  · rw [List.getElem?_eq_none (by rw [TC_len hs]; simp; omega)]
    simp [madeCells, hj]
theorem make_rowT (n : Nat) (w : World) (hn : n ≤ 2000000) :
    ∃ w', (Instr.makeSlice 36 (.int .i64 (n : Int)) (.int .i64 (n : Int))).run Tryz.prog w = .ok (.slice (some ⟨w.heap.size, 0, none⟩) n n) w' ∧
      w'.ownsRow w.heap.size 80 4 (.slice (some ⟨w.heap.size, 0, none⟩) n n) n (TC (List.replicate n (.slice none 0 0)) (List.replicate n noTr)) ∧ Below w.heap.size w w' := by
  obtain ⟨i0, hi, hz0, hz1, hz2⟩ := info_parts elemT.info
  obtain ⟨w', h1, h2, h3⟩ := run_makeSlice_full (P := Tryz.prog) w w.heap.size _ _ i0 _ 4 elemT.under hi hz0 hz1 .i64 .i64 n (by omega) (by rw [hz2]; exact Nat.le_trans (Nat.mul_le_mul elemT.small hn) (by decide)) (by unfold maxLen; omega) (Nat.le_refl _)
  rw [TC_zero]
  exact ⟨w', h1, h2, (Below.refl _ w).grown h3 (Nat.le_refl _) (fun k hk => by cases hk)⟩
/-- A trace that is stored in a row of the call's own. -/
theorem OwnA.putT {B : Nat} {w : World} {g o cap n : Nat} {sl : List Value} {l : List TrT} (h : OwnA B 80 4 w (.slice (some ⟨g, o, none⟩) n cap) n (TC sl l)) (hs : sl.length = l.length) {k : Nat} (hk : k < l.length) (u : Value) (t : TrT) :
    OwnA B 80 4 ((((w.setCell ⟨g, o + k * 4, none⟩ (.int .i64 t.1)).setCell ⟨g, o + k * 4 + 1, none⟩ u).setCell ⟨g, o + k * 4 + 2, none⟩ (.string ⟨t.2.2.1.toArray⟩)).setCell ⟨g, o + k * 4 + 3, none⟩ (.int .i64 t.2.2.2)) (.slice (some ⟨g, o, none⟩) n cap) n (TC (sl.set k u) (l.set k t)) ∧
    w.grownBy ((((w.setCell ⟨g, o + k * 4, none⟩ (.int .i64 t.1)).setCell ⟨g, o + k * 4 + 1, none⟩ u).setCell ⟨g, o + k * 4 + 2, none⟩ (.string ⟨t.2.2.1.toArray⟩)).setCell ⟨g, o + k * 4 + 3, none⟩ (.int .i64 t.2.2.2)) (some g) := by
  have h1 := h.stored (k * 4) (.int .i64 t.1)
  have h2 := h1.1.stored (k * 4 + 1) u
  have h3 := h2.1.stored (k * 4 + 2) (.string ⟨t.2.2.1.toArray⟩)
  have h4 := h3.1.stored (k * 4 + 3) (.int .i64 t.2.2.2)
  rw [TC_set hs hk u t] at h4
  have hg := grown_trans (grown_trans (grown_trans h1.2 h2.2) h3.2) h4.2
  exact ⟨h4.1, hg⟩
/-- The cells of a trace in a row of the call's own. -/
theorem OwnA.atT {B : Nat} {w : World} {g o cap n : Nat} {sl : List Value} {l : List TrT} (h : OwnA B 80 4 w (.slice (some ⟨g, o, none⟩) n cap) n (TC sl l)) (hs : sl.length = l.length) {k : Nat} (hk : k < l.length) :
    w.cell? ⟨g, o + k * 4, none⟩ = some (.int .i64 l[k].1) ∧ w.cell? ⟨g, o + k * 4 + 1, none⟩ = some (sl[k]'(by omega)) ∧ w.cell? ⟨g, o + k * 4 + 2, none⟩ = some (.string ⟨(l[k]).2.2.1.toArray⟩) ∧ w.cell? ⟨g, o + k * 4 + 3, none⟩ = some (.int .i64 l[k].2.2.2) := by
  obtain ⟨q0, q1, q2, q3⟩ := TC_at hs hk
  exact ⟨h.cell q0, h.cell q1, h.cell q2, h.cell q3⟩
theorem set_mid {α : Type} (a : List α) (k : Nat) (ha : a.length = k) (n : Nat) (hk : k < n) (z x : α) : (a ++ List.replicate (n - k) z).set k x = (a ++ [x]) ++ List.replicate (n - (k + 1)) z := by
  rw [List.set_append_right _ _ (by omega), ha, Nat.sub_self, show n - k = (n - (k + 1)) + 1 by omega, List.replicate_succ, List.set_cons_zero, List.append_assoc]
  rfl
theorem get_mid {α : Type} (a : List α) (k : Nat) (ha : a.length = k) (n : Nat) (hk : k < n) (z : α) : (a ++ List.replicate (n - k) z)[k]? = some z := by
  rw [List.getElem?_append_right (by omega), ha, Nat.sub_self, List.getElem?_replicate]
  simp; omega
/-- Copies of traces. -/
def TracesPost (l : List TrT) (w : World) (e : Ending) (w' : World) : Prop := ∃ v sl, e = .returned v ∧ OwnT w.heap.size w' v sl l ∧ Below w.heap.size w w'

set_option maxRecDepth 20000 in
set_option maxHeartbeats 4000000 in
theorem toTraceS_any (l : List TrT) (v : Value) (w : World) (hrow : RowT w v l) (hl : l.length + totT l ≤ 2000000) :
    Calls Tryz.prog 11 #[v] w (TracesPost l w) := by
  obtain ⟨a, cap, rfl, hc1, hc2, hat⟩ := hrow.traces
  clear hrow
  unfold maxLen at hc2
  have HAT := Lib.hid hat
  clear hat
  obtain ⟨w0, hmk, hown0, hb0⟩ := make_rowT l.length w (by omega)
  have HN0 := Lib.hid (OwnA.of_own hown0)
  have HB0 := Lib.hid hb0
  clear hown0 hb0
  go_enter Tryz.func11, Tryz.ntmps11
  go_wp2_with fail
  clear hmk
  go_loopw [4] (fun i wr => ∃ (k : Nat) (sl : List Value), k ≤ l.length ∧ i = .int .i64 k ∧ sl.length = k ∧ Hid (OwnA w.heap.size 80 4 wr (.slice (some ⟨w.heap.size, 0, none⟩) l.length l.length) l.length (TC (sl ++ List.replicate (l.length - k) (.slice none 0 0)) (l.take k ++ List.replicate (l.length - k) noTr))) ∧ Hid (ListsS w.heap.size wr (sl.zip ((l.take k).map (·.2.1)))) ∧ Hid (Below w.heap.size w wr)) (fun i _ => l.length - (intOf i).toNat)
  case atStart => exact ⟨0, [], Nat.zero_le _, rfl, rfl, by simpa using HN0, by simp [ListsS, Hid], HB0⟩
  case round =>
    clear HN0 HB0
    obtain ⟨k, sl, hk, rfl, hsl, HN, HL, HB⟩ := hrel
    have hbs := HB.out.size
    by_cases hlt : k < l.length
    · obtain ⟨g, o, a2, c2, rfl, hg, ⟨k0, k1, k2, k3⟩, hrk⟩ := HAT.out k hlt
      have s0 := (HB.out.cell (p := ⟨g, o + k * 4, none⟩) hg).trans k0
      have s1 := (HB.out.cell (p := ⟨g, o + k * 4 + 1, none⟩) hg).trans k1
      have s2 := (HB.out.cell (p := ⟨g, o + k * 4 + 2, none⟩) hg).trans k2
      have s3 := (HB.out.cell (p := ⟨g, o + k * 4 + 3, none⟩) hg).trans k3
      have HC := Lib.hid (toTrace_any l[k] _ wr ⟨a2, c2, rfl, hrk.below HB.out⟩ (by have := totT_at hlt; omega))
      have ht : (l.take k).length = k := by rw [List.length_take]; omega
      have hlen : (sl ++ List.replicate (l.length - k) (Value.slice none 0 0)).length = (l.take k ++ List.replicate (l.length - k) noTr).length := by simp; omega
      have hkl : k < (l.take k ++ List.replicate (l.length - k) noTr).length := by simp; omega
      have HP := Lib.hid (fun W (h : OwnA w.heap.size 80 4 W (.slice (some ⟨w.heap.size, 0, none⟩) l.length l.length) l.length (TC (sl ++ List.replicate (l.length - k) (.slice none 0 0)) (l.take k ++ List.replicate (l.length - k) noTr))) u => h.putT hlen hkl u l[k])
      have HG : Hid (∀ W (h : OwnA w.heap.size 80 4 W (.slice (some ⟨w.heap.size, 0, none⟩) l.length l.length) l.length (TC (sl ++ List.replicate (l.length - k) (.slice none 0 0)) (l.take k ++ List.replicate (l.length - k) noTr))),
          W.cell? ⟨w.heap.size, k * 4, none⟩ = some (.int .i64 0) ∧ W.cell? ⟨w.heap.size, k * 4 + 1, none⟩ = some (.slice none 0 0) ∧ W.cell? ⟨w.heap.size, k * 4 + 2, none⟩ = some (.string ByteArray.empty) ∧ W.cell? ⟨w.heap.size, k * 4 + 3, none⟩ = some (.int .i64 0)) := by
        intro W h
        obtain ⟨q0, q1, q2, q3⟩ := h.atT hlen hkl
        have e1 := get_mid (l.take k) k ht l.length hlt noTr
        rw [List.getElem?_eq_getElem hkl] at e1
        have e1 := Option.some.inj e1
        have e2 := get_mid sl k hsl l.length hlt (Value.slice none 0 0)
        rw [List.getElem?_eq_getElem (by omega)] at e2
        have e2 := Option.some.inj e2
        rw [e1, Nat.zero_add] at q0 q2 q3
        rw [e2, Nat.zero_add] at q1
        exact ⟨q0, q1, q2, q3⟩
      have HE1 : Hid (∀ u, (sl ++ List.replicate (l.length - k) (Value.slice none 0 0)).set k u = (sl ++ [u]) ++ List.replicate (l.length - (k + 1)) (.slice none 0 0)) := fun u => set_mid sl k hsl l.length hlt _ u
      have HE2 : Hid ((l.take k ++ List.replicate (l.length - k) noTr).set k l[k] = l.take (k + 1) ++ List.replicate (l.length - (k + 1)) noTr) := by
        show _ = _
        rw [set_mid (l.take k) k ht l.length hlt, ← List.take_succ_eq_append_getElem hlt]
      have HZ : Hid (∀ u, (sl ++ [u]).zip ((l.take (k + 1)).map (·.2.1)) = sl.zip ((l.take k).map (·.2.1)) ++ [(u, l[k].2.1)]) := by
        intro u
        rw [List.take_succ_eq_append_getElem hlt, List.map_append, List.zip_append (by rw [List.length_map]; omega)]
        rfl
      clear k0 k1 k2 k3 hrk ht hlen hkl
      generalize l[k] = x at *
      obtain ⟨x1, xi, x2, x3⟩ := x
      unfold trV TrPost trV at HC
      simp only at s0 s1 s2 s3 HC HP HZ
      go_wp2_with fail
      refine HC.out.mono ?_
      rintro e w1 ⟨b1, d1, rfl, ho1, hb1⟩
      have HB1 := Lib.hid (HB.out.trans (hb1.mono HB.out.size))
      have HN1 := Lib.hid (HN.out.below hb1)
      have HL1 := Lib.hid (HL.out.snoc hb1 ho1 (Nat.le_refl _) HB.out.size)
      rw [← HZ.out] at HL1
      have hp := HP.out w1 HN1.out (.slice b1 xi.length d1)
      rw [HE1.out, HE2.out] at hp
      simp only [Nat.zero_add] at hp
      have HN2 := Lib.hid hp.1
      have HL2 := Lib.hid (HL1.out.grownA HN1.out (by decide) hp.2)
      have HB2 := Lib.hid (HB1.out.trans (only_below hp.2 (Nat.le_refl _) HB1.out.size))
      obtain ⟨q0, q1, q2, q3⟩ := HG.out w1 HN1.out
      have f0 := HN1.out.soft (k * 4)
      have f1 := HN1.out.soft (k * 4 + 1)
      have f2 := HN1.out.soft (k * 4 + 2)
      have f3 := HN1.out.soft (k * 4 + 3)
      clear hp hb1 ho1 HN HB HL HC HE1 HE2 HG HP HZ HN1 HL1 HB1
      go_wp2_with fail
      go_roundw
      case rel => exact ⟨k + 1, sl ++ [.slice b1 xi.length d1], by omega, by go_num, by rw [List.length_append, hsl]; rfl, HN2, HL2, HB2⟩
      case measure => simp [intOf]; omega
    · have hkl : k = l.length := by omega
      rw [hkl, Nat.sub_self, List.replicate_zero, List.replicate_zero, List.append_nil, List.append_nil, List.take_length] at HN
      rw [hkl, List.take_length] at HL
      have HZ : Hid (OwnT w.heap.size wr (.slice (some ⟨w.heap.size, 0, none⟩) l.length l.length) sl l) := ⟨by omega, HN.out, HL.out⟩
      clear HAT HN HL
      go_wp2_with fail
      go_ret
      exact ⟨_, sl, rfl, HZ.out, HB.out⟩

set_option maxRecDepth 20000 in
set_option maxHeartbeats 2000000 in
theorem eqTrace_b {t u : TrT} {b : Bool} {v x : Value} {w : World} (hv : TrV w v t) (hu : TrV w x u) (hl : t.2.1.length ≤ 2000000) (h : decide (t = u) = b) :
    Calls Tryz.prog 53 #[v, x] w (BoolPost b w) := by
  obtain ⟨t1, ins, o1, o2⟩ := t
  obtain ⟨u1, jns, p1, p2⟩ := u
  obtain ⟨a, c, rfl, hr⟩ := hv
  obtain ⟨a', c', rfl, hr'⟩ := hu
  simp only at hr hr' hl
  unfold trV
  simp only
  have HE : Hid (b = (decide (t1 = u1) && (decide (ins = jns) && decide ((o1, o2) = (p1, p2))))) := by
    show _ = _
    rw [← h, Bool.eq_iff_iff]
    simp only [Bool.and_eq_true, decide_eq_true_eq, Prod.mk.injEq]
  clear h
  obtain ⟨wp, hwp⟩ : ∃ wp, wp = w.alloc (.cells #[.int .i64 t1, .slice a ins.length c, .string ⟨o1.toArray⟩, .int .i64 o2] 80) := ⟨_, rfl⟩
  obtain ⟨wa, hwa⟩ : ∃ wa, wa = wp.alloc (.cells #[.int .i64 u1, .slice a' jns.length c', .string ⟨p1.toArray⟩, .int .i64 p2] 80) := ⟨_, rfl⟩
  have ep : wp.heap.size = w.heap.size + 1 := by rw [hwp]; simp
  have ea : wa.heap.size = w.heap.size + 2 := by rw [hwa]; simp [ep]
  have P0 : Hid (Blk4 wa w.heap.size 80 (.int .i64 t1) (.slice a ins.length c) (.string ⟨o1.toArray⟩) (.int .i64 o2)) := by rw [hwa, hwp]; exact Blk4.new.old _
  have Q0 : Hid (Blk4 wa (w.heap.size + 1) 80 (.int .i64 u1) (.slice a' jns.length c') (.string ⟨p1.toArray⟩) (.int .i64 p2)) := by rw [hwa, ← ep]; exact Blk4.new
  have HA : Hid (Below w.heap.size w wa) := by rw [hwa, hwp]; exact ((Below.refl w.heap.size w).alloc (Nat.le_refl _) _).alloc (by simp) _
  have HWA : Hid ((w.alloc (.cells #[.int .i64 t1, .slice a ins.length c, .string ⟨o1.toArray⟩, .int .i64 o2] 80)).alloc (.cells #[.int .i64 u1, .slice a' jns.length c', .string ⟨p1.toArray⟩, .int .i64 p2] 80) = wa) := by rw [hwa, hwp]; rfl
  have HS := Lib.hid (eqStringS_any ins jns _ _ wa (hr.below HA.out) (hr'.below HA.out) hl)
  clear hwa hwp hr hr'
  by_cases hT : t1 = u1
  · have d1 : (t1 != u1) = false := by simp [hT]
    have HE1 : Hid (b = (decide (ins = jns) && decide ((o1, o2) = (p1, p2)))) := by rw [HE.out, decide_eq_true hT, Bool.true_and]; rfl
    clear HE hT
    generalize decide (ins = jns) = bi at *
    go_enter Tryz.func53, Tryz.ntmps53
    go_wp2_with fail
    rw [HWA.out]
    refine HS.out.mono ?_
    rintro e w1 ⟨rfl, hb1⟩
    have HB1 := Lib.hid (bth HA.out hb1 (Nat.le_refl _))
    obtain ⟨_, _, c2, c3⟩ := (P0.out.below hb1 (by omega)).cells
    obtain ⟨_, _, e2, e3⟩ := (Q0.out.below hb1 (by omega)).cells
    have hs1 := hb1.size
    clear hb1 HS
    rcases bi with _ | _
    · go_wp2_with fail
      go_ret
      exact ⟨by rw [HE1.out] <;> rfl, HB1.out⟩
    · obtain ⟨br, hbr⟩ : ∃ br, decide ((o1, o2) = (p1, p2)) = br := ⟨_, rfl⟩
      have HR := Lib.hid (eqResult_b hbr w1)
      unfold resV at HR
      simp only at HR
      rw [hbr, Bool.true_and] at HE1
      clear hbr
      go_wp2_with fail
      refine HR.out.mono ?_
      rintro e w2 ⟨rfl, hb2⟩
      have HB2 := Lib.hid (bth HB1.out hb2 (Nat.le_refl _))
      clear hb2 HR
      rcases br with _ | _
      all_goals
        go_wp2_with fail
        go_ret
        exact ⟨by rw [HE1.out] <;> rfl, HB2.out⟩
  · have d1 : (t1 != u1) = true := by simp [hT]
    have HE1 : Hid (b = false) := by rw [HE.out, decide_eq_false hT, Bool.false_and]; rfl
    clear HE hT HS
    go_enter Tryz.func53, Tryz.ntmps53
    go_wp2_with fail
    go_ret
    exact ⟨by rw [HE1.out] <;> rfl, by rw [HWA.out]; exact HA.out⟩

end Go.Proofs.YtgolhfmmlanmlaaGreatDoor

/- Walks: copies of traces, and one that is noted, of the program. -/
namespace Go.Proofs.YtgolhfmmlanmlaaGreatDoor
open Go.RowKit Pth

/-- An append whose run is known. -/
theorem wpList_runApp9 {t : TypeId} {ops : Array Oper} {rest : List Oper} {o : Oper} {a : Act} {Q : Exit → Act → World → Prop} {w w' : World} {v u r : Value} (hgd : o.guard = none) (s x : Operand)
    (ho : o.op = .call { callee := .builtin .append, args := #[s, x], argTypes := #[t, t] }) (hs : a.eval s = v) (hx : a.eval x = u) (hrun : (Builtin.append_ #[t, t] o.type #[v, u]).run Tryz.prog w = .ok r w')
    (h : wpList Tryz.prog ops Q rest (a.put o.dst r) w') : wpList Tryz.prog ops Q (o :: rest) a w := by
  refine wpList_plain hgd fun K hK => ?_
  unfold Oper.wp execOp
  simp only [ho, resolve, invoke, builtin, Sem.run_bind, Sem.run_pure, Result.andThen_ok, List.map_toArray, List.map_cons, List.map_nil, hs, hx, hrun]
  exact hK _ _ h
theorem below_ownA {w w' : World} {B e n z : Nat} {v : Value} {xs : List Value} (h : OwnA B e z w v n xs) (hg : w.grownBy w' v.ownBlock) (hB : B ≤ w.heap.size) : Below B w w' :=
  (Below.refl B w).grown hg hB (fun k hk => (h.lt k hk).1)
/-- One more behind traces of the call's own. -/
theorem OwnT.push {B : Nat} {w : World} {v : Value} {sl : List Value} {l : List TrT} {a : Option Addr} {c : Nat} {t : TrT} (hs : sl.length = l.length) (hA : OwnA B 80 4 w v l.length (TC sl l)) (hL : ListsS B w (sl.zip (l.map (·.2.1)) ++ [(.slice a t.2.1.length c, t.2.1)])) (hl : l.length ≤ 1000000) (hB : B ≤ w.heap.size) (ty : TypeId) :
    ∃ v' w', (Builtin.append_ #[36, 36] ty #[v, .slice (some ⟨w.heap.size, 0, none⟩) 1 1]).run Tryz.prog (w.alloc (.cells #[.int .i64 t.1, .slice a t.2.1.length c, .string ⟨t.2.2.1.toArray⟩, .int .i64 t.2.2.2] 80)) = .ok v' w' ∧
      OwnT B w' v' (sl ++ [.slice a t.2.1.length c]) (l ++ [t]) ∧ w.grownBy w' v.ownBlock ∧ (∀ b, v'.ownBlock = some b → v.ownBlock = some b ∨ w.heap.size ≤ b) := by
  obtain ⟨v', w', h1, h2, h3, h4⟩ := hA.push elemT #[.int .i64 t.1, .slice a t.2.1.length c, .string ⟨t.2.2.1.toArray⟩, .int .i64 t.2.2.2] rfl (trC_one rfl t) hl hB ty
  refine ⟨v', w', h1, ⟨by rw [List.length_append, List.length_append, hs]; rfl, ?_, ?_⟩, h3, h4⟩
  · rw [TC_append hs, TC_one', List.length_append]
    exact h2
  · have := hL.grownA hA (by decide) h3
    rw [List.map_append, List.zip_append (by rw [List.length_map]; exact hs)]
    exact this
/-- One in place of another. -/
theorem OwnT.put {B : Nat} {w : World} {g o cap n : Nat} {sl : List Value} {l : List TrT} {a : Option Addr} {c : Nat} {t : TrT} (hs : sl.length = l.length) (hn : n = l.length) (hA : OwnA B 80 4 w (.slice (some ⟨g, o, none⟩) n cap) n (TC sl l)) (hL : ListsS B w (sl.zip (l.map (·.2.1)) ++ [(.slice a t.2.1.length c, t.2.1)])) {k : Nat} (hk : k < l.length) :
    OwnT B ((((w.setCell ⟨g, o + k * 4, none⟩ (.int .i64 t.1)).setCell ⟨g, o + k * 4 + 1, none⟩ (.slice a t.2.1.length c)).setCell ⟨g, o + k * 4 + 2, none⟩ (.string ⟨t.2.2.1.toArray⟩)).setCell ⟨g, o + k * 4 + 3, none⟩ (.int .i64 t.2.2.2)) (.slice (some ⟨g, o, none⟩) n cap) (sl.set k (.slice a t.2.1.length c)) (l.set k t) ∧
    w.grownBy ((((w.setCell ⟨g, o + k * 4, none⟩ (.int .i64 t.1)).setCell ⟨g, o + k * 4 + 1, none⟩ (.slice a t.2.1.length c)).setCell ⟨g, o + k * 4 + 2, none⟩ (.string ⟨t.2.2.1.toArray⟩)).setCell ⟨g, o + k * 4 + 3, none⟩ (.int .i64 t.2.2.2)) (some g) := by
  obtain ⟨h1, h2⟩ := hA.putT hs hk (.slice a t.2.1.length c) t
  refine ⟨⟨by rw [List.length_set, List.length_set, hs], by rw [List.length_set, ← hn]; exact h1, ?_⟩, h2⟩
  have h3 := (hL.grownA hA (by decide) h2).put k
  have e : (sl.set k (.slice a t.2.1.length c)).zip ((l.set k t).map (·.2.1)) = (sl.zip (l.map (·.2.1))).set k (.slice a t.2.1.length c, t.2.1) := by
    rw [List.map_set]
    apply List.ext_getElem
    · simp
    · intro i h1 h2
      simp only [List.getElem_zip, List.getElem_set]
      split <;> rfl
  rw [e]; exact h3
theorem OwnT.cut {B : Nat} {w : World} {a : Option Addr} {cap n : Nat} {sl : List Value} {l : List TrT} (h : OwnT B w (.slice a n cap) sl l) (hn : n = l.length) (k : Nat) (hk : k ≤ n) :
    OwnT B w (.slice (if cap = k then a else a.map (·.add (k * 4))) (n - k) (cap - k)) (sl.drop k) (l.drop k) := by
  obtain ⟨hs, hA, hL⟩ := h
  rw [← hn] at hA
  have := hA.cut k hk
  rw [TC_drop hs] at this
  refine ⟨by rw [List.length_drop, List.length_drop, hs], by rw [List.length_drop, ← hn]; exact this, ?_⟩
  have h2 := hL.drop k
  rw [List.zip, List.drop_zipWith, ← List.map_drop] at h2
  exact h2

set_option maxRecDepth 20000 in
set_option maxHeartbeats 8000000 in
theorem ownTexts9_any (l : List (List UInt8)) (v : Value) (w : World) (hrow : RowV w v (S l)) (hx : ∀ f ∈ l, f.length ≤ 1000) (hl : l.length ≤ 1000) :
    Calls Tryz.prog 115 #[v] w (TextsPost w.heap.size l w) := by
  obtain ⟨a, cap, rfl, hc1, hc2, hat⟩ := hrow.texts
  clear hrow
  unfold maxLen at hc2
  go_enter Tryz.func115, Tryz.ntmps115
  go_wp2_with fail
  go_loopw [8, 3] (fun i v wr => ∃ k : Nat, k ≤ l.length ∧ i = .int .i64 k ∧ Hid (wr.ownsRow w.heap.size 9 1 v (l.take k).length (S (l.take k))) ∧ Hid (Below w.heap.size w wr)) (fun i _ _ => l.length - (intOf i).toNat)
  case atStart => exact ⟨0, Nat.zero_le _, rfl, ⟨rfl, .inl ⟨rfl, rfl⟩⟩, Below.refl _ _⟩
  case round =>
    obtain ⟨k, hk, rfl, HN, HB⟩ := hrel
    by_cases hlt : k < l.length
    · obtain ⟨g, o, rfl, hg, hcell1⟩ := hat k hlt
      have hc1' : wr.cell? ⟨g, o + k, none⟩ = some (.string ⟨(l[k]).toArray⟩) := by rw [HB.out.cell (p := ⟨g, o + k, none⟩) hg]; exact hcell1
      have HT : Hid (l.take k ++ [l[k]] = l.take (k + 1)) := (List.take_succ_eq_append_getElem hlt).symm
      have HCL := Lib.hid (clone_any l[k] wr (hx l[k] (List.getElem_mem hlt)))
      have hln : (l.take k).length = k := by rw [List.length_take]; omega
      generalize l.take k = acc at HN HT hln
      clear hcell1 hat hx
      generalize l[k] = x at hc1' HT HCL
      go_wp2_with fail
      refine HCL.out.mono ?_
      rintro e w1 ⟨rfl, hb1⟩
      have HN1 := Lib.hid (own_belowG HN.out hb1)
      have HB1 := Lib.hid (bth HB.out hb1 (Nat.le_refl _))
      clear hb1 HN HB HCL
      go_wp2_with (at_builtin; refine wpAppOne elemS rfl _ _ rfl w.heap.size _ (S acc) rfl (by rw [S_len]; exact HN1.out) _ rfl rfl rfl (by rw [S_len]; omega) HB1.out.size ?_; intro v2 w2 hown2 hg2; have HN2 := Lib.hid (text_snoc hown2); have HB2 := Lib.hid (HB1.out.trans (below_own HN1.out hg2 HB1.out.size)); clear hown2 hg2)
      rw [HT.out] at HN2
      go_roundw
      case rel => exact ⟨k + 1, by omega, by go_num, HN2, HB2⟩
      case measure => simp [intOf]; omega
    · have HN1 : Hid (wr.ownsRow w.heap.size 9 1 u3 l.length (S l)) := by
        have := HN.out
        rw [List.take_of_length_le (by omega)] at this
        exact this
      clear HN hat hx
      go_wp2_with fail
      go_ret
      exact ⟨_, rfl, HN1.out, HB.out⟩

set_option maxRecDepth 20000 in
set_option maxHeartbeats 8000000 in
theorem ownTrace9_any (t : TrT) (x : Value) (w : World) (hv : TrV w x t) (hx : ∀ y ∈ t.2.1, y.length ≤ 1000) (hl : t.2.1.length ≤ 1000) (ho : t.2.2.1.length ≤ 1000) :
    Calls Tryz.prog 83 #[x] w (TrPost t w) := by
  obtain ⟨t1, ins, x1, x2⟩ := t
  obtain ⟨a, c, rfl, hr⟩ := hv
  simp only at hr hx hl ho ⊢
  unfold trV TrPost
  simp only
  obtain ⟨_, _, he, hc1, hc2, hrt⟩ := hr.texts
  injection he with ea _ ec
  subst ea ec
  unfold maxLen at hc2
  clear hrt
  obtain ⟨wp, hwp⟩ : ∃ wp, wp = w.alloc (.cells #[.int .i64 t1, .slice a ins.length c, .string ⟨x1.toArray⟩, .int .i64 x2] 80) := ⟨_, rfl⟩
  obtain ⟨wa, hwa⟩ : ∃ wa, wa = wp.alloc (.cells #[.int .i64 0, .slice none 0 0, .string ⟨#[]⟩, .int .i64 0] 80) := ⟨_, rfl⟩
  have ep : wp.heap.size = w.heap.size + 1 := by rw [hwp]; simp
  have ea : wa.heap.size = w.heap.size + 2 := by rw [hwa]; simp [ep]
  have P0 : Hid (Blk4 wa.drew w.heap.size 80 (.int .i64 t1) (.slice a ins.length c) (.string ⟨x1.toArray⟩) (.int .i64 x2)) := by show Blk4 wa _ _ _ _ _ _; rw [hwa, hwp]; exact Blk4.new.old _
  have R0 : Hid (Blk4 wa.drew (w.heap.size + 1) 80 (.int .i64 0) (.slice none 0 0) (.string ⟨#[]⟩) (.int .i64 0)) := by show Blk4 wa _ _ _ _ _ _; rw [hwa, ← ep]; exact Blk4.new
  have HA : Hid (Below w.heap.size w wa.drew) := by
    have : Below w.heap.size w wa := by rw [hwa, hwp]; exact ((Below.refl w.heap.size w).alloc (Nat.le_refl _) _).alloc (by simp) _
    exact Below.drew this
  have HWA : Hid ((w.alloc (.cells #[.int .i64 t1, .slice a ins.length c, .string ⟨x1.toArray⟩, .int .i64 x2] 80)).alloc (.cells #[.int .i64 0, .slice none 0 0, .string ⟨#[]⟩, .int .i64 0] 80) = wa) := by rw [hwa, hwp]; rfl
  have hsz : wa.drew.heap.size = w.heap.size + 2 := ea
  have HT := Lib.hid (fun W (h : Below w.heap.size w W) => ownTexts9_any ins _ W (hr.below h) hx hl)
  have HR := Lib.hid (fun W => ownRes_any (x1, x2) W ho)
  unfold resV at HR
  simp only at HR
  have HK : Hid (∀ W, Below wa.drew.heap.size wa.drew W → (W.cell? ⟨w.heap.size, 0, none⟩ = some (.int .i64 t1) ∧ W.cell? ⟨w.heap.size, 1, none⟩ = some (.slice a ins.length c) ∧ W.cell? ⟨w.heap.size, 2, none⟩ = some (.string ⟨x1.toArray⟩) ∧ W.cell? ⟨w.heap.size, 3, none⟩ = some (.int .i64 x2))) := fun W h => (P0.out.below h (by omega)).cells
  have HKR : Hid (∀ W, Below wa.drew.heap.size wa.drew W → Blk4 W (w.heap.size + 1) 80 (.int .i64 0) (.slice none 0 0) (.string ⟨#[]⟩) (.int .i64 0)) := fun W h => R0.out.below h (by omega)
  have BC := Lib.hid (Below.refl wa.drew.heap.size wa.drew)
  have ks := HK.out wa.drew BC.out
  have hne : w.heap.size ≠ w.heap.size + 1 := by omega
  clear hwa hwp ep ea hr hx
  go_enter Tryz.func83, Tryz.ntmps83
  go_wp2_with fail
  rw [HWA.out]
  go_region_held3 (fun w' => w'.cell? ⟨w.heap.size, 0, none⟩ = some (.int .i64 t1) ∧ w'.cell? ⟨w.heap.size, 1, none⟩ = some (.slice a ins.length c) ∧ w'.cell? ⟨w.heap.size, 2, none⟩ = some (.string ⟨x1.toArray⟩) ∧ w'.cell? ⟨w.heap.size, 3, none⟩ = some (.int .i64 x2)) (first | exact ks | (rw [set_ne9 _ _ hne, set_ne9 _ _ hne, set_ne9 _ _ hne, set_ne9 _ _ hne, set_ne9 _ _ hne, set_ne9 _ _ hne, set_ne9 _ _ hne, set_ne9 _ _ hne, set_ne9 _ _ hne, set_ne9 _ _ hne, set_ne9 _ _ hne, set_ne9 _ _ hne, set_ne9 _ _ hne, set_ne9 _ _ hne, set_ne9 _ _ hne, set_ne9 _ _ hne]; exact ks))
    (first
      | (go_at_call 115; refine (HT.out _ (bth HA.out BC.out (Nat.le_refl _))).mono ?_; rintro e w7 ⟨v7, rfl, ho7, hb7⟩
         have BC := Lib.hid (BC.out.trans (hb7.mono BC.out.size))
         have HO := Lib.hid (own_base ho7 (by have := BC.out.size; have := hb7.size; omega : wa.drew.heap.size ≤ _))
         have ks := HK.out w7 BC.out
         obtain ⟨q1, q2, rfl⟩ := own_slice ho7
         have HRB := Lib.hid (HKR.out w7 BC.out)
         obtain ⟨f0, f1, f2, f3⟩ := HRB.out.cells
         have g0 := HRB.out.soft 0
         have g1 := HRB.out.soft 1
         have g2 := HRB.out.soft 2
         have g3 := HRB.out.soft 3
         clear ho7 hb7)
      | (go_at_call 90; refine (HR.out _).mono ?_; rintro e w8 ⟨rfl, hb8⟩
         try have HO := Lib.hid (own_below HO.out hb8)
         have BC := Lib.hid (BC.out.trans (hb8.mono BC.out.size))
         have ks := HK.out w8 BC.out
         have HRB := Lib.hid (HKR.out w8 BC.out)
         obtain ⟨f0, f1, f2, f3⟩ := HRB.out.cells
         have g0 := HRB.out.soft 0
         have g1 := HRB.out.soft 1
         have g2 := HRB.out.soft 2
         have g3 := HRB.out.soft 3
         clear hb8))
  all_goals
    clear ks
    have hZ := (((HRB.out.set0 (.int .i64 t1)).set1 (.slice q1 ins.length q2)).set2 (.string ⟨x1.toArray⟩)).set3 (.int .i64 x2)
    have HBW := Lib.hid (bth HA.out BC.out (Nat.le_refl _))
    go_wp2_with fail
    refine bodyPost_ret (results_cellP rfl rfl (load_trace hZ)) rfl ?_
    have e2 : w.heap.size + 1 < wa.drew.heap.size := by omega
    have e3 : w.heap.size ≤ w.heap.size + 1 := by omega
    refine ⟨q1, q2, rfl, ?_, ?_⟩
    · exact own_base (own_setI (own_setI (own_setI (own_setI HO.out (p := ⟨w.heap.size + 1, 0, none⟩) e2 _) (p := ⟨w.heap.size + 1, 1, none⟩) e2 _) (p := ⟨w.heap.size + 1, 2, none⟩) e2 _) (p := ⟨w.heap.size + 1, 3, none⟩) e2 _) (by omega)
    · exact (((HBW.out.setCell (p := ⟨w.heap.size + 1, 0, none⟩) e3 _).setCell (p := ⟨w.heap.size + 1, 1, none⟩) e3 _).setCell (p := ⟨w.heap.size + 1, 2, none⟩) e3 _).setCell (p := ⟨w.heap.size + 1, 3, none⟩) e3 _

set_option maxRecDepth 20000 in
set_option maxHeartbeats 8000000 in
theorem ownTraces9_any (T : List TrT) (v : Value) (w : World) (hrow : RowT w v T) (hs : ShortT T) (hl : T.length ≤ 1000) :
    Calls Tryz.prog 50 #[v] w (TracesPost T w) := by
  obtain ⟨a, cap, rfl, hc1, hc2, hat⟩ := hrow.traces
  clear hrow
  unfold maxLen at hc2
  have HAT := Lib.hid hat
  have HSH := Lib.hid hs
  clear hat hs
  go_enter Tryz.func50, Tryz.ntmps50
  go_wp2_with fail
  go_loopw [8, 3] (fun i v wr => ∃ (k : Nat) (sl : List Value), k ≤ T.length ∧ i = .int .i64 k ∧ Hid (OwnT w.heap.size wr v sl (T.take k)) ∧ Hid (Below w.heap.size w wr)) (fun i _ _ => T.length - (intOf i).toNat)
  case atStart => exact ⟨0, [], Nat.zero_le _, rfl, OwnT.empty _ _, Below.refl _ _⟩
  case round =>
    obtain ⟨k, sl, hk, rfl, HN, HB⟩ := hrel
    by_cases hlt : k < T.length
    · obtain ⟨g, o, a2, c2, rfl, hg, ⟨k0, k1, k2, k3⟩, hrk⟩ := HAT.out k hlt
      have s0 := (HB.out.cell (p := ⟨g, o + k * 4, none⟩) hg).trans k0
      have s1 := (HB.out.cell (p := ⟨g, o + k * 4 + 1, none⟩) hg).trans k1
      have s2 := (HB.out.cell (p := ⟨g, o + k * 4 + 2, none⟩) hg).trans k2
      have s3 := (HB.out.cell (p := ⟨g, o + k * 4 + 3, none⟩) hg).trans k3
      have hltz : (k : Int) < (T.length : Int) := by omega
      obtain ⟨e1, e2, e3⟩ := HSH.out _ (List.getElem_mem hlt)
      have HC := Lib.hid (fun W (h : Below w.heap.size w W) => ownTrace9_any T[k] (trV (.slice a2 T[k].2.1.length c2) T[k]) W ⟨a2, c2, rfl, hrk.below h⟩ (fun y hy => by have := e1 y hy; omega) (by omega) (by omega))
      have HT : Hid (T.take k ++ [T[k]] = T.take (k + 1)) := (List.take_succ_eq_append_getElem hlt).symm
      have hln : (T.take k).length ≤ 1000000 := by rw [List.length_take]; omega
      have HXB := Lib.hid (HB.out.alloc HB.out.size (.cells #[.int .i64 T[k].1, .slice a2 T[k].2.1.length c2, .string ⟨T[k].2.2.1.toArray⟩, .int .i64 T[k].2.2.2] 80))
      have HXN := Lib.hid (HN.out.below ((Below.refl wr.heap.size wr).alloc (Nat.le_refl _) (.cells #[.int .i64 T[k].1, .slice a2 T[k].2.1.length c2, .string ⟨T[k].2.2.1.toArray⟩, .int .i64 T[k].2.2.2] 80)))
      clear k0 k1 k2 k3 hrk e1 e2 e3 HN
      generalize T.take k = acc at *
      generalize T[k] = z at *
      obtain ⟨z1, zi, z2, z3⟩ := z
      unfold trV TrPost trV at HC
      simp only at s0 s1 s2 s3 HC HXB HXN
      go_wp2_with fail
      refine (HC.out _ HXB.out).mono ?_
      rintro e w1 ⟨b1, d1, rfl, ho1, hb1⟩
      have HN1 := Lib.hid (HXN.out.below hb1)
      have HB1 := Lib.hid (bth HXB.out hb1 (Nat.le_refl _))
      have hL := HXN.out.2.2.snoc hb1 ho1 (Nat.le_refl _) HXB.out.size
      obtain ⟨v2, w2, hrun, hN2, hg2, _⟩ := OwnT.push (t := (z1, zi, z2, z3)) HN1.out.1 HN1.out.2.1 hL hln HB1.out.size 36
      have HRUN := Lib.hid hrun
      have HN2 := Lib.hid hN2
      have HB2 := Lib.hid (HB1.out.trans (below_ownA HN1.out.2.1 hg2 HB1.out.size))
      clear hb1 ho1 hL hrun hN2 hg2 HC HXB HXN s0 s1 s2 s3
      go_wp2_with (at_builtin; refine wpList_runApp9 rfl _ _ rfl rfl rfl HRUN.out ?_)
      rw [HT.out] at HN2
      go_roundw
      case rel => exact ⟨k + 1, _, by omega, by go_num, HN2, HB2⟩
      case measure => simp [intOf]; omega
    · rw [List.take_of_length_le (by omega)] at HN
      clear HAT HSH
      go_wp2_with fail
      go_ret
      exact ⟨_, sl, rfl, HN.out, HB.out⟩

end Go.Proofs.YtgolhfmmlanmlaaGreatDoor

/- Walks: a trace that is noted in traces of the call's own, of the program. -/
namespace Go.Proofs.YtgolhfmmlanmlaaGreatDoor
open Go.RowKit Pth

theorem run_cutT (a : Option Addr) (n c k : Nat) (hk : k ≤ n) (_hc : n ≤ c) (W : World) :
    (Instr.slice 36 (.slice a n c) (some (.int .i64 (k : Int))) none none).run Tryz.prog W = .ok (.slice (if c = k then a else a.map (·.add (k * 4))) (n - k) (c - k)) W := by
  have h1 : (k : Int) ≤ n := by omega
  by_cases h : c = k
  · go_simp
  · go_simp
/-- Traces are handed back, in memory of the call's own or of the list that was given. -/
def NotedPost (B : Nat) (lv : Value) (T : List TrT) (w : World) (e : Ending) (w' : World) : Prop := ∃ v sl, e = .returned v ∧ OwnT B w' v sl T ∧ w.grownBy w' lv.ownBlock
theorem grown_below {w w1 w2 : World} {r : Option Nat} (h : Below w.heap.size w w1) (k : w1.grownBy w2 r) : w.grownBy w2 r := grown_trans (below_grown h) k

set_option maxRecDepth 20000 in
set_option maxHeartbeats 8000000 in
theorem withNoted_any (B : Nat) (T : List TrT) (sl : List Value) (t : TrT) (lv : Value) (a : Option Addr) (c : Nat) (w : World) (hs : sl.length = T.length) (hA : OwnA B 80 4 w lv T.length (TC sl T)) (hL : ListsS B w (sl.zip (T.map (·.2.1)) ++ [(.slice a t.2.1.length c, t.2.1)])) (h10 : t.2.1.length ≤ 10) (hsame : SameLen T t.1 t.2.1.length) (h40 : T.length ≤ 40) (hB : B ≤ w.heap.size) :
    Calls Tryz.prog 89 #[lv, trV (.slice a t.2.1.length c) t] w (NotedPost B lv (noteL T t) w) := by
  obtain ⟨t1, ins, x1, x2⟩ := t
  unfold trV
  simp only at hL h10 hsame ⊢
  have hview : RowT w lv T := OwnT.view ⟨hs, hA, hL.left⟩
  have hri : RowV w (.slice a ins.length c) (S ins) := RowV.of_own (hL.right.1 (.slice a ins.length c, ins) (by simp))
  obtain ⟨la, lc, rfl, hlc1, hlc2⟩ := hA.slice
  unfold maxLen at hlc2
  obtain ⟨wa, hwa⟩ : ∃ wa, wa = w.alloc (.cells #[.int .i64 t1, .slice a ins.length c, .string ⟨x1.toArray⟩, .int .i64 x2] 80) := ⟨_, rfl⟩
  have hsz : w.heap.size < wa.heap.size := by rw [hwa]; simp
  have P0 : Hid (Blk4 wa w.heap.size 80 (.int .i64 t1) (.slice a ins.length c) (.string ⟨x1.toArray⟩) (.int .i64 x2)) := by rw [hwa]; exact Blk4.new
  have hAw : Below w.heap.size w wa := by rw [hwa]; exact (Below.refl w.heap.size w).alloc (Nat.le_refl _) _
  have HA := Lib.hid hAw
  have HWA : Hid (w.alloc (.cells #[.int .i64 t1, .slice a ins.length c, .string ⟨x1.toArray⟩, .int .i64 x2] 80) = wa) := by rw [hwa]; rfl
  have HC := Lib.hid (placeOf_any T t1 ins _ _ wa (hview.below hAw) (hri.below hAw) h10 hsame)
  have HRA := Lib.hid (hA.below hAw)
  have HLA := Lib.hid (hL.below hAw)
  have HSL := Lib.hid hs
  obtain ⟨c0, c1, c2, c3⟩ := P0.out.cells
  obtain ⟨f, hf⟩ : ∃ f, findT T t1 ins = f := ⟨_, rfl⟩
  have hBa : B ≤ wa.heap.size := by omega
  clear hwa hview hri hA hL hs hsame
  rcases f with _ | k
  · have HK : Hid (findK T t1 ins = -1) := by show _ = _; unfold findK; rw [hf]
    have HN : Hid (noteL T (t1, ins, x1, x2) = (T ++ [(t1, ins, x1, x2)]).drop (T.length + 1 - 40)) := note_new hf
    rw [HK.out] at HC
    rw [HN.out]
    clear hf
    go_enter Tryz.func89, Tryz.ntmps89
    go_wp2_with fail
    rw [HWA.out]
    refine HC.out.mono ?_
    rintro e w1 ⟨rfl, hb1⟩
    have HB1 := Lib.hid (bth HA.out hb1 (Nat.le_refl _))
    have hB1 : B ≤ w1.heap.size := Nat.le_trans hBa hb1.size
    have HR1 := HRA.out.below hb1
    have HL1 := HLA.out.below hb1
    obtain ⟨v2, w2, hrun, hN2, hg2, _⟩ := OwnT.push (t := (t1, ins, x1, x2)) HSL.out HR1 HL1 (by omega) hB1 36
    have HRUN := Lib.hid hrun
    obtain ⟨va, vc, rfl, hvc1, hvc2⟩ := hN2.2.1.slice
    have hln : (T ++ [((t1, ins, x1, x2) : TrT)]).length = T.length + 1 := by simp
    rw [hln] at hN2 hvc1
    unfold maxLen at hvc2
    have HCUT := Lib.hid (fun k hk => hN2.cut hln.symm k hk)
    have HG2 := Lib.hid (grown_below HB1.out hg2)
    obtain ⟨c0, c1, c2, c3⟩ := (P0.out.below hb1 hsz).cells
    clear hb1 HR1 HL1 hrun hN2 hg2 HC hln
    go_wp2_with (at_builtin; refine wpList_runApp9 rfl _ _ rfl rfl rfl HRUN.out ?_)
    clear c0 c1 c2 c3 HRUN
    have hkk : (max (0 : Int) ((T.length : Int) + 1 - 40)).toNat = T.length + 1 - 40 := by omega
    have hfin := HCUT.out (T.length + 1 - 40) (by omega)
    rw [if_neg (by omega)] at hfin
    have HFIN := Lib.hid hfin
    have HKK := Lib.hid hkk
    clear hfin hkk HCUT
    go_wp2_with fail
    go_ret
    exact ⟨_, _, rfl, by rw [HKK.out]; exact HFIN.out, HG2.out⟩
  · have hk := findT_lt hf
    have HK : Hid (findK T t1 ins = (k : Int)) := by show _ = _; unfold findK; rw [hf]
    have HN : Hid (noteL T (t1, ins, x1, x2) = T.set k (t1, ins, x1, x2)) := note_put hf
    rw [HK.out] at HC
    rw [HN.out]
    obtain ⟨g, o, lc', hv, _, _, _, _⟩ := HRA.out.addr (by omega)
    injection hv with hv1 _ hv3
    subst hv1 hv3
    have hkz : (k : Int) < (T.length : Int) := by omega
    clear hf
    go_enter Tryz.func89, Tryz.ntmps89
    go_wp2_with fail
    rw [HWA.out]
    refine HC.out.mono ?_
    rintro e w1 ⟨rfl, hb1⟩
    have HB1 := Lib.hid (bth HA.out hb1 (Nat.le_refl _))
    have HR1 := HRA.out.below hb1
    have HL1 := HLA.out.below hb1
    have hput := OwnT.put (t := (t1, ins, x1, x2)) HSL.out rfl HR1 HL1 hk
    have HN2 := Lib.hid hput.1
    have HG2 := Lib.hid (grown_below HB1.out hput.2)
    obtain ⟨q0, q1, q2, q3⟩ := HR1.atT HSL.out hk
    have g0 := HR1.soft (o + k * 4)
    have g1 := HR1.soft (o + k * 4 + 1)
    have g2 := HR1.soft (o + k * 4 + 2)
    have g3 := HR1.soft (o + k * 4 + 3)
    obtain ⟨c0, c1, c2, c3⟩ := (P0.out.below hb1 hsz).cells
    simp only at HN2 HG2
    clear hb1 HR1 HL1 hput HC
    generalize T[k].1 = y0 at q0
    generalize sl[k]'(by have := HSL.out; omega) = y1 at q1
    generalize T[k].2.2.1 = y2 at q2
    generalize T[k].2.2.2 = y3 at q3
    go_wp2_with fail
    go_ret
    exact ⟨_, _, rfl, HN2.out, HG2.out⟩

end Go.Proofs.YtgolhfmmlanmlaaGreatDoor

/- What is put behind an empty literal: new memory, if it is something. -/
namespace Go.Proofs.YtgolhfmmlanmlaaGreatDoor
open Go.RowKit Pth

/-- What an append to the empty literal at block g leaves. -/
def LitTold (e size : Nat) (w : World) (g m : Nat) (ys : List Value) (v' : Value) (w' : World) : Prop :=
  (m = 0 ∧ v' = .slice (some ⟨g, 0, none⟩) 0 0 ∧ w' = w) ∨ (0 < m ∧ w'.ownsRow w.heap.size e size v' m ys)

theorem run_app_lit {t e : TypeId} {z : Value} {size bytes : Nat} (E : ElemG t e z size bytes) (w : World) (g : Nat) (ty : TypeId) (m : Nat) (ys : List Value) (A : Option Addr) (c : Nat) (hrow : RowG size w (.slice A m c) m ys) (hlen : m ≤ 1000000) :
    ∃ v' w', (Builtin.append_ #[t, t] ty #[.slice (some ⟨g, 0, none⟩) 0 0, .slice A m c]).run Tryz.prog w = .ok v' w' ∧ Below w.heap.size w w' ∧ LitTold e size w g m ys v' w' := by
  obtain ⟨i0, hi, hz0, hz1, hz2⟩ := info_parts E.info
  obtain ⟨A', c', hv, h0, h1, h2, hat⟩ := hrow
  injection hv with hA _ _
  subst hA
  rcases m with _ | m
  · refine ⟨_, w, ?_, Below.refl _ _, .inl ⟨rfl, rfl, rfl⟩⟩
    rcases A with _ | ad
    · simp [Builtin.append_, run_underlying E.under, sizeOf, typeInfo, hi, Builtin.lenOf, Builtin.firstCells, storeCells]
    · simp [Builtin.append_, run_underlying E.under, sizeOf, typeInfo, hi, Builtin.lenOf, Builtin.firstCells, storeCells, loadCells, loadCellsFrom]
  · have hpos : 0 < ys.length := by
      have := E.pos
      rw [h0, Nat.add_mul]
      omega
    obtain ⟨g2, o2, rfl, _, _⟩ := hat 0 hpos
    have hnews : ∀ j u, ys[j]? = some u → w.cell? ((⟨g2, o2, none⟩ : Addr).add j) = some u := by
      intro j u hu
      obtain ⟨hj, hu⟩ := List.getElem?_eq_some_iff.1 hu
      obtain ⟨g', o', he, _, hc⟩ := hat j hj
      obtain ⟨rfl, rfl⟩ := addr_inj he
      rw [add_addr, hc, hu]
    subst hz1
    subst hz2
    have hr := run_append_grow (P := Tryz.prog) w t ty e i0 z E.under hi hz0 ⟨g, 0, none⟩ 0 0 [] (by simp) (by simp) ⟨g2, o2, none⟩ (m + 1) c ys h0 hnews (by omega) (by omega) (growslice_fits (by omega) (by have := Nat.mul_le_mul hlen E.small; rw [Nat.zero_add]; omega))
    rw [Nat.zero_add] at hr
    have hge := grownCap_ge w (m + 1) 0 e
    refine ⟨_, _, hr, ?_, .inr ⟨by omega, ⟨h0, .inr ⟨w.heap.size, _, _, rfl, Nat.le_refl _, heap_alloc_new w.drew _, ?_, ?_, ?_, ?_⟩⟩⟩⟩
    · exact (Below.drew (Below.refl _ w)).alloc (by simp) _
    · exact hge
    · exact grownCap_le_maxLen w _ _ e (by unfold maxLen; omega)
    · rw [Array.size_append, Array.size_append, size_zeroCells, E.cells, List.size_toArray, List.size_toArray, h0, List.length_nil, Nat.zero_add, ← Nat.add_mul, Nat.add_sub_cancel' hge]
    · rw [← h0]
      simp

theorem step_lit {t e : TypeId} {z : Value} {size bytes : Nat} (E : ElemG t e z size bytes) {ops : Array Oper} {o : Oper} {a : Act} {K : Act → World → Prop} {Q : Exit → Act → World → Prop} {F : Prop} {w : World} (hgd : o.guard = none) (s x : Operand)
    (ho : o.op = .call { callee := .builtin .append, args := #[s, x], argTypes := #[t, t] }) (g m : Nat) (ys : List Value) (u : Value) (hs : a.eval s = .slice (some ⟨g, 0, none⟩) 0 0) (hx : a.eval x = u) (hrow : RowG size w u m ys) (hlen : m ≤ 1000000)
    (h : ∀ v' w', Below w.heap.size w w' → LitTold e size w g m ys v' w' → K (a.put o.dst v') w') :
    if Region.wanted o (yielded ops a.tmps) = true then Oper.wp Tryz.prog o a w K Q else F := by
  have hw : Region.wanted o (yielded ops a.tmps) = true := by simp [Region.wanted, hgd]
  rw [if_pos hw]
  obtain ⟨A, c, hu, _⟩ := id hrow
  subst hu
  obtain ⟨v', w', hrun, h2, h3⟩ := run_app_lit E w g o.type m ys A c hrow hlen
  unfold Oper.wp execOp
  simp only [ho, resolve, invoke, builtin, Sem.run_bind, Sem.run_pure, Result.andThen_ok, List.map_toArray, List.map_cons, List.map_nil, hs, hx, hrun]
  exact h v' w' h2 h3

end Go.Proofs.YtgolhfmmlanmlaaGreatDoor

/- Walks: copies of traces, of the reference. -/
namespace Go.Proofs.YtgolhfmmlanmlaaGreatDoor
open Go.RowKit Pth

theorem elemS9 : ElemG 31 9 (.string ByteArray.empty) 1 16 := ⟨Tryz.underlying31, by kernel_rfl, rfl, by decide, by decide⟩
theorem rowG_texts {w : World} {v : Value} {l : List (List UInt8)} (h : RowV w v (S l)) : RowG 1 w v l.length (S l) := by
  obtain ⟨a, c, hv, h1, h2, hat⟩ := h
  refine ⟨a, c, by rw [hv, S_len], by rw [S_len]; omega, by rw [S_len] at h1; exact h1, h2, hat⟩
/-- Texts put behind an empty literal: a row of the call's own. -/
theorem lit_rowS (l : List (List UInt8)) (a : Option Addr) (c : Nat) (w W : World) (hW : W = w.alloc (.cells #[] 9)) (hrow : RowV w (.slice a l.length c) (S l)) (hx : l.length ≤ 1000) (ty : TypeId) :
    ∃ v1 w1, (Builtin.append_ #[31, 31] ty #[.slice (some ⟨w.heap.size, 0, none⟩) 0 0, .slice a l.length c]).run Tryz.prog W = .ok v1 w1 ∧ w1.ownsRow w.heap.size 9 1 v1 l.length (S l) ∧ Below w.heap.size w w1 := by
  subst hW
  have hb : Below w.heap.size w (w.alloc (.cells #[] 9)) := (Below.refl _ w).alloc (Nat.le_refl _) _
  obtain ⟨v1, w1, r1, b1, hl⟩ := run_app_lit elemS9 (w.alloc (.cells #[] 9)) w.heap.size ty l.length (S l) a c (rowG_texts (hrow.below hb)) (by omega)
  rcases hl with ⟨h0, rfl, rfl⟩ | ⟨_, ho⟩
  · have hl0 : l = [] := List.eq_nil_of_length_eq_zero h0
    subst hl0
    exact ⟨_, _, r1, ⟨rfl, .inr ⟨_, 0, #[], rfl, Nat.le_refl _, heap_alloc_new w _, Nat.le_refl _, by unfold maxLen; omega, rfl, rfl⟩⟩, hb⟩
  · exact ⟨_, w1, r1, own_baseG ho (by simp), bth hb b1 (Nat.le_refl _)⟩

set_option maxRecDepth 20000 in
set_option maxHeartbeats 8000000 in
theorem l9Own_any (T : List TrT) (v : Value) (w : World) (hrow : RowT w v T) (hs : ShortT T) (hl : T.length ≤ 1000) :
    Calls Tryz.prog 39 #[v] w (TracesPost T w) := by
  obtain ⟨a, cap, rfl, hc1, hc2, hat⟩ := hrow.traces
  clear hrow
  unfold maxLen at hc2
  have HAT := Lib.hid hat
  have HSH := Lib.hid hs
  clear hat hs
  go_enter Tryz.func39, Tryz.ntmps39
  go_wp2_with fail
  go_loopw [8, 3] (fun i v wr => ∃ (k : Nat) (sl : List Value), k ≤ T.length ∧ i = .int .i64 k ∧ Hid (OwnT w.heap.size wr v sl (T.take k)) ∧ Hid (Below w.heap.size w wr)) (fun i _ _ => T.length - (intOf i).toNat)
  case atStart => exact ⟨0, [], Nat.zero_le _, rfl, OwnT.empty _ _, Below.refl _ _⟩
  case round =>
    obtain ⟨k, sl, hk, rfl, HN, HB⟩ := hrel
    by_cases hlt : k < T.length
    · obtain ⟨g, o, a2, c2, rfl, hg, ⟨k0, k1, k2, k3⟩, hrk⟩ := HAT.out k hlt
      have s0 := (HB.out.cell (p := ⟨g, o + k * 4, none⟩) hg).trans k0
      have s1 := (HB.out.cell (p := ⟨g, o + k * 4 + 1, none⟩) hg).trans k1
      have s2 := (HB.out.cell (p := ⟨g, o + k * 4 + 2, none⟩) hg).trans k2
      have s3 := (HB.out.cell (p := ⟨g, o + k * 4 + 3, none⟩) hg).trans k3
      have hltz : (k : Int) < (T.length : Int) := by omega
      obtain ⟨_, e2, _⟩ := HSH.out _ (List.getElem_mem hlt)
      have HT : Hid (T.take k ++ [T[k]] = T.take (k + 1)) := (List.take_succ_eq_append_getElem hlt).symm
      have hln : (T.take k).length ≤ 1000000 := by rw [List.length_take]; omega
      obtain ⟨wx, hwx⟩ : ∃ wx, wx = wr.alloc (.cells #[.int .i64 T[k].1, .slice a2 T[k].2.1.length c2, .string ⟨T[k].2.2.1.toArray⟩, .int .i64 T[k].2.2.2] 80) := ⟨_, rfl⟩
      have HWX : Hid (wr.alloc (.cells #[.int .i64 T[k].1, .slice a2 T[k].2.1.length c2, .string ⟨T[k].2.2.1.toArray⟩, .int .i64 T[k].2.2.2] 80) = wx) := by rw [hwx]; rfl
      have hxsz : wr.heap.size < wx.heap.size := by rw [hwx]; simp
      have hxb : Below wr.heap.size wr wx := by rw [hwx]; exact (Below.refl _ wr).alloc (Nat.le_refl _) _
      have P0 : Hid (Blk4 wx wr.heap.size 80 (.int .i64 T[k].1) (.slice a2 T[k].2.1.length c2) (.string ⟨T[k].2.2.1.toArray⟩) (.int .i64 T[k].2.2.2)) := by rw [hwx]; exact Blk4.new
      have HXB := Lib.hid (bth HB.out hxb (Nat.le_refl _))
      have HXN := Lib.hid (HN.out.below hxb)
      obtain ⟨v1, w1, run1, ho1, hb1⟩ := lit_rowS T[k].2.1 a2 c2 wx _ rfl (hrk.below HXB.out) (by omega) 31
      have HRUN1 := Lib.hid run1
      have HP1 := Lib.hid (P0.out.below hb1 hxsz)
      have hsz1 : wr.heap.size < w1.heap.size := Nat.lt_of_lt_of_le hxsz hb1.size
      obtain ⟨wz, hwz⟩ : ∃ wz, wz = w1.setCell ⟨wr.heap.size, 1, none⟩ v1 := ⟨_, rfl⟩
      have HWZ : Hid (w1.setCell ⟨wr.heap.size, 1, none⟩ v1 = wz) := by rw [hwz]; rfl
      have PZ : Hid (Blk4 wz wr.heap.size 80 (.int .i64 T[k].1) v1 (.string ⟨T[k].2.2.1.toArray⟩) (.int .i64 T[k].2.2.2)) := by rw [hwz]; exact HP1.out.set1 _
      have hzb : Below wr.heap.size wr wz := by rw [hwz]; exact (bth hxb hb1 (Nat.le_refl _)).setCell (p := ⟨wr.heap.size, 1, none⟩) (Nat.le_refl _) _
      have hzo : wz.ownsRow wx.heap.size 9 1 v1 T[k].2.1.length (S T[k].2.1) := by rw [hwz]; exact own_setI ho1 (p := ⟨wr.heap.size, 1, none⟩) hxsz _
      have HZB := Lib.hid (bth HB.out hzb (Nat.le_refl _))
      have HZN := Lib.hid (HN.out.below hzb)
      have hL := HN.out.2.2.snoc hzb hzo (Nat.le_of_lt hxsz) (Nat.le_trans HB.out.size (Nat.le_of_lt hxsz))
      obtain ⟨b1, d1, rfl⟩ := own_slice hzo
      obtain ⟨v2, w2, hrun, hN2, hg2, _⟩ := OwnT.push (t := T[k]) HZN.out.1 HZN.out.2.1 hL hln HZB.out.size 36
      have HRUN := Lib.hid hrun
      have HN2 := Lib.hid hN2
      have HB2 := Lib.hid (HZB.out.trans (below_ownA HZN.out.2.1 hg2 HZB.out.size))
      obtain ⟨p0, p1, p2, p3⟩ := HP1.out.cells
      have g1 := HP1.out.soft 1
      obtain ⟨z0, z1, z2, z3⟩ := PZ.out.cells
      clear hwx hxsz hxb run1 ho1 hb1 hwz hzb hzo hL hrun hN2 hg2 k0 k1 k2 k3 hrk HN HB
      generalize T.take k = acc at *
      generalize T[k] = z at *
      obtain ⟨x0, xi, x2, x3⟩ := z
      obtain ⟨c0, c1, c2', c3⟩ := P0.out.cells
      obtain ⟨_, y1, _, _⟩ := (P0.out.old (.cells #[] 9)).cells
      simp only at s0 s1 s2 s3 HWX HRUN1 HRUN HN2 p0 p1 p2 p3 z0 z1 z2 z3 c0 c1 c2' c3 y1
      go_upto_region 5 with fail
      rw [HWX.out]
      go_upto_region 6 with (at_builtin; refine wpList_runApp9 rfl _ _ rfl rfl rfl HRUN1.out ?_)
      rw [HWZ.out]
      go_wp2_with (at_builtin; refine wpList_runApp9 rfl _ _ rfl rfl rfl HRUN.out ?_)
      rw [HT.out] at HN2
      go_roundw
      case rel => exact ⟨k + 1, _, by omega, by go_num, HN2, HB2⟩
      case measure => simp [intOf]; omega
    · rw [List.take_of_length_le (by omega)] at HN
      clear HAT HSH
      go_wp2_with fail
      go_ret
      exact ⟨_, sl, rfl, HN.out, HB.out⟩

end Go.Proofs.YtgolhfmmlanmlaaGreatDoor

/- Walks: a trace that is noted in traces of the call's own, of the reference. -/
namespace Go.Proofs.YtgolhfmmlanmlaaGreatDoor
open Go.RowKit Pth

set_option maxRecDepth 20000 in
set_option maxHeartbeats 8000000 in
theorem l9Note_any (B : Nat) (T : List TrT) (sl : List Value) (t : TrT) (lv : Value) (a : Option Addr) (c : Nat) (w : World) (hs : sl.length = T.length) (hA : OwnA B 80 4 w lv T.length (TC sl T)) (hL : ListsS B w (sl.zip (T.map (·.2.1)) ++ [(.slice a t.2.1.length c, t.2.1)])) (h40 : T.length ≤ 40) (hB : B ≤ w.heap.size) :
    Calls Tryz.prog 43 #[lv, trV (.slice a t.2.1.length c) t] w (NotedPost B lv (noteL T t) w) := by
  obtain ⟨t1, ins, x1, x2⟩ := t
  unfold trV
  simp only at hL ⊢
  have hview : RowT w lv T := OwnT.view ⟨hs, hA, hL.left⟩
  have hri : RowV w (.slice a ins.length c) (S ins) := RowV.of_own (hL.right.1 (.slice a ins.length c, ins) (by simp))
  obtain ⟨la, lc, rfl, hlc1, hlc2⟩ := hA.slice
  unfold maxLen at hlc2
  obtain ⟨wa, hwa⟩ : ∃ wa, wa = w.alloc (.cells #[.int .i64 t1, .slice a ins.length c, .string ⟨x1.toArray⟩, .int .i64 x2] 80) := ⟨_, rfl⟩
  have hsz : w.heap.size < wa.heap.size := by rw [hwa]; simp
  have P0 : Hid (Blk4 wa w.heap.size 80 (.int .i64 t1) (.slice a ins.length c) (.string ⟨x1.toArray⟩) (.int .i64 x2)) := by rw [hwa]; exact Blk4.new
  have hAw : Below w.heap.size w wa := by rw [hwa]; exact (Below.refl w.heap.size w).alloc (Nat.le_refl _) _
  have HA := Lib.hid hAw
  have HWA : Hid (w.alloc (.cells #[.int .i64 t1, .slice a ins.length c, .string ⟨x1.toArray⟩, .int .i64 x2] 80) = wa) := by rw [hwa]; rfl
  have HC := Lib.hid (specFind_any T t1 ins _ _ wa (hview.below hAw) (hri.below hAw))
  have HRA := Lib.hid (hA.below hAw)
  have HLA := Lib.hid (hL.below hAw)
  have HSL := Lib.hid hs
  obtain ⟨c0, c1, c2, c3⟩ := P0.out.cells
  obtain ⟨f, hf⟩ : ∃ f, findT T t1 ins = f := ⟨_, rfl⟩
  have hBa : B ≤ wa.heap.size := by omega
  clear hwa hview hri hA hL hs
  rcases f with _ | k
  · have HK : Hid (findK T t1 ins = -1) := by show _ = _; unfold findK; rw [hf]
    have HN : Hid (noteL T (t1, ins, x1, x2) = (T ++ [(t1, ins, x1, x2)]).drop (T.length + 1 - 40)) := note_new hf
    rw [HK.out] at HC
    clear hf
    go_enter Tryz.func43, Tryz.ntmps43
    go_wp2_with fail
    rw [HWA.out]
    refine HC.out.mono ?_
    rintro e w1 ⟨rfl, hb1⟩
    have HB1 := Lib.hid (bth HA.out hb1 (Nat.le_refl _))
    have hB1 : B ≤ w1.heap.size := Nat.le_trans hBa hb1.size
    have HR1 := HRA.out.below hb1
    have HL1 := HLA.out.below hb1
    obtain ⟨v2, w2, hrun, hN2, hg2, _⟩ := OwnT.push (t := (t1, ins, x1, x2)) HSL.out HR1 HL1 (by omega) hB1 36
    have HRUN := Lib.hid hrun
    obtain ⟨vg, vo, vc, rfl, hvc1, hvc2, _⟩ := hN2.2.1.addr (by simp)
    have hln : (T ++ [((t1, ins, x1, x2) : TrT)]).length = T.length + 1 := by simp
    rw [hln] at hN2 hvc1
    unfold maxLen at hvc2
    have HCUT := Lib.hid (fun k hk => hN2.cut hln.symm k hk)
    have HN2 := Lib.hid hN2
    have HGS := Lib.hid hg2.size
    have hb1s : w1.heap.size ≤ w1.heap.size := Nat.le_refl _
    have HG2 := Lib.hid (grown_below HB1.out hg2)
    obtain ⟨c0, c1, c2, c3⟩ := (P0.out.below hb1 hsz).cells
    clear hb1 HR1 HL1 hrun hN2 hg2 HC hln
    go_upto_region 6 with (at_builtin; refine wpList_runApp9 rfl _ _ rfl rfl rfl HRUN.out ?_)
    clear c0 c1 c2 c3 HRUN
    by_cases hbig : 40 < T.length + 1
    · have hz : (40 : Int) < (T.length : Int) + 1 := by omega
      have hN := HCUT.out 1 (by omega)
      rw [if_neg (by omega)] at hN
      have h1 : T.length + 1 - 40 = 1 := by omega
      have hl1 : ((T ++ [((t1, ins, x1, x2) : TrT)]).drop 1).length = T.length := by simp
      have hr2 : RowG 4 w2 (.slice (some ⟨vg, vo + 4, none⟩) T.length (vc - 1)) T.length (TC ((sl ++ [Value.slice a ins.length c]).drop 1) ((T ++ [((t1, ins, x1, x2) : TrT)]).drop 1)) := by
        have := hN.2.1.row
        rw [hl1] at this
        exact this
      obtain ⟨v3, w3, run3, hb3, hlit⟩ := run_app_lit elemT (w2.alloc (.cells #[] 80)) w2.heap.size 36 T.length _ _ _ (hr2.below ((Below.refl _ w2).alloc (Nat.le_refl _) (.cells #[] 80))) (by omega)
      have HRUN3 := Lib.hid run3
      have hb2 : Below w2.heap.size w2 w3 := bth ((Below.refl _ w2).alloc (Nat.le_refl _) (.cells #[] 80)) hb3 (Nat.le_refl _)
      have hB2 : B ≤ w2.heap.size := Nat.le_trans hB1 (Nat.le_trans hb1s HGS.out)
      have HN3 : Hid (OwnT B w3 v3 ((sl ++ [Value.slice a ins.length c]).drop 1) ((T ++ [((t1, ins, x1, x2) : TrT)]).drop 1)) := by
        refine ⟨hN.1, ?_, hN.2.2.below hb2⟩
        rw [hl1]
        rcases hlit with ⟨h0, _⟩ | ⟨_, ho⟩
        · omega
        · exact (OwnA.of_own ho).base (by simp; omega)
      have HG3 := Lib.hid (grown_trans HG2.out (below_grown hb2))
      clear run3 hb3 hlit hb2 hB2 hN hr2
      go_wp2_with (at_builtin; refine wpList_runApp9 rfl _ _ rfl rfl rfl HRUN3.out ?_)
      go_ret
      exact ⟨_, _, rfl, by rw [HN.out, h1]; exact HN3.out, HG3.out⟩
    · have hz : ¬ (40 : Int) < (T.length : Int) + 1 := by omega
      have h0 : T.length + 1 - 40 = 0 := by omega
      go_wp2_with fail
      go_ret
      exact ⟨_, _, rfl, by rw [HN.out, h0, List.drop_zero]; exact HN2.out, HG2.out⟩
  · have hk := findT_lt hf
    have HK : Hid (findK T t1 ins = (k : Int)) := by show _ = _; unfold findK; rw [hf]
    have HN : Hid (noteL T (t1, ins, x1, x2) = T.set k (t1, ins, x1, x2)) := note_put hf
    rw [HK.out] at HC
    rw [HN.out]
    obtain ⟨g, o, lc', hv, _, _, _, _⟩ := HRA.out.addr (by omega)
    injection hv with hv1 _ hv3
    subst hv1 hv3
    have hkz : (k : Int) < (T.length : Int) := by omega
    clear hf
    go_enter Tryz.func43, Tryz.ntmps43
    go_wp2_with fail
    rw [HWA.out]
    refine HC.out.mono ?_
    rintro e w1 ⟨rfl, hb1⟩
    have HB1 := Lib.hid (bth HA.out hb1 (Nat.le_refl _))
    have HR1 := HRA.out.below hb1
    have HL1 := HLA.out.below hb1
    have hput := OwnT.put (t := (t1, ins, x1, x2)) HSL.out rfl HR1 HL1 hk
    have HN2 := Lib.hid hput.1
    have HG2 := Lib.hid (grown_below HB1.out hput.2)
    obtain ⟨q0, q1, q2, q3⟩ := HR1.atT HSL.out hk
    have g0 := HR1.soft (o + k * 4)
    have g1 := HR1.soft (o + k * 4 + 1)
    have g2 := HR1.soft (o + k * 4 + 2)
    have g3 := HR1.soft (o + k * 4 + 3)
    obtain ⟨c0, c1, c2, c3⟩ := (P0.out.below hb1 hsz).cells
    simp only at HN2 HG2
    clear hb1 HR1 HL1 hput HC
    generalize T[k].1 = y0 at q0
    generalize sl[k]'(by have := HSL.out; omega) = y1 at q1
    generalize T[k].2.2.1 = y2 at q2
    generalize T[k].2.2.2 = y3 at q3
    go_wp2_with fail
    go_ret
    exact ⟨_, _, rfl, HN2.out, HG2.out⟩

end Go.Proofs.YtgolhfmmlanmlaaGreatDoor

/- Walks: NoteTrace of both. -/
namespace Go.Proofs.YtgolhfmmlanmlaaGreatDoor
open Go.RowKit Pth

/-- A row that lay below, ahead of lists that are newer. -/
theorem ListsS.ahead {B : Nat} {w w' : World} {L : List (Value × List (List UInt8))} {v : Value} {l : List (List UInt8)} (hown : w.ownsRow B 9 1 v l.length (S l)) (hb : Below w.heap.size w w') (h : ListsS w.heap.size w' L) (hB : B ≤ w.heap.size) :
    ListsS B w' (L ++ [(v, l)]) := by
  refine ⟨fun p hp => ?_, ?_⟩
  · rw [List.mem_append, List.mem_singleton] at hp
    rcases hp with hp | rfl
    · exact own_base (h.1 p hp) hB
    · exact own_below hown hb
  · rw [List.pairwise_append]
    refine ⟨h.2, by simp, fun p hp q hq b hpb hqb => ?_⟩
    rw [List.mem_singleton] at hq
    subst hq
    have h1 := ((h.1 p hp).lt b hpb).1
    have h2' := (hown.lt b hqb).2
    omega
/-- Traces of the call's own, and a yes-or-no. -/
def NoteP (T : List TrT) (G : Bool) (w : World) (e : Ending) (w' : World) : Prop := ∃ v sl, e = .returned (.tuple #[v, .bool G]) ∧ OwnT w.heap.size w' v sl T ∧ Below w.heap.size w w'
theorem note_short {ls : List (List Int)} {bs : List Bool} {T : List TrT} {t : TrT} (h : ∀ x ∈ T, traceA ls bs x = true) (ht : traceA ls bs t = true) : ShortT (noteL T t) :=
  short_of fun x hx => by
    rcases note_mem hx with h1 | rfl
    · exact h x h1
    · exact ht

end Go.Proofs.YtgolhfmmlanmlaaGreatDoor

/- Walks: what goes into a task, of the reference and of the program. -/
namespace Go.Proofs.YtgolhfmmlanmlaaGreatDoor
open Go.RowKit Pth

set_option maxRecDepth 20000 in
set_option maxHeartbeats 8000000 in
theorem specIns_any (ls : List (List Int)) (l : List Int) (bs : List Bool) (rs : List (List OpT)) (m : List ResT) (t : Nat) (v u : Value) (w : World) (hp : PlanV w v ls l bs rs) (hr : RowR w u m) (hpl : planA ls l bs rs = true) (hmb : m.length = bs.length) (ht : t < ls.length) (hxm : ∀ f ∈ m, f.1.length ≤ 40) :
    Calls Tryz.prog 41 #[v, u, .int .i64 (t : Int)] w (TextsPost w.heap.size (bodiesL m ls[t]) w) := by
  have hbl := (plan_parts hpl).2.1
  have HV := Lib.hid hp
  have HR := Lib.hid hr
  obtain ⟨nv, ov, sv, rv, rfl, h1, h2, h3, h4⟩ := hp
  obtain ⟨as0, cs, rfl, hs1, hs2, _⟩ := h3.boolsW
  obtain ⟨an, cn, rfl, hn1, hn2, hatn⟩ := h1.lists
  obtain ⟨ao, co, rfl, ho1, ho2, _⟩ := h2.ints
  obtain ⟨ar, cr, rfl, hr1, hr2, _⟩ := h4.lists
  obtain ⟨am, cm, rfl, hm1, hm2, hatm⟩ := hr.res
  clear h1 h2 h3 h4 hr
  unfold maxLen at hs2 hn2 ho2 hr2 hm2
  obtain ⟨wa, hwa⟩ : ∃ wa, wa = w.alloc (.cells #[.slice an ls.length cn, .slice ao l.length co, .slice as0 bs.length cs, .slice ar rs.length cr] 42) := ⟨_, rfl⟩
  have hsz : w.heap.size < wa.heap.size := by rw [hwa]; simp
  have P0 : Hid (Blk4 wa w.heap.size 42 (.slice an ls.length cn) (.slice ao l.length co) (.slice as0 bs.length cs) (.slice ar rs.length cr)) := by rw [hwa]; exact Blk4.new
  have HA : Hid (Below w.heap.size w wa) := by rw [hwa]; exact (Below.refl w.heap.size w).alloc (Nat.le_refl _) _
  have HWA := Lib.hid hwa
  have hml : m.length = ls.length := by omega
  obtain ⟨gn, on, an2, cn2, rfl, hgn, hcn, hrn⟩ := hatn t ht
  obtain ⟨_, _, hev, hcl, hcm, hatk⟩ := hrn.ints
  injection hev with hea _ hec
  subst hea hec
  unfold maxLen at hcm
  have HATK := Lib.hid hatk
  have HATM := Lib.hid hatm
  obtain ⟨hl10, hin⟩ := plan_task hpl ht
  have HIN := Lib.hid hin
  have HML := Lib.hid hml
  have HXM := Lib.hid hxm
  have HNC : Hid (wa.cell? ⟨gn, on + t, none⟩ = some (.slice an2 ls[t].length cn2)) := (HA.out.cell (p := ⟨gn, on + t, none⟩) hgn).trans hcn
  have htz : (t : Int) < (ls.length : Int) := by omega
  obtain ⟨c0, c1, c2, c3⟩ := P0.out.cells
  clear hwa hatn hatm hatk hin hpl hrn hml hmb hbl hxm
  go_enter Tryz.func41, Tryz.ntmps41
  go_wp2_with fail
  rw [← HWA.out]
  clear c0 c1 c2 c3 hcn
  go_loopw [7, 17] (fun q i wr => ∃ k : Nat, k ≤ ls[t].length ∧ i = .int .i64 k ∧ Hid (Below wa.heap.size wa wr) ∧ Hid (wr.ownsRow wa.heap.size 9 1 q (bodiesL m (ls[t].take k)).length (S (bodiesL m (ls[t].take k))))) (fun _ i _ => ls[t].length - (intOf i).toNat)
  case atStart => exact ⟨0, Nat.zero_le _, rfl, Below.refl _ _, none_own _ _ _⟩
  case round =>
    obtain ⟨k, hk, rfl, HB, HN⟩ := hrel
    have HBW := Lib.hid (bth HA.out HB.out (Nat.le_refl _))
    by_cases hlt : k < ls[t].length
    · obtain ⟨g, o, rfl, hg, hcell0⟩ := HATK.out k hlt
      have hcell := (HBW.out.cell (p := ⟨g, o + k, none⟩) hg).trans hcell0
      obtain ⟨hx0, hx1⟩ := HIN.out _ (List.getElem_mem hlt)
      obtain ⟨y, hy⟩ : ∃ y : Nat, ls[t][k] = y := ⟨(ls[t][k]).toNat, by omega⟩
      have hym : y < m.length := by have := HML.out; omega
      obtain ⟨g2, o2, rfl, hg2, hm1', hm2'⟩ := HATM.out y hym
      have s1 := (HBW.out.cell (p := ⟨g2, o2 + y * 2, none⟩) hg2).trans hm1'
      have s2 := (HBW.out.cell (p := ⟨g2, o2 + y * 2 + 1, none⟩) hg2).trans hm2'
      have hra := resAt_nat hym
      have hyz : (y : Int) < (m.length : Int) := by omega
      have HE := Lib.hid (bodies_next (m := m) hlt)
      rw [hy, hra] at HE
      have hxl : m[y].1.length ≤ 40 := HXM.out _ (List.getElem_mem hym)
      rw [hy] at hcell
      have hbl' : (bodiesL m (ls[t].take k)).length ≤ 10 := by rw [bodies_len, List.length_take]; omega
      clear hcell0 hx0 hx1 hy hm1' hm2' hra HATK HATM HIN HXM
      generalize m[y] = q at *
      generalize bodiesL m (ls[t].take k) = acc at *
      obtain ⟨q1, q2⟩ := q
      simp only at s1 s2 HE hxl
      have hIl : (S acc).length ≤ 1000000 := by rw [S_len]; omega
      obtain ⟨c0, c1, c2, c3⟩ := (P0.out.below HB.out hsz).cells
      have HN0 := HN
      have HBC := HB
      go_wp2_with (at_builtin; refine wpAppOne elemS rfl _ _ rfl wa.heap.size _ (S acc) rfl (by rw [S_len]; exact HN0.out) _ rfl (by simp) rfl hIl HBC.out.size ?_; intro v7 w7 hown7 hg7; have HN7 := Lib.hid (own_S2 hown7); have HB7 := Lib.hid (HBC.out.trans (below_own HN0.out hg7 HBC.out.size)); clear hown7 hg7)
      go_roundw
      case rel => exact ⟨k + 1, by omega, by go_num, HB7, by rw [HE.out]; exact HN7.out⟩
      case measure => simp [intOf]; omega
    · rw [List.take_of_length_le (by omega)] at HN
      clear HATK HATM HIN
      go_wp2_with fail
      go_ret
      exact ⟨_, rfl, own_base HN.out HA.out.size, HBW.out⟩

set_option maxRecDepth 20000 in
set_option maxHeartbeats 8000000 in
theorem implIns_any (ls : List (List Int)) (l : List Int) (bs : List Bool) (rs : List (List OpT)) (m : List ResT) (t : Nat) (v u : Value) (w : World) (hp : PlanV w v ls l bs rs) (hr : RowR w u m) (hpl : planA ls l bs rs = true) (hmb : m.length = bs.length) (ht : t < ls.length) (hxm : ∀ f ∈ m, f.1.length ≤ 40) :
    Calls Tryz.prog 86 #[v, u, .int .i64 (t : Int)] w (TextsPost w.heap.size (bodiesL m ls[t]) w) := by
  have hbl := (plan_parts hpl).2.1
  have HV := Lib.hid hp
  have HR := Lib.hid hr
  obtain ⟨nv, ov, sv, rv, rfl, h1, h2, h3, h4⟩ := hp
  obtain ⟨as0, cs, rfl, hs1, hs2, _⟩ := h3.boolsW
  obtain ⟨an, cn, rfl, hn1, hn2, hatn⟩ := h1.lists
  obtain ⟨ao, co, rfl, ho1, ho2, _⟩ := h2.ints
  obtain ⟨ar, cr, rfl, hr1, hr2, _⟩ := h4.lists
  obtain ⟨am, cm, rfl, hm1, hm2, hatm⟩ := hr.res
  clear h1 h2 h3 h4 hr
  unfold maxLen at hs2 hn2 ho2 hr2 hm2
  obtain ⟨wa, hwa⟩ : ∃ wa, wa = w.alloc (.cells #[.slice an ls.length cn, .slice ao l.length co, .slice as0 bs.length cs, .slice ar rs.length cr] 42) := ⟨_, rfl⟩
  have hsz : w.heap.size < wa.heap.size := by rw [hwa]; simp
  have P0 : Hid (Blk4 wa w.heap.size 42 (.slice an ls.length cn) (.slice ao l.length co) (.slice as0 bs.length cs) (.slice ar rs.length cr)) := by rw [hwa]; exact Blk4.new
  have HA : Hid (Below w.heap.size w wa) := by rw [hwa]; exact (Below.refl w.heap.size w).alloc (Nat.le_refl _) _
  have HWA := Lib.hid hwa
  have hml : m.length = ls.length := by omega
  obtain ⟨gn, on, an2, cn2, rfl, hgn, hcn, hrn⟩ := hatn t ht
  obtain ⟨_, _, hev, hcl, hcm, hatk⟩ := hrn.ints
  injection hev with hea _ hec
  subst hea hec
  unfold maxLen at hcm
  have HATK := Lib.hid hatk
  have HATM := Lib.hid hatm
  obtain ⟨hl10, hin⟩ := plan_task hpl ht
  have HIN := Lib.hid hin
  have HML := Lib.hid hml
  have HXM := Lib.hid hxm
  have HNC : Hid (wa.cell? ⟨gn, on + t, none⟩ = some (.slice an2 ls[t].length cn2)) := (HA.out.cell (p := ⟨gn, on + t, none⟩) hgn).trans hcn
  have htz : (t : Int) < (ls.length : Int) := by omega
  obtain ⟨c0, c1, c2, c3⟩ := P0.out.cells
  clear hwa hatn hatm hatk hin hpl hrn hml hmb hbl hxm
  go_enter Tryz.func86, Tryz.ntmps86
  go_wp2_with fail
  rw [← HWA.out]
  clear c0 c1 c2 c3 hcn
  go_loopw [7, 17] (fun q i wr => ∃ k : Nat, k ≤ ls[t].length ∧ i = .int .i64 k ∧ Hid (Below wa.heap.size wa wr) ∧ Hid (wr.ownsRow wa.heap.size 9 1 q (bodiesL m (ls[t].take k)).length (S (bodiesL m (ls[t].take k))))) (fun _ i _ => ls[t].length - (intOf i).toNat)
  case atStart => exact ⟨0, Nat.zero_le _, rfl, Below.refl _ _, none_own _ _ _⟩
  case round =>
    obtain ⟨k, hk, rfl, HB, HN⟩ := hrel
    have HBW := Lib.hid (bth HA.out HB.out (Nat.le_refl _))
    by_cases hlt : k < ls[t].length
    · obtain ⟨g, o, rfl, hg, hcell0⟩ := HATK.out k hlt
      have hcell := (HBW.out.cell (p := ⟨g, o + k, none⟩) hg).trans hcell0
      obtain ⟨hx0, hx1⟩ := HIN.out _ (List.getElem_mem hlt)
      obtain ⟨y, hy⟩ : ∃ y : Nat, ls[t][k] = y := ⟨(ls[t][k]).toNat, by omega⟩
      have hym : y < m.length := by have := HML.out; omega
      obtain ⟨g2, o2, rfl, hg2, hm1', hm2'⟩ := HATM.out y hym
      have s1 := (HBW.out.cell (p := ⟨g2, o2 + y * 2, none⟩) hg2).trans hm1'
      have s2 := (HBW.out.cell (p := ⟨g2, o2 + y * 2 + 1, none⟩) hg2).trans hm2'
      have hra := resAt_nat hym
      have hyz : (y : Int) < (m.length : Int) := by omega
      have HE := Lib.hid (bodies_next (m := m) hlt)
      rw [hy, hra] at HE
      have hxl : m[y].1.length ≤ 40 := HXM.out _ (List.getElem_mem hym)
      rw [hy] at hcell
      have hbl' : (bodiesL m (ls[t].take k)).length ≤ 10 := by rw [bodies_len, List.length_take]; omega
      clear hcell0 hx0 hx1 hy hm1' hm2' hra HATK HATM HIN HXM
      generalize m[y] = q at *
      generalize bodiesL m (ls[t].take k) = acc at *
      obtain ⟨q1, q2⟩ := q
      simp only at s1 s2 HE hxl
      have hIl : (S acc).length ≤ 1000000 := by rw [S_len]; omega
      obtain ⟨c0, c1, c2, c3⟩ := (P0.out.below HB.out hsz).cells
      go_wp2_with fail
      refine (clone_any q1 _ (by omega)).mono ?_
      rintro e wc ⟨rfl, hbc⟩
      have HN0 := Lib.hid (own_below HN.out hbc)
      have HBC := Lib.hid (bth HB.out hbc (Nat.le_refl _))
      clear hbc c0 c1 c2 c3
      go_wp2_with (at_builtin; refine wpAppOne elemS rfl _ _ rfl wa.heap.size _ (S acc) rfl (by rw [S_len]; exact HN0.out) _ rfl (by simp) rfl hIl HBC.out.size ?_; intro v7 w7 hown7 hg7; have HN7 := Lib.hid (own_S2 hown7); have HB7 := Lib.hid (HBC.out.trans (below_own HN0.out hg7 HBC.out.size)); clear hown7 hg7)
      go_roundw
      case rel => exact ⟨k + 1, by omega, by go_num, HB7, by rw [HE.out]; exact HN7.out⟩
      case measure => simp [intOf]; omega
    · rw [List.take_of_length_le (by omega)] at HN
      clear HATK HATM HIN
      go_wp2_with fail
      go_ret
      exact ⟨_, rfl, own_base HN.out HA.out.size, HBW.out⟩

end Go.Proofs.YtgolhfmmlanmlaaGreatDoor

/- Bytes in a block of the call's own: read, written, changed about. -/
namespace Go.Proofs.YtgolhfmmlanmlaaGreatDoor
open Go.RowKit Pth

def enc8 (x : UInt8) : Value := .int .u8 (x.toNat : Int)
def ltB (x y : UInt8) : Bool := decide (x.toNat < y.toNat)
/-- The block g holds these bytes, and tl behind them. -/
def SB (g : Nat) (tl : List Value) (d : Array UInt8) (w : World) : Prop := w.heap[g]? = some (.cells (d.toList.map enc8 ++ tl).toArray 5 (d.size + tl.length, d.size + tl.length + 1))
theorem SB.cell {g : Nat} {tl : List Value} {d : Array UInt8} {w : World} (h : SB g tl d w) {i : Nat} (hi : i < d.size) : w.cell? ⟨g, i, none⟩ = some (.int .u8 (d[i]!.toNat : Int)) := by
  unfold SB at h
  rw [Lib.cell_of_heap h, List.getElem?_toArray, List.getElem?_append_left (by simpa using hi)]
  simp [hi, enc8]
theorem SB.frozen {g : Nat} {tl : List Value} {d : Array UInt8} {w : World} (h : SB g tl d w) (i : Nat) (hi : i < d.size) : w.frozen? ⟨g, i, none⟩ = false := by
  unfold SB at h
  simp only [World.frozen?, h, Bool.and_eq_false_iff, decide_eq_false_iff_not]
  left
  omega
theorem block_set8 {w : World} {b o : Nat} {u : Value} {cs : Array Value} {T : TypeId} {fr : Nat × Nat} (hb : w.heap[b]? = some (.cells cs T fr)) : (w.setCell ⟨b, o, none⟩ u).heap[b]? = some (.cells (cs.setIfInBounds o u) T fr) := by
  simp [World.setCell, Array.getElem?_modify, hb]
theorem SB.set {g : Nat} {tl : List Value} {d : Array UInt8} {w : World} (h : SB g tl d w) {i : Nat} (hi : i < d.size) (x : UInt8) : SB g tl (d.setIfInBounds i x) (w.setCell ⟨g, i, none⟩ (.int .u8 (x.toNat : Int))) := by
  unfold SB at h ⊢
  rw [block_set8 h, Array.size_setIfInBounds]
  congr 2
  apply Array.ext'
  simp only [Array.toList_setIfInBounds, List.map_set]
  rw [List.set_append_left _ _ (by simpa using hi)]
  rfl
theorem SB.drewN {g : Nat} {tl : List Value} {d : Array UInt8} {w : World} (h : SB g tl d w) (n : Nat) : SB g tl d (w.drewN n) := h
theorem SB.grown {g : Nat} {tl : List Value} {d : Array UInt8} {w w' : World} (h : SB g tl d w) (hb : Below w.heap.size w w') : SB g tl d w' := (hb.block g (lt_of_block h)).trans h
theorem SB.alloc {g : Nat} {tl : List Value} {d : Array UInt8} {w : World} (h : SB g tl d w) (o : Obj) : SB g tl d (w.alloc o) := (Below.heap_alloc w o g (lt_of_block h)).trans h
/-- Only the block g has turned. -/
def On (g : Nat) (w w' : World) : Prop := w.grownBy w' (some g)
theorem On.refl (g : Nat) (w : World) : On g w w := ⟨rfl, rfl, rfl, Nat.le_refl _, fun _ _ _ => rfl⟩
theorem On.drewN {g : Nat} {w w' : World} (h : On g w w') (n : Nat) : On g w (w'.drewN n) := ⟨h.os, h.tape, h.output, h.size, h.block⟩
theorem On.set {g : Nat} {w w' : World} (h : On g w w') (i : Nat) (u : Value) : On g w (w'.setCell ⟨g, i, none⟩ u) :=
  ⟨h.os, h.tape, h.output, by simpa [World.setCell] using h.size, fun i hi hne => (Below.heap_setCell w' ⟨g, _, none⟩ u i (fun e => hne (by rw [e]))).trans (h.block i hi hne)⟩
theorem On.alloc {g : Nat} {w w' : World} (h : On g w w') (o : Obj) : On g w (w'.alloc o) :=
  ⟨h.os, h.tape, h.output, Nat.le_trans h.size (by simp), fun i hi hne => (Below.heap_alloc w' o i (Nat.lt_of_lt_of_le hi h.size)).trans (h.block i hi hne)⟩
theorem On.trans {g : Nat} {a b c : World} (h : On g a b) (k : On g b c) : On g a c :=
  ⟨k.os.trans h.os, k.tape.trans h.tape, k.output.trans h.output, Nat.le_trans h.size k.size, fun i hi hn => (k.block i (Nat.lt_of_lt_of_le hi h.size) hn).trans (h.block i hi hn)⟩
/-- Nothing is handed back; the block holds d'. -/
def SPost (g : Nat) (tl : List Value) (d' : Array UInt8) (w : World) (e : Ending) (w' : World) : Prop := e = .returned (.tuple #[]) ∧ SB g tl d' w' ∧ On g w w'
theorem swp_set (d : Array UInt8) (i j : Nat) : Sort.swp d i j = (d.setIfInBounds i d[j]!).setIfInBounds j d[i]! := rfl
theorem SB.swap {g : Nat} {tl : List Value} {d : Array UInt8} {w : World} (h : SB g tl d w) {i j : Nat} (hi : i < d.size) (hj : j < d.size) : SB g tl (Sort.swp d i j) ((w.setCell ⟨g, i, none⟩ (.int .u8 (d[j]!.toNat : Int))).setCell ⟨g, j, none⟩ (.int .u8 (d[i]!.toNat : Int))) :=
  (h.set hi d[j]!).set (by simpa using hj) d[i]!
theorem On.swap {g : Nat} {w w' : World} (h : On g w w') (i j : Nat) (u v : Value) : On g w ((w'.setCell ⟨g, i, none⟩ u).setCell ⟨g, j, none⟩ v) := (h.set i u).set j v

set_option maxHeartbeats 400000 in
theorem nan8 (x : UInt8) (w : World) : Calls Tryz.prog 190 #[.int .u8 (x.toNat : Int)] w fun e w' => e = .returned (.bool false) ∧ w = w' := by
  go_enter Tryz.func190, Tryz.ntmps190
  go_wp2
  go_ret
  exact ⟨by simp, rfl⟩
set_option maxHeartbeats 400000 in
theorem less8 (x y : UInt8) (w : World) : Calls Tryz.prog 180 #[.int .u8 (x.toNat : Int), .int .u8 (y.toNat : Int)] w fun e w' => e = .returned (.bool (ltB x y)) ∧ w = w' := by
  go_enter Tryz.func180, Tryz.ntmps180
  go_wp2_with (go_at_call 190; refine (nan8 _ _).mono ?_; rintro e w' ⟨rfl, rfl⟩)
  go_ret
  exact ⟨by unfold ltB; congr 2, rfl⟩
theorem less_b {x y : UInt8} {b : Bool} (h : ltB x y = b) (w : World) : Calls Tryz.prog 180 #[.int .u8 (x.toNat : Int), .int .u8 (y.toNat : Int)] w fun e w' => e = .returned (.bool b) ∧ w = w' := by
  have := less8 x y w; rwa [h] at this

theorem less_q {x y : UInt8} {b : Bool} (h : ltB x y = b) (w : World) : Calls Tryz.prog 180 #[.int .u8 (x.toNat : Int), .int .u8 (y.toNat : Int)] w fun e w' => e = .returned (.bool b) ∧ w' = w :=
  (less_b h w).mono fun _ _ ⟨h1, h2⟩ => ⟨h1, h2.symm⟩

theorem swo8 : Sort.SWO ltB where
  irrefl := fun x => by simp [ltB]
  trans := fun x y z h1 h2 => by simp only [ltB, decide_eq_true_eq] at *; omega
  ntrans := fun x y z h1 h2 => by simp only [ltB, decide_eq_false_iff_not] at *; omega

end Go.Proofs.YtgolhfmmlanmlaaGreatDoor

/- Walks: the library's insertion sort at bytes. -/
namespace Go.Proofs.YtgolhfmmlanmlaaGreatDoor
open Go.RowKit Pth

theorem insInner_go {a j : Nat} {d : Array UInt8} (h : j + 1 > a) (hl : ltB d[j + 1]! d[j]! = true) : Sort.insInner ltB a (j + 1) d = Sort.insInner ltB a j (Sort.swp d (j + 1) j) := by
  rw [Sort.insInner, hl, decide_eq_true h]; rfl
theorem insInner_stop {a j : Nat} {d : Array UInt8} (h : ltB d[j + 1]! d[j]! = false) : Sort.insInner ltB a (j + 1) d = d := by
  rw [Sort.insInner, h]; simp
theorem insInner_low {a j : Nat} {d : Array UInt8} (h : j ≤ a) : Sort.insInner ltB a j d = d := by
  cases j with
  | zero => rfl
  | succ j => rw [Sort.insInner, decide_eq_false (by omega : ¬ j + 1 > a)]; simp
theorem insOuter_go {a b i : Nat} {d : Array UInt8} (h : i < b) : Sort.insOuter ltB a b i d = Sort.insOuter ltB a b (i + 1) (Sort.insInner ltB a i d) := by
  rw [Sort.insOuter, if_pos h]
theorem insOuter_stop {a b i : Nat} {d : Array UInt8} (h : ¬ i < b) : Sort.insOuter ltB a b i d = d := by
  rw [Sort.insOuter, if_neg h]
theorem swp_sz (d : Array UInt8) (i j : Nat) : (Sort.swp d i j).size = d.size := by simp [Sort.swp]
theorem insInner_size (a j : Nat) (d : Array UInt8) : (Sort.insInner ltB a j d).size = d.size := by
  induction j generalizing d with
  | zero => rfl
  | succ j ih =>
    rw [Sort.insInner]
    split
    · rw [ih, swp_sz]
    · rfl

set_option maxRecDepth 20000 in
set_option maxHeartbeats 4000000 in
theorem insertion8 (g : Nat) (tl : List Value) (d0 : Array UInt8) (n cap a b : Nat) (w : World) (h : SB g tl d0 w) (hn : d0.size = n) (_hc : n ≤ cap) (hb : b ≤ n) (hN : n ≤ 1000) (hab : a ≤ 1000) :
    Calls Tryz.prog 174 #[.slice (some ⟨g, 0, none⟩) n cap, .int .i64 a, .int .i64 b] w (SPost g tl (Sort.insertionSort ltB d0 a b) w) := by
  have HT : Hid (Sort.insertionSort ltB d0 a b = Sort.insOuter ltB a b (a + 1) d0) := rfl
  have HS := Lib.hid h
  have HZ := Lib.hid hn
  clear h hn
  go_enter Tryz.func174, Tryz.ntmps174
  go_wp2_with fail
  go_loopw [6] (fun q wr => ∃ (i : Nat) (d : Array UInt8), a + 1 ≤ i ∧ i ≤ 1001 ∧ q = .int .i64 i ∧ Hid (SB g tl d wr) ∧ Hid (On g w wr) ∧ Hid (d.size = n) ∧ Hid (Sort.insOuter ltB a b (a + 1) d0 = Sort.insOuter ltB a b i d)) (fun q _ => 1001 - (intOf q).toNat)
  case atStart => exact ⟨a + 1, d0, Nat.le_refl _, by omega, by go_num, HS, On.refl _ _, HZ, rfl⟩
  case round =>
    clear HS HZ
    obtain ⟨i, d, hi0, hi1, rfl, HS, HO, HZ, HE⟩ := hrel
    by_cases hlt : i < b
    · have HE1 := Lib.hid (HE.out.trans (insOuter_go hlt))
      clear HE
      go_wp2_with fail
      go_loopw [7] (fun q wq => ∃ (j : Nat) (c : Array UInt8), j ≤ i ∧ q = .int .i64 j ∧ Hid (SB g tl c wq) ∧ Hid (On g w wq) ∧ Hid (c.size = n) ∧ Hid (Sort.insInner ltB a i d = Sort.insInner ltB a j c)) (fun q _ => (intOf q).toNat)
      case atStart => exact ⟨i, d, Nat.le_refl _, rfl, HS, HO, HZ, rfl⟩
      case round =>
        clear HS HO HZ
        obtain ⟨j, c, hj, rfl, HS, HO, HZ, HF⟩ := hrel
        by_cases hja : a < j
        · obtain ⟨m, rfl⟩ : ∃ m, j = m + 1 := ⟨j - 1, by omega⟩
          have hg1 : decide ((a : Int) < (m : Int) + 1) = true := decide_eq_true (by omega)
          have c1 := HS.out.cell (i := m + 1) (by rw [HZ.out]; omega)
          have c0 := HS.out.cell (i := m) (by rw [HZ.out]; omega)
          obtain ⟨lb, hlb⟩ : ∃ lb, ltB c[m + 1]! c[m]! = lb := ⟨_, rfl⟩
          have HL := Lib.hid (fun W => less_q hlb W)
          have hx1 : (m : Int) + 1 < (n : Int) := by omega
          have hx0 : (m : Int) < (n : Int) := by omega
          have hx2 : (0 : Int) ≤ (m : Int) + 1 := by omega
          have hn1 : ((m : Int) + 1).toNat = m + 1 := by omega
          have hw1 : IntKind.i64.wrap (m : Int) = (m : Int) := IntWalk.i64_in _ (by omega)
          rcases lb with _ | _
          · have HF1 := Lib.hid (HF.out.trans (insInner_stop hlb))
            clear HF hlb
            generalize c[m + 1]! = x at c1 HL
            generalize c[m]! = y at c0 HL
            go_wp2_with fail
            go_quiet ((go_at_call 180; exact Calls.quiet_of_same (HL.out _)))
            go_wp2_with fail
            go_roundw
            case rel => exact ⟨i + 1, c, by omega, by omega, by go_num, HS.out.drewN _, HO.out.drewN _, HZ, by rw [HE1.out, HF1.out]; rfl⟩
            case measure => simp [intOf]; omega
          · have HF1 := Lib.hid (HF.out.trans (insInner_go hja hlb))
            have HS1 := Lib.hid (HS.out.swap (i := m + 1) (j := m) (by rw [HZ.out]; omega) (by rw [HZ.out]; omega))
            have HZ1 : Hid ((Sort.swp c (m + 1) m).size = n) := (swp_sz _ _ _).trans HZ.out
            have f1 := HS.out.frozen (m + 1) (by rw [HZ.out]; omega)
            have f0 := HS.out.frozen m (by rw [HZ.out]; omega)
            generalize Sort.swp c (m + 1) m = c' at HS1 HF1 HZ1
            clear HF hlb
            generalize c[m + 1]! = x at c1 HL HS1
            generalize c[m]! = y at c0 HL HS1
            go_wp2_with fail
            go_quiet ((go_at_call 180; exact Calls.quiet_of_same (HL.out _)))
            go_wp2_with fail
            go_region
            go_wp2_with fail
            go_roundw
            case rel => exact ⟨m, c', by omega, by go_num, HS1.out, (HO.out.drewN _).swap _ _ _ _, HZ1, HF1⟩
            case measure => simp [intOf]
        · have hg1 : decide ((a : Int) < (j : Int)) = false := decide_eq_false (by omega)
          have HF1 := Lib.hid (HF.out.trans (insInner_low (by omega)))
          clear HF
          go_wp2_with fail
          go_quiet (fail)
          go_wp2_with fail
          go_roundw
          case rel => exact ⟨i + 1, c, by omega, by omega, by go_num, HS.out.drewN _, HO.out.drewN _, HZ, by rw [HE1.out, HF1.out]; rfl⟩
          case measure => simp [intOf]; omega
    · have HE1 := Lib.hid (HE.out.trans (insOuter_stop hlt))
      clear HE
      go_wp2_with fail
      go_end0
      exact ⟨rfl, by rw [HT.out, HE1.out]; exact HS.out, HO.out⟩

end Go.Proofs.YtgolhfmmlanmlaaGreatDoor
