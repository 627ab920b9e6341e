/- Walks: a file put to its place, files without a name, names put and dropped (the reference). -/
import Derived.Test.YtoahfhidekmodaaDoorGb
namespace Go.Proofs.YtoahfhidekmodaaDoor
open Go.RowKit Pth

theorem elemF : ElemG 25 45 (.agg #[.string ByteArray.empty, .string ByteArray.empty]) 2 32 := ⟨Tryd.underlying25, by kernel_rfl, rfl, by decide, by decide⟩

/-- Files are handed back, in memory of the call's own. -/
def FilesPost (l : List FileT) (w : World) (e : Ending) (w' : World) : Prop :=
  ∃ v, e = .returned v ∧ w'.ownsRow w.heap.size 45 2 v l.length (FC l) ∧ Below w.heap.size w w'

theorem RowF.of_own {w : World} {B : Nat} {v : Value} {l : List FileT} (h : w.ownsRow B 45 2 v l.length (FC l)) : RowF w v l := RowG.of_own h
theorem RowF.below {w w' : World} {v : Value} {l : List FileT} (h : RowF w v l) (hb : Below w.heap.size w w') : RowF w' v l := RowG.below h hb
theorem RowF.alloc {w : World} {v : Value} {l : List FileT} (h : RowF w v l) (o : Obj) : RowF (w.alloc o) v l := RowG.alloc h o

/-- A slice of files cut from k on. -/
theorem run_cutF (a : Option Addr) (n c k : Nat) (hk : k ≤ n) (_hc : n ≤ c) (W : World) :
    (Instr.slice 25 (.slice a n c) (some (.int .i64 (k : Int))) none none).run Tryd.prog W = .ok (.slice (if c = k then a else a.map (·.add (k * 2))) (n - k) (c - k)) W := by
  have h1 : (k : Int) ≤ n := by omega
  by_cases h : c = k
  · go_simp
  · go_simp
theorem backF {w : World} {a : Option Addr} {l : List FileT} {cap k : Nat} (h : RowF w (.slice a l.length cap) l) (hk : k ≤ l.length) (hc : l.length ≤ cap) :
    ∃ A1, (∀ W, (Instr.slice 25 (.slice a l.length cap) (some (.int .i64 (k : Int))) none none).run Tryd.prog W = .ok (.slice A1 (l.length - k) (cap - k)) W) ∧ RowG 2 w (.slice A1 (l.length - k) (cap - k)) (l.length - k) (FC (l.drop k)) := by
  have hD := RowG.back h k hk (by decide)
  rw [FC_drop] at hD
  exact ⟨_, run_cutF a l.length cap k hk hc, hD⟩
theorem frontF {w : World} {a : Option Addr} {l : List FileT} {cap k : Nat} (h : RowF w (.slice a l.length cap) l) (hk : k ≤ l.length) : RowG 2 w (.slice a k cap) k (FC (l.take k)) := by
  have hF := RowG.front h k hk
  rw [FC_take] at hF
  exact hF

theorem lit_nil (w : World) : (w.alloc (.cells #[] 45)).ownsRow w.heap.size 45 2 (.slice (some ⟨w.heap.size, 0, none⟩) 0 0) 0 [] := World.ownsRow_lit w #[] 0 (Nat.le_refl _) (by unfold maxLen; omega) rfl

theorem own_drewN {w : World} {B e n z : Nat} {v : Value} {xs : List Value} (h : w.ownsRow B e z v n xs) (m : Nat) : (w.drewN m).ownsRow B e z v n xs := h
theorem own_eq {w : World} {B e n m z : Nat} {v : Value} {xs ys : List Value} (h : w.ownsRow B e z v n xs) (hn : n = m) (hx : xs = ys) : w.ownsRow B e z v m ys := by subst hn hx; exact h

theorem put_cells {l : List FileT} {x y : List UInt8} {k j : Nat} (h : putF l (x, y) = (l.take k ++ [(x, y)]) ++ l.drop j) : [] ++ FC (l.take k) ++ [.string ⟨x.toArray⟩, .string ⟨y.toArray⟩] ++ FC (l.drop j) = FC (putF l (x, y)) := by
  rw [h, FC_append, FC_append]; rfl
theorem put_count {l : List FileT} {x y : List UInt8} {k j : Nat} (h : putF l (x, y) = (l.take k ++ [(x, y)]) ++ l.drop j) (hk : k ≤ l.length) : 0 + k + 1 + (l.length - j) = (putF l (x, y)).length := by
  rw [h]; simp only [List.length_append, List.length_take, List.length_drop, List.length_singleton]; omega

set_option maxRecDepth 20000 in
set_option maxHeartbeats 4000000 in
theorem l3Put_any (l : List FileT) (x y : List UInt8) (v : Value) (w : World) (hrow : RowF w v l) (hl : l.length ≤ 1000) :
    Calls Tryd.prog 39 #[v, .agg #[.string ⟨x.toArray⟩, .string ⟨y.toArray⟩]] w (FilesPost (putF l (x, y)) w) := by
  have HROW := Lib.hid hrow
  obtain ⟨a, cap, rfl, hc1, hc2, hat⟩ := hrow.files
  clear hrow
  unfold maxLen at hc2
  go_enter Tryd.func39, Tryd.ntmps39
  go_wp2_with fail
  have HB0 := Lib.hid (Below.refl (w.heap.size + 1) (w.alloc (.cells #[.string ⟨x.toArray⟩, .string ⟨y.toArray⟩] 45)))
  have s0 : (w.alloc (.cells #[.string ⟨x.toArray⟩, .string ⟨y.toArray⟩] 45)).cell? ⟨w.heap.size, 0, none⟩ = some (.string ⟨x.toArray⟩) := by simp
  have s1 : (w.alloc (.cells #[.string ⟨x.toArray⟩, .string ⟨y.toArray⟩] 45)).cell? ⟨w.heap.size, 1, none⟩ = some (.string ⟨y.toArray⟩) := by simp
  have HA := Lib.hid ((Below.refl w.heap.size w).alloc (Nat.le_refl _) (.cells #[.string ⟨x.toArray⟩, .string ⟨y.toArray⟩] 45))
  have hsz : (w.alloc (.cells #[.string ⟨x.toArray⟩, .string ⟨y.toArray⟩] 45)).heap.size = w.heap.size + 1 := by simp
  generalize w.alloc (.cells #[.string ⟨x.toArray⟩, .string ⟨y.toArray⟩] 45) = wa at HB0 s0 s1 HA hsz
  go_loopw [5] (fun i wr => ∃ k : Nat, k ≤ l.length ∧ i = .int .i64 k ∧ Hid (Below (w.heap.size + 1) wa wr) ∧ Hid (putF l (x, y) = l.take k ++ putF (l.drop k) (x, y))) (fun i _ => l.length - (intOf i).toNat)
  case atStart => exact ⟨0, Nat.zero_le _, rfl, HB0, putF_start l (x, y)⟩
  case round =>
    clear HB0
    obtain ⟨k, hk, rfl, HB, HO⟩ := hrel
    have q0 : wr.cell? ⟨w.heap.size, 0, none⟩ = some (.string ⟨x.toArray⟩) := (HB.out.cell (p := ⟨w.heap.size, 0, none⟩) (by show w.heap.size < w.heap.size + 1; omega)).trans s0
    have q1 : wr.cell? ⟨w.heap.size, 1, none⟩ = some (.string ⟨y.toArray⟩) := (HB.out.cell (p := ⟨w.heap.size, 1, none⟩) (by show w.heap.size < w.heap.size + 1; omega)).trans s1
    have HW := Lib.hid (HA.out.trans (HB.out.mono (by omega)))
    by_cases hlt : k < l.length
    · obtain ⟨g, o, rfl, hg, hcell1, _⟩ := hat k hlt
      have hc1' : wr.cell? ⟨g, o + k * 2, none⟩ = some (.string ⟨(l[k]).1.toArray⟩) := by rw [HW.out.cell (p := ⟨g, o + k * 2, none⟩) hg]; exact hcell1
      have hk0 : decide ((k : Int) < (l.length : Int)) = true := decide_eq_true (by omega)
      rcases hz : ltT l[k].1 x with _ | _
      · have hz1 : Op.bytesLess l[k].1 x = false := hz
        have hlw : w.heap.size < wr.heap.size := by have := HB.out.size; omega
        by_cases he : l[k].1 = x
        · have HP := Lib.hid (putF_there hlt HO.out he)
          have he1 : (l[k].1 == x) = true := by simpa using he
          generalize l[k].1 = z at hc1' hz hz1 he he1
          clear HO hz hat hcell1 he
          go_wp2_with fail
          go_quiet (fail)
          have HWq := Lib.hid (below_drewN HW.out nq)
          have q0q : (wr.drewN nq).cell? ⟨w.heap.size, 0, none⟩ = some (.string ⟨x.toArray⟩) := q0
          have q1q : (wr.drewN nq).cell? ⟨w.heap.size, 1, none⟩ = some (.string ⟨y.toArray⟩) := q1
          have hlq : w.heap.size < (wr.drewN nq).heap.size := hlw
          have cq : (wr.drewN nq).cell? ⟨g, o + k * 2, none⟩ = some (.string ⟨z.toArray⟩) := hc1'
          have hgq : g < (wr.drewN nq).heap.size := Nat.lt_of_lt_of_le hg HWq.out.size
          have HRq := Lib.hid (HROW.out.below HWq.out)
          clear q0 q1 hlw HB HW hc1'
          generalize wr.drewN nq = wq at HWq q0q q1q hlq HRq cq hgq
          have HF := Lib.hid (frontF HRq.out hk)
          go_wp2_with (at_builtin; first
            | (refine wpAppRowG elemF rfl _ _ rfl wq.heap.size _ 0 k [] (FC (l.take k)) _ rfl (lit_nil wq) rfl (HF.out.alloc _) (FC_one _) (by omega) (by simp) ?_
               intro v1 w1 hown1 hg1
               have HN1 := Lib.hid hown1
               have HB1 := Lib.hid (((Below.refl _ wq).alloc (Nat.le_refl _) _).trans (below_ownG (lit_nil wq) hg1 (by simp)))
               have q0w : w1.cell? ⟨w.heap.size, 0, none⟩ = some (.string ⟨x.toArray⟩) := (HB1.out.cell (p := ⟨w.heap.size, 0, none⟩) hlq).trans q0q
               have q1w : w1.cell? ⟨w.heap.size, 1, none⟩ = some (.string ⟨y.toArray⟩) := (HB1.out.cell (p := ⟨w.heap.size, 1, none⟩) hlq).trans q1q
               clear hown1 hg1)
            | (refine wpAppOneG elemF rfl _ _ rfl wq.heap.size _ (0 + k) ([] ++ FC (l.take k)) rfl HN1.out _ rfl rfl rfl (by intro u hu; simp at hu; rcases hu with rfl | rfl <;> rfl) (by omega) HB1.out.size ?_
               intro v2 w2 hown2 hg2
               have HN2 := Lib.hid hown2
               have HB2 := Lib.hid (HB1.out.trans (below_ownG HN1.out hg2 HB1.out.size))
               clear hown2 hg2 q0w q1w))
          have q0v : w2.cell? ⟨w.heap.size, 0, none⟩ = some (.string ⟨x.toArray⟩) := (HB2.out.cell (p := ⟨w.heap.size, 0, none⟩) hlq).trans q0q
          have cv : w2.cell? ⟨g, o + k * 2, none⟩ = some (.string ⟨z.toArray⟩) := (HB2.out.cell (p := ⟨g, o + k * 2, none⟩) hgq).trans cq
          go_quiet (fail)
          have HN3 := Lib.hid (own_drewN HN2.out nq)
          have HB3 := Lib.hid (below_drewN HB2.out nq)
          clear HN1 HB1 HN2 HB2 q0v q0q q1q cv cq hgq
          generalize w2.drewN nq = w3 at HN3 HB3
          obtain ⟨A1, cut1, hD⟩ := backF (k := k + 1) (HRq.out.below HB3.out) (by omega) hc1
          have HD := Lib.hid hD
          clear hD
          have ek : ((k + 1 : Nat) : Int) = (k : Int) + 1 := by omega
          rw [ek] at cut1
          go_wp2_with (at_builtin; refine wpAppRowG elemF rfl _ _ rfl wq.heap.size _ (0 + k + 1) (l.length - (k + 1)) _ (FC (l.drop (k + 1))) _ rfl HN3.out rfl HD.out (FC_one _) (by omega) HB3.out.size ?_; intro v4 w4 hown4 hg4; have HN4 := Lib.hid (own_eq hown4 (put_count HP.out (by omega)) (put_cells HP.out)); have HB4 := Lib.hid (HB3.out.trans (below_ownG HN3.out hg4 HB3.out.size)); clear hown4 hg4)
          go_ret
          exact ⟨_, rfl, own_baseG HN4.out HWq.out.size, HWq.out.trans (HB4.out.mono HWq.out.size)⟩
        · have HP := Lib.hid (putF_new HO.out (fun _ => ⟨hz, he⟩))
          have he1 : (l[k].1 == x) = false := by simpa using he
          generalize l[k].1 = z at hc1' hz hz1 he he1
          clear HO hz hat hcell1 he
          go_wp2_with fail
          go_quiet (fail)
          have HWq := Lib.hid (below_drewN HW.out nq)
          have q0q : (wr.drewN nq).cell? ⟨w.heap.size, 0, none⟩ = some (.string ⟨x.toArray⟩) := q0
          have q1q : (wr.drewN nq).cell? ⟨w.heap.size, 1, none⟩ = some (.string ⟨y.toArray⟩) := q1
          have hlq : w.heap.size < (wr.drewN nq).heap.size := hlw
          have cq : (wr.drewN nq).cell? ⟨g, o + k * 2, none⟩ = some (.string ⟨z.toArray⟩) := hc1'
          have hgq : g < (wr.drewN nq).heap.size := Nat.lt_of_lt_of_le hg HWq.out.size
          have HRq := Lib.hid (HROW.out.below HWq.out)
          clear q0 q1 hlw HB HW hc1'
          generalize wr.drewN nq = wq at HWq q0q q1q hlq HRq cq hgq
          have HF := Lib.hid (frontF HRq.out hk)
          go_wp2_with (at_builtin; first
            | (refine wpAppRowG elemF rfl _ _ rfl wq.heap.size _ 0 k [] (FC (l.take k)) _ rfl (lit_nil wq) rfl (HF.out.alloc _) (FC_one _) (by omega) (by simp) ?_
               intro v1 w1 hown1 hg1
               have HN1 := Lib.hid hown1
               have HB1 := Lib.hid (((Below.refl _ wq).alloc (Nat.le_refl _) _).trans (below_ownG (lit_nil wq) hg1 (by simp)))
               have q0w : w1.cell? ⟨w.heap.size, 0, none⟩ = some (.string ⟨x.toArray⟩) := (HB1.out.cell (p := ⟨w.heap.size, 0, none⟩) hlq).trans q0q
               have q1w : w1.cell? ⟨w.heap.size, 1, none⟩ = some (.string ⟨y.toArray⟩) := (HB1.out.cell (p := ⟨w.heap.size, 1, none⟩) hlq).trans q1q
               clear hown1 hg1)
            | (refine wpAppOneG elemF rfl _ _ rfl wq.heap.size _ (0 + k) ([] ++ FC (l.take k)) rfl HN1.out _ rfl rfl rfl (by intro u hu; simp at hu; rcases hu with rfl | rfl <;> rfl) (by omega) HB1.out.size ?_
               intro v2 w2 hown2 hg2
               have HN2 := Lib.hid hown2
               have HB2 := Lib.hid (HB1.out.trans (below_ownG HN1.out hg2 HB1.out.size))
               clear hown2 hg2 q0w q1w))
          have q0v : w2.cell? ⟨w.heap.size, 0, none⟩ = some (.string ⟨x.toArray⟩) := (HB2.out.cell (p := ⟨w.heap.size, 0, none⟩) hlq).trans q0q
          have cv : w2.cell? ⟨g, o + k * 2, none⟩ = some (.string ⟨z.toArray⟩) := (HB2.out.cell (p := ⟨g, o + k * 2, none⟩) hgq).trans cq
          go_quiet (fail)
          have HN3 := Lib.hid (own_drewN HN2.out nq)
          have HB3 := Lib.hid (below_drewN HB2.out nq)
          clear HN1 HB1 HN2 HB2 q0v q0q q1q cv cq hgq
          generalize w2.drewN nq = w3 at HN3 HB3
          obtain ⟨A1, cut1, hD⟩ := backF (k := k) (HRq.out.below HB3.out) (by omega) hc1
          have HD := Lib.hid hD
          clear hD
          go_wp2_with (at_builtin; refine wpAppRowG elemF rfl _ _ rfl wq.heap.size _ (0 + k + 1) (l.length - (k)) _ (FC (l.drop (k))) _ rfl HN3.out rfl HD.out (FC_one _) (by omega) HB3.out.size ?_; intro v4 w4 hown4 hg4; have HN4 := Lib.hid (own_eq hown4 (put_count HP.out (by omega)) (put_cells HP.out)); have HB4 := Lib.hid (HB3.out.trans (below_ownG HN3.out hg4 HB3.out.size)); clear hown4 hg4)
          go_ret
          exact ⟨_, rfl, own_baseG HN4.out HWq.out.size, HWq.out.trans (HB4.out.mono HWq.out.size)⟩
      · have HP := Lib.hid (putF_less hlt HO.out hz)
        have hz1 : Op.bytesLess l[k].1 x = true := hz
        generalize l[k].1 = z at hc1' hz hz1
        clear HO hz hat hcell1
        go_wp2_with fail
        go_quiet (fail)
        go_wp2_with fail
        go_roundw
        case rel => exact ⟨k + 1, by omega, by go_num, below_drewN HB.out _, HP⟩
        case measure => simp [intOf]; omega
    · have hk0 : decide ((k : Int) < (l.length : Int)) = false := decide_eq_false (by omega)
      have hlw : w.heap.size < wr.heap.size := by have := HB.out.size; omega
      have HP := Lib.hid (putF_new HO.out (fun h => absurd h hlt))
      clear HO hat
      go_wp2_with fail
      go_quiet (fail)
      have HWq := Lib.hid (below_drewN HW.out nq)
      have q0q : (wr.drewN nq).cell? ⟨w.heap.size, 0, none⟩ = some (.string ⟨x.toArray⟩) := q0
      have q1q : (wr.drewN nq).cell? ⟨w.heap.size, 1, none⟩ = some (.string ⟨y.toArray⟩) := q1
      have hlq : w.heap.size < (wr.drewN nq).heap.size := hlw
      have HRq := Lib.hid (HROW.out.below HWq.out)
      clear q0 q1 hlw HB HW
      generalize wr.drewN nq = wq at HWq q0q q1q hlq HRq
      have HF := Lib.hid (frontF HRq.out hk)
      go_wp2_with (at_builtin; first
        | (refine wpAppRowG elemF rfl _ _ rfl wq.heap.size _ 0 k [] (FC (l.take k)) _ rfl (lit_nil wq) rfl (HF.out.alloc _) (FC_one _) (by omega) (by simp) ?_
           intro v1 w1 hown1 hg1
           have HN1 := Lib.hid hown1
           have HB1 := Lib.hid (((Below.refl _ wq).alloc (Nat.le_refl _) _).trans (below_ownG (lit_nil wq) hg1 (by simp)))
           have q0w : w1.cell? ⟨w.heap.size, 0, none⟩ = some (.string ⟨x.toArray⟩) := (HB1.out.cell (p := ⟨w.heap.size, 0, none⟩) hlq).trans q0q
           have q1w : w1.cell? ⟨w.heap.size, 1, none⟩ = some (.string ⟨y.toArray⟩) := (HB1.out.cell (p := ⟨w.heap.size, 1, none⟩) hlq).trans q1q
           clear hown1 hg1)
        | (refine wpAppOneG elemF rfl _ _ rfl wq.heap.size _ (0 + k) ([] ++ FC (l.take k)) rfl HN1.out _ rfl rfl rfl (by intro u hu; simp at hu; rcases hu with rfl | rfl <;> rfl) (by omega) HB1.out.size ?_
           intro v2 w2 hown2 hg2
           have HN2 := Lib.hid hown2
           have HB2 := Lib.hid (HB1.out.trans (below_ownG HN1.out hg2 HB1.out.size))
           clear hown2 hg2 q0w q1w))
      have q0v : w2.cell? ⟨w.heap.size, 0, none⟩ = some (.string ⟨x.toArray⟩) := (HB2.out.cell (p := ⟨w.heap.size, 0, none⟩) hlq).trans q0q
      go_quiet (fail)
      have HN3 := Lib.hid (own_drewN HN2.out nq)
      have HB3 := Lib.hid (below_drewN HB2.out nq)
      clear HN1 HB1 HN2 HB2 q0v q0q q1q
      generalize w2.drewN nq = w3 at HN3 HB3
      obtain ⟨A1, cut1, hD⟩ := backF (k := k) (HRq.out.below HB3.out) (by omega) hc1
      have HD := Lib.hid hD
      clear hD
      go_wp2_with (at_builtin; refine wpAppRowG elemF rfl _ _ rfl wq.heap.size _ (0 + k + 1) (l.length - (k)) _ (FC (l.drop (k))) _ rfl HN3.out rfl HD.out (FC_one _) (by omega) HB3.out.size ?_; intro v4 w4 hown4 hg4; have HN4 := Lib.hid (own_eq hown4 (put_count HP.out (by omega)) (put_cells HP.out)); have HB4 := Lib.hid (HB3.out.trans (below_ownG HN3.out hg4 HB3.out.size)); clear hown4 hg4)
      go_ret
      exact ⟨_, rfl, own_baseG HN4.out HWq.out.size, HWq.out.trans (HB4.out.mono HWq.out.size)⟩

end Go.Proofs.YtoahfhidekmodaaDoor
