/- Texts of one claim, joined in their order. -/
import Derived.Test.YtcfhfhpdnjaokaaGreatDoorM4
import Derived.Test.YtcfhfhpdnjaokaaGreatDoorM11
import Derived.Test.YtcfhfhpdnjaokaaGreatDoorM6

/- Walks: the laws' marks in plans. -/
namespace Go.Proofs.YtcfhfhpdnjaokaaGreatDoor
open Go.RowKit Pth

/-- Only blocks between two have turned, whatever they hold. -/
structure OnlyB (B C : Nat) (w w' : World) : Prop where
  below : Below B w w'
  above : ∀ i, C ≤ i → i < w.heap.size → w'.heap[i]? = w.heap[i]?
theorem OnlyB.trans {B C : Nat} {a b c : World} (h : OnlyB B C a b) (k : OnlyB B C b c) : OnlyB B C a c :=
  ⟨h.below.trans k.below, fun i hi hl => (k.above i hi (Nat.lt_of_lt_of_le hl h.below.size)).trans (h.above i hi hl)⟩
theorem OnlyB.of_below {B C : Nat} {w w' : World} (h : Below w.heap.size w w') (hB : B ≤ w.heap.size) : OnlyB B C w w' := ⟨h.mono hB, fun i _ hl => h.block i hl⟩
theorem OnlyB.of_only {B C : Nat} {w w' : World} (h : OnlyIn B C w w') : OnlyB B C w w' := ⟨h.below, h.above⟩
theorem OnlyB.of_grown {B C : Nat} {w w' : World} {r : Option Nat} (h : w.grownBy w' r) (hr : ∀ i, r = some i → B ≤ i ∧ i < C) (hB : B ≤ w.heap.size) : OnlyB B C w w' := by
  refine ⟨⟨h.os, h.tape, h.output, h.size, fun i hi => h.block i (by omega) (fun e => by have := (hr i e.symm).1; omega)⟩, fun i hi hl => h.block i hl (fun e => by have := (hr i e.symm).2; omega)⟩
theorem OnlyB.own {B C D e n z : Nat} {w w' : World} {v : Value} {xs : List Value} (hg : OnlyB B C w w') (h : w.ownsRow D e z v n xs) (hD : C ≤ D) : w'.ownsRow D e z v n xs := by
  refine ⟨h.1, ?_⟩
  rcases h.2 with h0 | ⟨g, cap, cur, hv, hB, hh, r⟩
  · exact .inl h0
  · exact .inr ⟨g, cap, cur, hv, hB, (hg.above g (by omega) (lt_of_block hh)).trans hh, r⟩
theorem OnlyB.blk4 {B C b t : Nat} {w w' : World} {x y z u : Value} (hg : OnlyB B C w w') (h : Blk4 w b t x y z u) (hb : C ≤ b) : Blk4 w' b t x y z u := (hg.above b hb (lt_of_block h)).trans h
theorem own_kept {B C D e n z : Nat} {w w' : World} {v : Value} {xs : List Value} (hg : OnlyIn B C w w') (he : e ≠ 3) (h : w.ownsRow D e z v n xs) : w'.ownsRow D e z v n xs := by
  refine ⟨h.1, ?_⟩
  rcases h.2 with h0 | ⟨g, cap, cur, hv, hB, hh, r⟩
  · exact .inl h0
  · exact .inr ⟨g, cap, cur, hv, hB, (hg.kept g _ e he hh).trans hh, r⟩

theorem BL_set (m : List Bool) (j : Nat) (b : Bool) : (BL m).set j (.bool b) = BL (m.set j b) := by simp [BL, List.map_set]

set_option maxRecDepth 20000 in
set_option maxHeartbeats 1000000 in
theorem markBoolS_any (l : List Bool) (k : Nat) (B : Nat) (v : Value) (w : World) (hown : w.ownsRow B 4 1 v l.length (BL l)) (hl : l.length ≤ 1100000) (hk : k ≤ 4000000) :
    Calls Tryz.prog 128 #[v, .int .i64 (k : Int)] w fun e w' => e = .returned (.int .i64 ((k + l.length : Nat) : Int)) ∧ w.grownBy w' v.ownBlock := by
  have HW := Lib.hid hown
  obtain ⟨a, cap, rfl⟩ := own_slice hown
  clear hown
  go_enter Tryz.func128, Tryz.ntmps128
  go_wp2_with fail
  go_loopw [1, 5] (fun q i wr => ∃ (j : Nat) (m : List Bool), j ≤ l.length ∧ m.length = l.length ∧ q = .int .i64 ((k + j : Nat) : Int) ∧ i = .int .i64 j ∧ wr.ownsRow B 4 1 (.slice a l.length cap) l.length (BL m) ∧ w.grownBy wr (Value.slice a l.length cap).ownBlock) (fun _ i _ => l.length - (intOf i).toNat)
  case atStart => exact ⟨0, l, Nat.zero_le _, rfl, rfl, rfl, HW.out, grown_refl _ _⟩
  case round =>
    clear HW
    obtain ⟨j, m, hj, hm, rfl, rfl, hown, hg⟩ := hrel
    have HM := Lib.hid hm
    by_cases hlt : j < l.length
    · obtain ⟨g, c2, hv⟩ : ∃ g c2, (Value.slice a l.length cap) = .slice (some ⟨g, 0, none⟩) l.length c2 := by
        rcases hown.2 with ⟨_, h0⟩ | ⟨g, c2, cur, hv, _⟩
        · omega
        · exact ⟨g, c2, hv⟩
      injection hv with hv1 hv2 hv3
      subst hv1
      have hc4 : l.length ≤ cap := by
        rcases hown.2 with ⟨_, h0⟩ | ⟨g, c2, cur, hv, _, _, h5, _⟩
        · omega
        · injection hv with _ _ hv3; omega
      have hfz := hown.frozenAt j
      have hcz : wr.cell? ⟨g, j, none⟩ = some (.bool (m[j]'(by omega))) := by
        rw [hown.cellAt j (by omega)]
        rw [List.getElem?_eq_getElem (by rw [BL_len]; omega), BL_get (by omega)]
      have HST := Lib.hid (fun b => hown.stored j (.bool b))
      have HG := Lib.hid hg
      generalize m[j]'(by omega) = y at hcz
      have HKJ := Lib.hid (show ((k + (j + 1) : Nat) : Int) = ((k + j : Nat) : Int) + 1 by omega)
      generalize hkj : k + j = kj at *
      have hkj2 : kj ≤ 5200000 := by omega
      clear hown hg hv2 hv3 hm
      clear hkj
      go_wp2_with fail
      go_roundw
      case rel => exact ⟨j + 1, m.set j ((kj : Int) % 3 == 0), by omega, by rw [List.length_set]; exact HM.out, by rw [HKJ.out], by go_num, by rw [← BL_set]; exact (HST.out _).1, grown_trans HG.out (HST.out _).2⟩
      case measure => simp [intOf]; omega
    · obtain rfl : j = l.length := by omega
      have HG := Lib.hid hg
      clear hown hg hm
      go_wp2_with fail
      go_ret
      exact ⟨rfl, HG.out⟩

theorem totalO3 {rs : List (List OpT)} {j : Nat} (hj : j < rs.length) (k : Nat) : ((k + 3 * totalO (rs.take (j + 1)) : Nat) : Int) = ((k + 3 * totalO (rs.take j) : Nat) : Int) + (rs[j].length : Int) * 3 := by
  rw [totalO_next hj]; omega

set_option maxRecDepth 20000 in
set_option maxHeartbeats 2000000 in
theorem markOpSS_any (rs : List (List OpT)) (k B C : Nat) (v : Value) (sl : List Value) (w : World) (hown : OwnOO B w v sl rs) (hC : ∀ p ∈ sl.zip rs, ∀ b, p.1.ownBlock = some b → b < C) (hB : B ≤ w.heap.size) (hl : rs.length + totalO rs ≤ 1100000) (hk : k + 3 * totalO rs ≤ 4000000) (hk1 : 1 ≤ k) :
    Calls Tryz.prog 129 #[v, .int .i64 (k : Int)] w fun e w' => e = .returned (.int .i64 ((k + 3 * totalO rs : Nat) : Int)) ∧ OnlyB B C w w' := by
  obtain ⟨hs, hrow, hL⟩ := hown
  have HW := Lib.hid hrow
  have HL0 := Lib.hid hL
  have HC := Lib.hid hC
  have HS := Lib.hid hs
  obtain ⟨a, cap, rfl⟩ := own_slice hrow
  clear hrow hL hC hs
  go_enter Tryz.func129, Tryz.ntmps129
  go_wp2_with fail
  go_loopw [1, 5] (fun q i wr => ∃ j : Nat, j ≤ rs.length ∧ q = .int .i64 ((k + 3 * totalO (rs.take j) : Nat) : Int) ∧ i = .int .i64 j ∧ Hid (wr.ownsRow B 50 1 (.slice a rs.length cap) rs.length sl) ∧ Hid (ListsO B wr ((sl.zip rs).drop j)) ∧ Hid (OnlyB B C w wr)) (fun _ i _ => rs.length - (intOf i).toNat)
  case atStart => exact ⟨0, Nat.zero_le _, by simp [totalO], rfl, HW, by simpa [Hid] using HL0.out, ⟨Below.refl _ _, fun _ _ _ => rfl⟩⟩
  case round =>
    clear HW HL0
    obtain ⟨j, hj, rfl, rfl, HN, HL, HG⟩ := hrel
    by_cases hlt : j < rs.length
    · have hjs : j < sl.length := by have := HS.out; omega
      have hz : j < (sl.zip rs).length := by rw [List.length_zip]; omega
      have hdr : (sl.zip rs).drop j = (sl[j], rs[j]) :: (sl.zip rs).drop (j + 1) := by rw [List.drop_eq_getElem_cons hz, List.getElem_zip]
      have hl1 := HL.out
      rw [hdr] at hl1
      obtain ⟨ho, hp⟩ := hl1
      rw [List.pairwise_cons] at hp
      have hone := ho (sl[j], rs[j]) (by simp)
      simp only at hone
      obtain ⟨g, c2, hv⟩ : ∃ g c2, (Value.slice a rs.length cap) = .slice (some ⟨g, 0, none⟩) rs.length c2 := by
        rcases HN.out.2 with ⟨_, h0⟩ | ⟨g, c2, cur, hv, _⟩
        · omega
        · exact ⟨g, c2, hv⟩
      injection hv with hv1 hv2 hv3
      subst hv1
      have hc4 : rs.length ≤ cap := by
        rcases HN.out.2 with ⟨_, h0⟩ | ⟨g, c2, cur, hv, _, _, h5, _⟩
        · omega
        · injection hv with _ _ hv3; omega
      have hcell : wr.cell? ⟨g, j, none⟩ = some sl[j] := by rw [HN.out.cellAt j (by omega), List.getElem?_eq_getElem hjs]
      obtain ⟨a2, c3, hsv⟩ := own_sliceG hone
      have hmem : (sl[j], rs[j]) ∈ sl.zip rs := zip_getO hjs hlt
      have hbw : B ≤ wr.heap.size := Nat.le_trans hB HG.out.below.size
      have ht1 := totalO_at hlt
      have ht2 := totalO_le (rs := rs) (k := j + 1)
      have ht3 := totalO_next hlt
      have HC1 := Lib.hid (markOpS_any rs[j] (k + 3 * totalO (rs.take j)) B sl[j] wr hone (by omega) (by omega) (by omega))
      have HT := Lib.hid (totalO3 hlt k)
      have HNX : Hid (∀ w1, wr.grownBy w1 (sl[j]).ownBlock → w1.ownsRow B 50 1 (.slice (some ⟨g, 0, none⟩) rs.length cap) rs.length sl ∧ ListsO B w1 ((sl.zip rs).drop (j + 1)) ∧ OnlyB B C w w1) := fun w1 hg => by
        refine ⟨own_apartG HN.out hg (own_typesG hone HN.out (by decide)), ⟨fun p hp' => ?_, hp.2⟩, HG.out.trans (OnlyB.of_grown hg (fun i hi => ⟨(hone.lt i hi).1, HC.out _ hmem i hi⟩) hbw)⟩
        exact own_apartG (ho p (by simp [hp'])) hg (fun b h1 h2 => hp.1 p hp' b h1 h2)
      rw [hsv] at hcell HC1 HNX
      clear hdr ho hp hone hmem ht1 ht2 ht3 hv2 hv3 HN HL HG hz
      generalize k + 3 * totalO (rs.take j) = kq at *
      generalize rs[j].length = nj at *
      go_wp2_with fail
      refine HC1.out.mono ?_
      rintro e w1 ⟨rfl, hg1⟩
      have HF := Lib.hid (HNX.out w1 hg1)
      clear hg1 HC1 HNX
      go_wp2_with fail
      go_roundw
      case rel => exact ⟨j + 1, by omega, by rw [HT.out], by go_num, HF.out.1, HF.out.2.1, HF.out.2.2⟩
      case measure => simp [intOf]; omega
    · have e1 : rs.take j = rs := List.take_of_length_le (by omega)
      rw [e1]
      clear HN HL
      go_wp2_with fail
      go_ret
      exact ⟨rfl, HG.out⟩

/-- How many marks a plan takes. -/
def markZ (ls : List (List Int)) (l : List Int) (bs : List Bool) (rs : List (List OpT)) : Nat := totalG ls l + bs.length + 3 * totalO rs
theorem OwnOO.kept {B C D : Nat} {w w' : World} {v : Value} {sl : List Value} {rs : List (List OpT)} (h : OwnOO B w v sl rs) (hg : OnlyIn D C w w') : OwnOO B w' v sl rs :=
  ⟨h.1, own_kept hg (by decide) h.2.1, fun p hp => own_kept hg (by decide) (h.2.2.1 p hp), h.2.2.2⟩
theorem OwnOO.grown {B B' e z n : Nat} {w w' : World} {v u : Value} {xs : List Value} {sl : List Value} {rs : List (List OpT)} (h : OwnOO B w v sl rs) (ho : w.ownsRow B' e z u n xs) (h1 : e ≠ 50) (h2 : e ≠ 158) (hg : w.grownBy w' u.ownBlock) : OwnOO B w' v sl rs :=
  ⟨h.1, own_apartG h.2.1 hg (own_typesG ho h.2.1 h1), h.2.2.outer ho h2 hg⟩

set_option maxRecDepth 20000 in
set_option maxHeartbeats 4000000 in
theorem markPlan_any (ls : List (List Int)) (l : List Int) (bs : List Bool) (rs : List (List OpT)) (B : Nat) (v : Value) (w0 w : World) (h0 : PlanO B w0 v ls l bs rs) (hb0 : Below w0.heap.size w0 w) (hB : B ≤ w0.heap.size) (hz : planZ ls l bs rs ≤ 1048576) :
    Calls Tryz.prog 60 #[v, .int .i64 1] w fun e w' => e = .returned (.int .i64 ((1 + markZ ls l bs rs : Nat) : Int)) ∧ OnlyB B w0.heap.size w w' := by
  obtain ⟨nv, ov, sv, rv, so, rfl, hg, hb, hr⟩ := h0
  unfold planZ at hz
  obtain ⟨an, cn, ao, co, he⟩ := hg.slices
  simp only [Value.agg.injEq, Array.mk.injEq, List.cons.injEq, and_true] at he
  obtain ⟨rfl, rfl⟩ := he
  obtain ⟨as0, cs, rfl⟩ := own_slice hb
  obtain ⟨ar, cr, rfl⟩ := own_slice hr.2.1
  obtain ⟨wa, hwa⟩ : ∃ wa, wa = w.alloc (.cells #[.slice an ls.length cn, .slice ao l.length co, .slice as0 bs.length cs, .slice ar rs.length cr] 30) := ⟨_, rfl⟩
  have P0 : Hid (Blk4 wa w.heap.size 30 (.slice an ls.length cn) (.slice ao l.length co) (.slice as0 bs.length cs) (.slice ar rs.length cr)) := by rw [hwa]; exact Blk4.new
  have hAw : Below w.heap.size w wa := by rw [hwa]; exact (Below.refl w.heap.size w).alloc (Nat.le_refl _) _
  have HA := Lib.hid hAw
  have H0A := Lib.hid (bth hb0 hAw (Nat.le_refl _))
  have hCw : w0.heap.size ≤ w.heap.size := hb0.size
  have HBO := Lib.hid (own_below hb H0A.out)
  have HRO := Lib.hid (hr.below H0A.out)
  have HRL := Lib.hid (fun p hp b h => ((hr.2.2.1 p hp).lt b h).2)
  have HBL := Lib.hid (fun b h => hb.lt b h)
  have HC := Lib.hid (markGraph_any ls l 1 B _ w0 wa hg H0A.out hB (by omega) (by omega))
  have hone : ((1 : Nat) : Int) = 1 := rfl
  rw [hone] at HC
  have htg : totalG ls l ≤ 1048576 := by unfold totalG; omega
  have HWA := Lib.hid hwa
  have HZ : Hid (1 + markZ ls l bs rs = 1 + totalG ls l + bs.length + 3 * totalO rs) := by show _ = _; unfold markZ; omega
  have HZ2 : Hid (1 + totalG ls l + bs.length + 3 * totalO rs ≤ 4000000 ∧ rs.length + totalO rs ≤ 1100000 ∧ bs.length ≤ 1100000) := ⟨by unfold totalG; omega, by omega, by omega⟩
  clear hwa hg hb hr hb0 hone hz
  go_enter Tryz.func60, Tryz.ntmps60
  go_wp2_with fail
  rw [← HWA.out]
  refine HC.out.mono ?_
  rintro e w1 ⟨rfl, _, hoi⟩
  have O1 := Lib.hid (OnlyB.of_only hoi)
  have P1 := Lib.hid (O1.out.blk4 P0.out hCw)
  have HB1 := Lib.hid (own_kept hoi (by decide) HBO.out)
  have HR1 := Lib.hid (HRO.out.kept hoi)
  have hs1 : w0.heap.size ≤ w1.heap.size := Nat.le_trans hCw (Nat.le_trans HA.out.size hoi.below.size)
  have HC1 := Lib.hid (markBoolS_any bs (1 + totalG ls l) B _ w1 HB1.out HZ2.out.2.2 (by omega))
  have c2 := P1.out.cells.2.2.1
  clear hoi HC
  go_wp2_with fail
  refine HC1.out.mono ?_
  rintro e w2 ⟨rfl, hg2⟩
  have O2 := Lib.hid (O1.out.trans (OnlyB.of_grown (B := B) (C := w0.heap.size) hg2 (fun i hi => HBL.out i hi) (Nat.le_trans hB hs1)))
  have P2 := Lib.hid ((OnlyB.of_grown (B := B) (C := w0.heap.size) hg2 (fun i hi => HBL.out i hi) (Nat.le_trans hB hs1)).blk4 P1.out hCw)
  have HR2 := Lib.hid (HR1.out.grown HB1.out (by decide) (by decide) hg2)
  have hs2 : w0.heap.size ≤ w2.heap.size := Nat.le_trans hs1 hg2.size
  have HC2 := Lib.hid (markOpSS_any rs (1 + totalG ls l + bs.length) B w0.heap.size _ so w2 HR2.out HRL.out (Nat.le_trans hB hs2) HZ2.out.2.1 HZ2.out.1 (by omega))
  have c3 := P2.out.cells.2.2.2
  clear hg2 HC1 c2
  go_wp2_with fail
  refine HC2.out.mono ?_
  rintro e w3 ⟨rfl, hg3⟩
  have O3 := Lib.hid ((OnlyB.of_below (B := B) (C := w0.heap.size) HA.out (Nat.le_trans hB hCw)).trans (O2.out.trans hg3))
  clear hg3 HC2 c3
  go_wp2_with fail
  go_ret
  exact ⟨by rw [HZ.out] <;> rfl, O3.out⟩
end Go.Proofs.YtcfhfhpdnjaokaaGreatDoor

/- Walks: the laws' helpers on the answers of chapters 7 and 8. -/
namespace Go.Proofs.YtcfhfhpdnjaokaaGreatDoor
open Go.RowKit Pth

/-- Results are told, and whether they stand. -/
def ResOk (R : List ResT) (ok : Bool) (w : World) (e : Ending) (w' : World) : Prop :=
  ∃ v, e = .returned (.tuple #[v, .bool ok]) ∧ w'.ownsRow w.heap.size 41 2 v R.length (RC R) ∧ Below w.heap.size w w'
/-- Results are told, a number, and whether they stand. -/
def ResNOk (R : List ResT) (n : Int) (ok : Bool) (w : World) (e : Ending) (w' : World) : Prop :=
  ∃ v, e = .returned (.tuple #[v, .int .i64 n, .bool ok]) ∧ w'.ownsRow w.heap.size 41 2 v R.length (RC R) ∧ Below w.heap.size w w'
/-- Numbers are told, and whether they stand. -/
def NumsOk (R : List Int) (ok : Bool) (w : World) (e : Ending) (w' : World) : Prop :=
  ∃ v, e = .returned (.tuple #[v, .bool ok]) ∧ w'.ownsRow w.heap.size 3 1 v R.length (I R) ∧ Below w.heap.size w w'
theorem marksR_at (k n j : Nat) (hj : j < (marksR k n).length) : (marksR k n)[j] = (markT (k + j * 2), ((k + j * 2 + 1 : Nat) : Int)) := by simp [marksR]
theorem heldRow_R {w : World} {B n : Nat} {v : Value} (h : w.ownsRow B 41 2 v n (RC (marksR 1 n))) : RowR w v (marksR 1 n) := RowR.of_own (by rw [marksR_len]; exact h)
theorem heldRow_I {w : World} {B n : Nat} {v : Value} (h : w.ownsRow B 3 1 v n (I (marks 1 n))) : RowV w v (I (marks 1 n)) := RowV.of_own h

set_option maxHeartbeats 1000000 in
theorem szStringS_le (l : List (List UInt8)) (left : Nat) (v : Value) (w : World) (hrow : RowV w v (S l)) (hx : ∀ x ∈ l, x.length ≤ maxLen) (hl : left ≤ 2000000) :
    Calls Tryz.prog 54 #[v, .int .i64 (left : Int)] w fun e w' => ∃ r : Int, e = .returned (.int .i64 r) ∧ r ≤ left ∧ (0 ≤ r → r + l.length ≤ left ∧ ∀ x ∈ l, x.length ≤ left) ∧ w = w' := by
  obtain ⟨a, cap, rfl, hc1, hc2, hat⟩ := hrow.texts
  clear hrow
  unfold maxLen at hc2 hx
  by_cases hlen : l.length ≤ left
  · have hlen1 : decide ((left : Int) - (l.length : Int) < 0) = false := by simp; omega
    go_enter Tryz.func54, Tryz.ntmps54
    go_wp2_with fail
    go_loop [1, 5] (fun q i => ∃ (k : Nat) (r : Int), k ≤ l.length ∧ 0 ≤ r ∧ r + l.length ≤ left ∧ q = .int .i64 r ∧ i = .int .i64 k ∧ Hid (∀ x ∈ l.take k, x.length ≤ left)) (fun _ i => l.length - (intOf i).toNat)
    case atStart => exact ⟨0, (left : Int) - (l.length : Int), Nat.zero_le _, by omega, by omega, rfl, rfl, by simp [Hid]⟩
    case round =>
      obtain ⟨k, r, hk, hr0, hr1, rfl, rfl, HO⟩ := hrel
      by_cases hlt : k < l.length
      · obtain ⟨g, o, rfl, hg, hcell⟩ := hat k hlt
        have hxl := hx l[k] (List.getElem_mem hlt)
        by_cases hy : ((l[k]).length : Int) ≤ r
        · have HS : Hid (∀ x ∈ l.take (k + 1), x.length ≤ left) := by
            intro x hxm
            rw [List.take_succ_eq_append_getElem hlt, List.mem_append, List.mem_singleton] at hxm
            rcases hxm with h | h
            · exact HO.out x h
            · rw [h]; omega
          have hy1 : decide (r - ((l[k]).length : Int) < 0) = false := by simp; omega
          generalize l[k] = x at hcell hxl hy hy1
          clear hat HO hx
          go_wp2_with fail
          go_round
          case rel => exact ⟨k + 1, r - (x.length : Int), by omega, by omega, by omega, rfl, by go_num, HS⟩
          case measure => simp [intOf]; omega
        · have hy1 : decide (r - ((l[k]).length : Int) < 0) = true := by simp; omega
          generalize l[k] = x at hcell hxl hy hy1
          clear hat HO hx
          go_wp2_with fail
          go_ret
          exact ⟨-1, rfl, by omega, fun h => by omega, rfl⟩
      · have HS : Hid (∀ x ∈ l, x.length ≤ left) := by have := HO.out; rw [List.take_of_length_le (by omega)] at this; exact this
        clear hat HO hx
        go_wp2_with fail
        go_ret
        exact ⟨r, rfl, by omega, fun _ => ⟨by omega, HS.out⟩, rfl⟩
  · have hlen1 : decide ((left : Int) - (l.length : Int) < 0) = true := by simp; omega
    clear hat hx
    go_enter Tryz.func54, Tryz.ntmps54
    go_wp2_with fail
    go_ret
    exact ⟨-1, rfl, by omega, fun h => by omega, rfl⟩


set_option maxHeartbeats 1000000 in
theorem markIntS_huge (l : List Int) (k : Nat) (B : Nat) (v : Value) (w : World) (hown : w.ownsRow B 3 1 v l.length (I l)) (hl : l.length ≤ 2000000) (hk : k ≤ 8000000) :
    Calls Tryz.prog 69 #[v, .int .i64 (k : Int)] w (Marked B v k l.length w) := by
  have HW := Lib.hid hown
  obtain ⟨a, cap, rfl⟩ := own_slice hown
  clear hown
  go_enter Tryz.func69, Tryz.ntmps69
  go_wp2_with fail
  go_loopw [1, 5] (fun q i wr => ∃ j : Nat, j ≤ l.length ∧ q = .int .i64 ((k : Int) + (j : Int)) ∧ i = .int .i64 j ∧ wr.ownsRow B 3 1 (.slice a l.length cap) l.length (I (marks k j) ++ (I l).drop j) ∧ w.grownBy wr (Value.slice a l.length cap).ownBlock) (fun _ i _ => l.length - (intOf i).toNat)
  case atStart => exact ⟨0, Nat.zero_le _, by simp, rfl, HW.out, grown_refl _ _⟩
  case round =>
    clear HW
    obtain ⟨j, hj, rfl, rfl, hown, hg⟩ := hrel
    by_cases hlt : j < l.length
    · obtain ⟨g, c2, hv⟩ : ∃ g c2, (Value.slice a l.length cap) = .slice (some ⟨g, 0, none⟩) l.length c2 := by
        rcases hown.2 with ⟨_, h0⟩ | ⟨g, c2, cur, hv, _⟩
        · omega
        · exact ⟨g, c2, hv⟩
      injection hv with hv1 hv2 hv3
      subst hv1
      have hfz := hown.frozenAt j
      have hcz : wr.cell? ⟨g, j, none⟩ = some (.int .i64 l[j]) := by rw [hown.cellAt j (by omega), mark_get k l j hlt]
      have hst := hown.stored j (.int .i64 ((k : Int) + (j : Int)))
      rw [mark_set k l j hlt] at hst
      have HN1 := Lib.hid hst.1
      have HG1 := Lib.hid (grown_trans hg hst.2)
      have hc4 : l.length ≤ cap := by
        rcases hown.2 with ⟨_, h0⟩ | ⟨g, c2, cur, hv, _, _, h5, _⟩
        · omega
        · injection hv with _ _ hv3; omega
      clear hown hg hst hv2 hv3
      generalize l[j] = x at hcz
      go_wp2_with fail
      go_roundw
      case rel => exact ⟨j + 1, by omega, by go_num, by go_num, HN1.out, HG1.out⟩
      case measure => simp [intOf]; omega
    · obtain rfl : j = l.length := by omega
      have e : (I l).drop l.length = [] := List.drop_of_length_le (by rw [I_len]; omega)
      rw [e, List.append_nil] at hown
      have HN := Lib.hid hown
      have HG := Lib.hid hg
      clear hown hg e
      go_wp2_with fail
      go_ret
      exact ⟨rfl, HN.out, HG.out⟩


set_option maxRecDepth 20000 in
set_option maxHeartbeats 1000000 in
theorem heldResultS_any (k n : Nat) (v : Value) (w : World) (hrow : RowR w v (marksR k n)) (hn : n ≤ 1100000) (hk : k ≤ 4000000) (hk1 : 1 ≤ k) :
    Calls Tryz.prog 63 #[v, .int .i64 (k : Int)] w fun e w' => e = .returned (.int .i64 ((k : Int) + (n : Int) * 2)) ∧ Below w.heap.size w w' := by
  obtain ⟨a, cap, rfl, hc1, hc2, hat⟩ := hrow.res
  rw [marksR_len] at hc1 ⊢
  clear hrow
  unfold maxLen at hc2
  go_enter Tryz.func63, Tryz.ntmps63
  go_wp2_with fail
  go_loopw [1, 5] (fun q i wr => ∃ j : Nat, j ≤ n ∧ q = .int .i64 ((k : Int) + (j : Int) * 2) ∧ i = .int .i64 j ∧ Below w.heap.size w wr) (fun _ i _ => n - (intOf i).toNat)
  case atStart => exact ⟨0, Nat.zero_le _, by simp, rfl, Below.refl _ _⟩
  case round =>
    obtain ⟨j, hj, rfl, rfl, hb⟩ := hrel
    by_cases hlt : j < n
    · obtain ⟨g, o, rfl, hg, hcell0, hcell1⟩ := hat j (by rw [marksR_len]; exact hlt)
      rw [marksR_at] at hcell0 hcell1
      have s0 : wr.cell? ⟨g, o + j * 2, none⟩ = some (.string ⟨(markT (k + j * 2)).toArray⟩) := by rw [hb.cell (p := ⟨g, o + j * 2, none⟩) hg]; exact hcell0
      have ec : ((k + j * 2 + 1 : Nat) : Int) = (k : Int) + (j : Int) * 2 + 1 := by omega
      have s1 : wr.cell? ⟨g, o + j * 2 + 1, none⟩ = some (.int .i64 ((k : Int) + (j : Int) * 2 + 1)) := by rw [hb.cell (p := ⟨g, o + j * 2 + 1, none⟩) hg, hcell1, ← ec]
      have hgw : g < wr.heap.size := by have := hb.size; omega
      have HC := Lib.hid (fun W => mark_r (k + j * 2) ((k : Int) + (j : Int) * 2) (by omega) (by omega) (by omega) W)
      have HB := Lib.hid hb
      have hj1 : (j : Int) < (n : Int) := by omega
      clear hcell0 hcell1 hat hb ec
      generalize markT (k + j * 2) = y at s0 HC
      have ks := And.intro s0 s1
      go_wp2_with fail
      go_region_held3 (fun w' => w'.cell? ⟨g, o + j * 2, none⟩ = some (.string ⟨y.toArray⟩) ∧ w'.cell? ⟨g, o + j * 2 + 1, none⟩ = some (.int .i64 ((k : Int) + (j : Int) * 2 + 1))) (first | exact ks | exact k0)
        (first | (go_at_call 130; refine (HC.out _).mono ?_; rintro e w5 ⟨rfl, hb5⟩; have k0 := And.intro ((hb5.cell (p := ⟨g, o + j * 2, none⟩) hgw).trans ks.1) ((hb5.cell (p := ⟨g, o + j * 2 + 1, none⟩) hgw).trans ks.2)))
      have s1 := k0.2
      have HB5 := Lib.hid ((Below.drew HB.out).trans (hb5.mono HB.out.size))
      clear hb5 k0 ks
      go_wp2_with fail
      go_roundw
      case rel => exact ⟨j + 1, by omega, by go_num, by go_num, HB5.out⟩
      case measure => simp [intOf]; omega
    · obtain rfl : j = n := by omega
      have HB := Lib.hid hb
      clear hat hb
      go_wp2_with fail
      go_ret
      exact ⟨rfl, HB.out⟩

end Go.Proofs.YtcfhfhpdnjaokaaGreatDoor

/- Walks: the laws over a plan and lists whose answer is a list, given contracts of both programs. -/
namespace Go.Proofs.YtcfhfhpdnjaokaaGreatDoor
open Go.RowKit Pth

set_option maxRecDepth 20000 in
set_option maxHeartbeats 16000000 in
theorem exactBuildAll_of (ls : List (List Int)) (l : List Int) (bs : List Bool) (rs : List (List OpT)) (m1 : List (List UInt8)) (R : List ResT) (ok : Bool) (v u1 : Value) (w : World) (hst : PlanV w v ls l bs rs) (hx : ∀ l ∈ rs, ∀ f ∈ l, f.2.2.length ≤ maxLen) (hm1 : RowV w u1 (S m1)) (hx1 : ∀ x ∈ m1, x.length ≤ maxLen)
    (hL : R.length ≤ 1000000)
    (hsp : ∀ W u y1, PlanV W u ls l bs rs → RowV W y1 (S m1) → Calls Tryz.prog 16 #[u, y1] W (ResOk R ok W))
    (him : ∀ W u y1, PlanV W u ls l bs rs → RowV W y1 (S m1) → Calls Tryz.prog 15 #[u, y1] W (ResOk R ok W)) :
    Calls Tryz.prog 7 #[v, u1] w (YesW w) := by
  have HST := Lib.hid hst
  have HSP := Lib.hid hsp
  have HIM := Lib.hid him
  clear hsp him
  obtain ⟨nv, ov, sv, rv, rfl, h1, h2, h3, h4⟩ := hst
  obtain ⟨as0, cs, rfl, hs1, hs2, _⟩ := h3.boolsW
  obtain ⟨an, cn, rfl, hn1, hn2, _⟩ := h1.lists
  obtain ⟨ao, co, rfl, ho1, ho2, _⟩ := h2.ints
  obtain ⟨ar, cr, rfl, hr1, hr2, _⟩ := h4.lists
  clear h1 h2 h3 h4
  have HM1 := Lib.hid hm1
  have HX1 := Lib.hid hx1
  obtain ⟨ma1, mc1, rfl, hma1, hmb1, _⟩ := hm1.texts
  clear hm1 hx1
  unfold maxLen at hs2 hn2 ho2 hr2 hmb1
  obtain ⟨wa, hwa⟩ : ∃ wa, wa = w.alloc (.cells #[.slice an ls.length cn, .slice ao l.length co, .slice as0 bs.length cs, .slice ar rs.length cr] 76) := ⟨_, rfl⟩
  have hsz : wa.heap.size = w.heap.size + 1 := by rw [hwa]; simp
  have P0 : Hid (Blk4 wa w.heap.size 76 (.slice an ls.length cn) (.slice ao l.length co) (.slice as0 bs.length cs) (.slice ar rs.length cr)) := by rw [hwa]; exact Blk4.new
  have HA : Hid (Below w.heap.size w wa) := by rw [hwa]; exact (Below.refl w.heap.size w).alloc (Nat.le_refl _) _
  have hlt0 : w.heap.size < wa.heap.size := by omega
  obtain ⟨c0, c1, c2, c3⟩ := P0.out.cells
  have HWA := Lib.hid hwa
  have HS := Lib.hid (szPlan_any ls l bs rs 1048576 _ wa (HST.out.below HA.out) hx (by omega))
  have HPV : Hid (∀ W, Below wa.heap.size wa W → PlanV W (.agg #[.slice an ls.length cn, .slice ao l.length co, .slice as0 bs.length cs, .slice ar rs.length cr]) ls l bs rs) := fun W h => HST.out.below (bth HA.out h (Nat.le_refl _))
  have HMV1 : Hid (∀ W, Below wa.heap.size wa W → RowV W (.slice ma1 m1.length mc1) (S m1)) := fun W h => HM1.out.below (bth HA.out h (Nat.le_refl _))
  clear hwa hx
  go_enter Tryz.func7, Tryz.ntmps7
  go_wp2_with fail
  rw [← HWA.out]
  refine HS.out.mono ?_
  rintro e w1 ⟨r0, rfl, hle0, hr0, hb1⟩
  have K0 := Lib.hid hb1
  clear hb1 HS c0 c1 c2 c3
  by_cases h0 : r0 < 0
  · clear hr0 hle0
    go_wp2_with fail
    go_ret
    exact ⟨rfl, bth HA.out K0.out (Nat.le_refl _)⟩
  have hz : planZ ls l bs rs ≤ 1100000 := by have := hr0 (by omega); omega
  have hz2 : planZ ls l bs rs ≤ 2000000 := by omega
  obtain ⟨n0, rfl⟩ : ∃ n0 : Nat, r0 = n0 := ⟨r0.toNat, by omega⟩
  have hn0 : n0 ≤ 2000000 := by omega
  have HR0 : Hid (n0 + planZ ls l bs rs ≤ 1048576) := by have := hr0 (by omega); show _ ≤ _; omega
  clear hr0
  go_wp2_with fail
  refine (szStringS_le m1 n0 _ w1 (HMV1.out w1 K0.out) HX1.out hn0).mono ?_
  rintro e x1 ⟨r1, rfl, hle1, hr1, hw1⟩
  obtain rfl := hw1
  have KX1 := K0
  by_cases hc1 : r1 < 0
  · clear hr1
    go_wp2_with fail
    go_ret
    exact ⟨rfl, bth HA.out KX1.out (Nat.le_refl _)⟩
  have hml1 : m1.length ≤ 1100000 := by have := (hr1 (by omega)).1; omega
  obtain ⟨n1, rfl⟩ : ∃ n1 : Nat, r1 = n1 := ⟨r1.toNat, by omega⟩
  have hn1 : n1 ≤ 2000000 := by omega
  have HR1 : Hid (n1 + (planZ ls l bs rs + m1.length) ≤ 1048576) := by have := (hr1 (by omega)).1; have := HR0.out; show _ ≤ _; omega
  clear hr1
  obtain ⟨c0, c1, c2, c3⟩ := (P0.out.below KX1.out hlt0).cells
  have HTO := Lib.hid (fun W (hb : PlanV W _ ls l bs rs) => toPlan_any ls l bs rs (.agg #[.slice an ls.length cn, .slice ao l.length co, .slice as0 bs.length cs, .slice ar rs.length cr]) W hb hz2)
  have HTI1 := Lib.hid (fun W (hb : RowV W _ (S m1)) => toStringS_any m1 (.slice ma1 m1.length mc1) W hb (by omega))
  have HEI1 : Hid (∀ W x y, RowV W x (S m1) → RowV W y (S m1) → Calls Tryz.prog 59 #[x, y] W fun e w' => e = .returned (.bool true) ∧ Below W.heap.size W w') := fun W x y h1 h2 => by
    have := eqStringS_any m1 m1 x y W h1 h2 (by omega)
    rwa [decide_eq_true (rfl : m1 = m1)] at this
  have HE : Hid (∀ W x y, PlanV W x ls l bs rs → PlanV W y ls l bs rs → Calls Tryz.prog 58 #[x, y] W fun e w' => e = .returned (.bool true) ∧ Below W.heap.size W w') := fun W x y h1 h2 => eqPlan_same ls l bs rs x y W h1 h2 hz2
  have hne : (ok != ok) = false := by cases ok <;> rfl

  have HEQ : Hid (∀ W x y, RowR W x R → RowR W y R → Calls Tryz.prog 57 #[x, y] W fun e w' => e = .returned (.bool true) ∧ Below W.heap.size W w') := fun W x y h1 h2 => by
    have := eqResultS_any R R x y W h1 h2 (by omega)
    rwa [decide_eq_true (rfl : R = R)] at this
  have HMI : Hid (∀ B u W, World.ownsRow W B 41 2 u R.length (RC R) → Calls Tryz.prog 62 #[u, .int .i64 1] W fun e w' => e = .returned (.int .i64 ((1 : Int) + (R.length : Int) * 2)) ∧ w'.ownsRow B 41 2 u R.length (RC (marksR 1 R.length)) ∧ W.grownBy w' u.ownBlock) := fun B u W h => markResultS_any R 1 B u W h (by omega) (by omega) (by omega)
  have HHI : Hid (∀ u W, RowR W u (marksR 1 R.length) → Calls Tryz.prog 63 #[u, .int .i64 1] W fun e w' => e = .returned (.int .i64 ((1 : Int) + (R.length : Int) * 2)) ∧ Below W.heap.size W w') := fun u W h => heldResultS_any 1 R.length u W h (by omega) (by omega) (by omega)
  have hk2 : decide ((1 : Int) + (R.length : Int) * 2 < 0) = false := decide_eq_false (by omega)
  have hqq : ((1 : Int) + (R.length : Int) * 2 != (1 : Int) + (R.length : Int) * 2) = false := by simp
  have hz4 : planZ ls l bs rs ≤ 1048576 := by have := HR0.out; omega
  have HMG := Lib.hid (fun B u (W0 W : World) (h : PlanO B W0 u ls l bs rs) (hb : Below W0.heap.size W0 W) (hB : B ≤ W0.heap.size) => markPlan_any ls l bs rs B u W0 W h hb hB hz4)
  have hkk0 : (1 + markZ ls l bs rs) + 3 * (m1.length) ≤ 3500000 := by have := HR1.out; unfold markZ totalG; unfold planZ at this; omega
  generalize hkz : 1 + markZ ls l bs rs = k0 at HMG hkk0
  have hkz1 : 1 ≤ k0 := by omega
  clear hkz hz4
  have HMM1 := Lib.hid (fun B u (W : World) (h : W.ownsRow B 9 1 u m1.length (S m1)) => markStringS_any m1 k0 B u W h (by omega) (by omega) (by omega))
  obtain ⟨k1, hk1⟩ : ∃ k1 : Nat, k1 = k0 + m1.length := ⟨_, rfl⟩
  have ek1 : (k0 : Int) + (m1.length : Int) = (k1 : Int) := by omega
  have HEK1 := Lib.hid ek1
  have hk1 : decide ((k1 : Int) < 0) = false := decide_eq_false (by omega)
  clear hkk0 hk1 ek1
  -- the reference's answer
  go_wp2_with fail
  refine (HTO.out w1 (HPV.out w1 KX1.out)).mono ?_
  rintro e w2 ⟨v2, rfl, ho2', hb2⟩
  have K2 := Lib.hid (bth KX1.out hb2 (Nat.le_refl _))
  have HG2 := Lib.hid ho2'.view
  clear hb2 ho2' c0 c1 c2 c3
  go_wp2_with fail
  refine (HTI1.out w2 (HMV1.out w2 K2.out)).mono ?_
  rintro e p1 ⟨y1, rfl, hoy1, hbp1⟩
  have KP1 := Lib.hid (bth K2.out hbp1 (Nat.le_refl _))
  have HGP1 := Lib.hid (HG2.out.below hbp1)
  have HYP1_1 := Lib.hid (RowV.of_own hoy1)
  clear hoy1 hbp1
  go_wp2_with fail
  refine (HSP.out p1 v2 y1 HGP1.out HYP1_1.out).mono ?_
  rintro e w3 ⟨v3, rfl, hw3, hb3⟩
  have K3 := Lib.hid (bth KP1.out hb3 (Nat.le_refl _))
  have HW := Lib.hid hw3
  have sa3 := K3.out.size
  clear hb3 hw3
  obtain ⟨c0, c1, c2, c3⟩ := (P0.out.below K3.out hlt0).cells
  -- copies of the arguments
  go_wp2_with fail
  refine (HTO.out w3 (HPV.out w3 K3.out)).mono ?_
  rintro e w4 ⟨v4, rfl, ho4, hb4⟩
  have s34 := hb4.size
  have HO4 := Lib.hid ho4
  obtain ⟨bn, dn, bo, do', bb, db, br, dr, rfl⟩ := ho4.slices
  obtain ⟨wb, hwb⟩ : ∃ wb, wb = w4.alloc (.cells #[.slice bn ls.length dn, .slice bo l.length do', .slice bb bs.length db, .slice br rs.length dr] 30) := ⟨_, rfl⟩
  have X4 : Hid (Blk4 wb w4.heap.size 30 (.slice bn ls.length dn) (.slice bo l.length do') (.slice bb bs.length db) (.slice br rs.length dr)) := by rw [hwb]; exact Blk4.new
  have hAB : Below w4.heap.size w4 wb := by rw [hwb]; exact (Below.refl w4.heap.size w4).alloc (Nat.le_refl _) _
  have hsb : wb.heap.size = w4.heap.size + 1 := by rw [hwb]; simp
  have D4 := Lib.hid (Below.refl wb.heap.size wb)
  have A4 := Lib.hid (bth hb4 hAB (Nat.le_refl _))
  have E4 := Lib.hid hAB
  have KW4 := Lib.hid (bth (bth K3.out hb4 (Nat.le_refl _)) hAB (Nat.le_refl _))
  have HWB := Lib.hid hwb
  clear hb4 ho4 c0 c1 c2 c3 hwb hAB
  go_wp2_with fail
  rw [← HWB.out]

  refine (HTI1.out wb (HMV1.out wb KW4.out)).mono ?_
  rintro e q1 ⟨x1, rfl, hox1, hbq1⟩
  have sq1 := hbq1.size
  have EQ1 := Lib.hid (bth E4.out hbq1 (Nat.le_refl _))
  have DQ1 := Lib.hid (bth D4.out hbq1 (Nat.le_refl _))
  have AQ1 := Lib.hid (bth A4.out hbq1 (Nat.le_refl _))
  have KQ1 := Lib.hid (bth KW4.out hbq1 (Nat.le_refl _))
  have hxl1 : Hid (∀ b, x1.ownBlock = some b → wb.heap.size ≤ b ∧ b < q1.heap.size) := fun b h => hox1.lt b h
  have HX1_1 := Lib.hid hox1
  clear hox1 hbq1
  obtain ⟨x00, x01, x02, x03⟩ := (X4.out.below DQ1.out (by omega)).cells
  -- the program's answer
  go_wp2_with fail
  refine (HIM.out q1 _ x1 (HO4.out.view.below EQ1.out) (RowV.of_own HX1_1.out)).mono ?_
  rintro e w6 ⟨v6, rfl, hg6, hb6⟩
  have s6 := hb6.size
  have E6 := Lib.hid (bth EQ1.out hb6 (Nat.le_refl _))
  have D6 := Lib.hid (bth DQ1.out hb6 (Nat.le_refl _))
  have A6 := Lib.hid (bth AQ1.out hb6 (Nat.le_refl _))
  have K6 := Lib.hid (bth KQ1.out hb6 (Nat.le_refl _))
  have HX1_6 := Lib.hid (own_below HX1_1.out hb6)
  have HG6 := Lib.hid hg6
  obtain ⟨g1, e1, rfl⟩ := own_sliceG hg6
  obtain ⟨g3, e3, hv3⟩ := own_sliceG HW.out
  subst hv3
  clear hb6 x00 x01 x02 x03 hg6
  go_wp2_with fail
  refine (HEQ.out w6 _ _ (RowR.of_own HG6.out) (RowR.of_own (own_belowG HW.out A6.out))).mono ?_
  rintro e w7 ⟨rfl, hb7⟩
  have s7 := hb7.size
  have E7 := Lib.hid (bth E6.out hb7 (Nat.le_refl _))
  have D7 := Lib.hid (bth D6.out hb7 (Nat.le_refl _))
  have A7 := Lib.hid (bth A6.out hb7 (Nat.le_refl _))
  have K7 := Lib.hid (bth K6.out hb7 (Nat.le_refl _))
  have HG7 := Lib.hid (own_belowG HG6.out hb7)
  have HX1_7 := Lib.hid (own_below HX1_6.out hb7)
  clear hb7 HG6
  have hlt7 : w.heap.size < w7.heap.size := by omega
  have hlt8 : w4.heap.size < w7.heap.size := by omega
  have PD : Hid (Blk4 w7.drew w.heap.size 76 (.slice an ls.length cn) (.slice ao l.length co) (.slice as0 bs.length cs) (.slice ar rs.length cr)) := P0.out.below (Below.drew K7.out) hlt0
  have XD : Hid (Blk4 w7.drew w4.heap.size 30 (.slice bn ls.length dn) (.slice bo l.length do') (.slice bb bs.length db) (.slice br rs.length dr)) := X4.out.below (Below.drew D7.out) (by omega)
  have ks := And.intro PD.out.cells XD.out.cells
  have HX7 : Hid (PlanV w7.drew (.agg #[.slice bn ls.length dn, .slice bo l.length do', .slice bb bs.length db, .slice br rs.length dr]) ls l bs rs) := HO4.out.view.below (Below.drew E7.out)
  have HST7 : Hid (PlanV w7.drew (.agg #[.slice an ls.length cn, .slice ao l.length co, .slice as0 bs.length cs, .slice ar rs.length cr]) ls l bs rs) := HPV.out w7.drew (Below.drew K7.out)
  go_wp2_with fail
  -- the copy is as it was
  go_region_held3 (fun w' => (w'.cell? ⟨w.heap.size, 0, none⟩ = some (.slice an ls.length cn) ∧ w'.cell? ⟨w.heap.size, 1, none⟩ = some (.slice ao l.length co) ∧ w'.cell? ⟨w.heap.size, 2, none⟩ = some (.slice as0 bs.length cs) ∧ w'.cell? ⟨w.heap.size, 3, none⟩ = some (.slice ar rs.length cr)) ∧ (w'.cell? ⟨w4.heap.size, 0, none⟩ = some (.slice bn ls.length dn) ∧ w'.cell? ⟨w4.heap.size, 1, none⟩ = some (.slice bo l.length do') ∧ w'.cell? ⟨w4.heap.size, 2, none⟩ = some (.slice bb bs.length db) ∧ w'.cell? ⟨w4.heap.size, 3, none⟩ = some (.slice br rs.length dr))) (first | exact ks)
    (first
      | (go_at_call 55; refine (HTO.out _ (by exact HST7.out)).mono ?_; rintro e w7b ⟨v7, rfl, ho7, hb7⟩
         have ks := And.intro (PD.out.below hb7 hlt7).cells (XD.out.below hb7 hlt8).cells
         have HO7 := Lib.hid ho7.view
         have HXB := Lib.hid (PlanV.below (by exact HX7.out) hb7)
         have C7 := Lib.hid hb7
         clear ho7 hb7)
      | (go_at_call 58; refine (HE.out _ _ _ (by exact HXB.out) (by exact HO7.out)).mono ?_; rintro e w8 ⟨rfl, hb8⟩
         have C8 := Lib.hid (bth C7.out hb8 (Nat.le_refl _))
         have ks := And.intro (PD.out.below C8.out hlt7).cells (XD.out.below C8.out hlt8).cells
         clear hb8))
  all_goals
    have s8 : w7.heap.size ≤ w8.heap.size := C8.out.size
    have K8 := Lib.hid (bth (Below.drew K7.out) C8.out (Nat.le_refl _))
    have E8 := Lib.hid (bth (Below.drew E7.out) C8.out (Nat.le_refl _))
    have D8 := Lib.hid (bth (Below.drew D7.out) C8.out (Nat.le_refl _))
    have A8 := Lib.hid (bth (Below.drew A7.out) C8.out (Nat.le_refl _))
    have HG8 := Lib.hid (own_belowG (w := w7.drew) (show w7.drew.ownsRow q1.heap.size 41 2 _ _ _ from HG7.out) C8.out)
    have HX1_8 := Lib.hid (own_below (w := w7.drew) (show w7.drew.ownsRow wb.heap.size 9 1 _ _ _ from HX1_7.out) C8.out)
    clear ks PD XD HX7 HST7 HO7 HXB C7 C8 HG7
    go_wp2_with fail
    refine (HTI1.out w8 (HMV1.out w8 K8.out)).mono ?_
    rintro e r1 ⟨z1, rfl, hoz1, hbr1⟩
    have sr1 := hbr1.size
    have KR1 := Lib.hid (bth K8.out hbr1 (Nat.le_refl _))
    have ER1 := Lib.hid (bth E8.out hbr1 (Nat.le_refl _))
    have DR1 := Lib.hid (bth D8.out hbr1 (Nat.le_refl _))
    have AR1 := Lib.hid (bth A8.out hbr1 (Nat.le_refl _))
    have HGR1 := Lib.hid (own_belowG HG8.out hbr1)
    have HX1_R1 := Lib.hid (own_below HX1_8.out hbr1)
    have HZ1 := Lib.hid (RowV.of_own hoz1)
    clear hoz1 hbr1
    go_wp2_with fail
    refine (HEI1.out r1 _ _ (RowV.of_own HX1_R1.out) HZ1.out).mono ?_
    rintro e s1 ⟨rfl, hbs1⟩
    have ss1 := hbs1.size
    have KS1 := Lib.hid (bth KR1.out hbs1 (Nat.le_refl _))
    have ES1 := Lib.hid (bth ER1.out hbs1 (Nat.le_refl _))
    have DS1 := Lib.hid (bth DR1.out hbs1 (Nat.le_refl _))
    have AS1 := Lib.hid (bth AR1.out hbs1 (Nat.le_refl _))
    have HGS1 := Lib.hid (own_belowG HGR1.out hbs1)
    have HX1_S1 := Lib.hid (own_below HX1_R1.out hbs1)
    clear hbs1 HZ1
    obtain ⟨y0, y1', y2, y3⟩ := (X4.out.below DS1.out (by omega)).cells
    -- marks in the copies
    go_wp2_with fail
    refine (HMG.out w3.heap.size _ w4 s1 HO4.out ES1.out s34).mono ?_
    rintro e w9 ⟨rfl, hg9⟩
    have s9 := hg9.below.size
    have A9 := Lib.hid (AS1.out.trans hg9.below)
    have K9 := Lib.hid (KS1.out.trans (hg9.below.mono sa3))
    have HG9 := Lib.hid (hg9.own HGS1.out (by omega))
    have HX1_9 := Lib.hid (hg9.own HX1_S1.out (by omega))
    clear hg9 y0 y1' y2 y3
    go_wp2_with fail
    refine (HMM1.out wb.heap.size _ w9 HX1_9.out).mono ?_
    rintro e t1 ⟨rfl, _, hgt1⟩
    have st1 := hgt1.size
    have hbt1 := below_ownG HX1_9.out hgt1 (by omega)
    have AT1 := Lib.hid (A9.out.trans (hbt1.mono (by omega)))
    have KT1 := Lib.hid (K9.out.trans (hbt1.mono (by omega)))
    have HGT1 := Lib.hid (own_apartG HG9.out hgt1 (fun b h1 h2 => by have := (hxl1.out b h1).2; have := (HG9.out.lt b h2).1; omega))
    clear hgt1 hbt1
    rw [HEK1.out]
    go_wp2_with fail
    refine (HEQ.out t1 _ _ (RowR.of_own HGT1.out) (RowR.of_own (own_belowG HW.out AT1.out))).mono ?_
    rintro e w10 ⟨rfl, hb10⟩
    have s10 := hb10.size
    have A10 := Lib.hid (bth AT1.out hb10 (Nat.le_refl _))
    have K10 := Lib.hid (bth KT1.out hb10 (Nat.le_refl _))
    have HG10 := Lib.hid (own_belowG HGT1.out hb10)
    clear hb10
    -- marks in the answer
    go_wp2_with fail
    refine (HMI.out q1.heap.size _ w10 HG10.out).mono ?_
    rintro e w11 ⟨rfl, ho11, hg11⟩
    have hbb := below_ownG HG10.out hg11 (by omega)
    have s11 := hg11.size
    have A11 := Lib.hid (A10.out.trans (hbb.mono (by omega)))
    have K11 := Lib.hid (K10.out.trans (hbb.mono (by omega)))
    have HM11 := Lib.hid ho11
    clear ho11 hg11 hbb HG10
    go_wp2_with fail
    refine (HHI.out _ w11 (by exact heldRow_R HM11.out)).mono ?_
    rintro e w12 ⟨rfl, hb12⟩
    have A12 := Lib.hid (bth A11.out hb12 (Nat.le_refl _))
    have K12 := Lib.hid (bth K11.out hb12 (Nat.le_refl _))
    have HM12 := Lib.hid (own_belowG HM11.out hb12)
    clear hb12 HM11
    obtain ⟨c0, c1, c2, c3⟩ := (P0.out.below K12.out hlt0).cells
    -- asked again
    go_wp2_with fail
    refine (HTO.out w12 (HPV.out w12 K12.out)).mono ?_
    rintro e w13 ⟨v13, rfl, ho13, hb13⟩
    have A13 := Lib.hid (bth A12.out hb13 (Nat.le_refl _))
    have K13 := Lib.hid (bth K12.out hb13 (Nat.le_refl _))
    have HM13 := Lib.hid (own_belowG HM12.out hb13)
    have HGZ0 := Lib.hid ho13.view
    clear hb13 ho13 c0 c1 c2 c3 HM12
    go_wp2_with fail
    refine (HTI1.out w13 (HMV1.out w13 K13.out)).mono ?_
    rintro e z1 ⟨yz1, rfl, hoz1, hbz1⟩
    have AZ1 := Lib.hid (bth A13.out hbz1 (Nat.le_refl _))
    have KZ1 := Lib.hid (bth K13.out hbz1 (Nat.le_refl _))
    have HMZ1 := Lib.hid (own_belowG HM13.out hbz1)
    have HGZ1 := Lib.hid (HGZ0.out.below hbz1)
    have HYZ1_1 := Lib.hid (RowV.of_own hoz1)
    clear hoz1 hbz1
    go_wp2_with fail
    refine (HIM.out z1 v13 yz1 HGZ1.out HYZ1_1.out).mono ?_
    rintro e w14 ⟨v14, rfl, ho14, hb14⟩
    have A14 := Lib.hid (bth AZ1.out hb14 (Nat.le_refl _))
    have K14 := Lib.hid (bth KZ1.out hb14 (Nat.le_refl _))
    have HM14 := Lib.hid (own_belowG HMZ1.out hb14)
    have HV14 := Lib.hid (RowR.of_own ho14)
    obtain ⟨g14, e14, rfl⟩ := own_sliceG ho14
    clear hb14 ho14
    go_wp2_with fail
    refine (HEQ.out w14 _ _ HV14.out (RowR.of_own (own_belowG HW.out A14.out))).mono ?_
    rintro e w15 ⟨rfl, hb15⟩
    have K15 := Lib.hid (bth K14.out hb15 (Nat.le_refl _))
    have HM15 := Lib.hid (own_belowG HM14.out hb15)
    clear hb15 HM14 HV14
    go_wp2_with fail
    refine (HHI.out _ w15 (by exact heldRow_R HM15.out)).mono ?_
    rintro e w16 ⟨rfl, hb16⟩
    have K16 := Lib.hid (bth K15.out hb16 (Nat.le_refl _))
    clear hb16
    go_wp2_with fail
    go_ret
    exact ⟨rfl, bth HA.out K16.out (Nat.le_refl _)⟩

end Go.Proofs.YtcfhfhpdnjaokaaGreatDoor

/- Walks: builds, of the reference and of the program. -/
namespace Go.Proofs.YtcfhfhpdnjaokaaGreatDoor
open Go.RowKit Pth

theorem RC_set2 (m : List ResT) (y : Nat) (hy : y < m.length) (r : ResT) : ((RC m).set (y * 2) (.string ⟨r.1.toArray⟩)).set (y * 2 + 1) (.int .i64 r.2) = RC (m.set y r) := by
  have e : m = m.take y ++ m[y] :: m.drop (y + 1) := by rw [← List.drop_eq_getElem_cons hy, List.take_append_drop]
  have hl : (m.take y).length = y := by rw [List.length_take]; omega
  have h := set_two (m.take y) y hl m[y] (m.drop (y + 1)) r
  have e2 : m.set y r = m.take y ++ r :: m.drop (y + 1) := by
    rw [List.set_eq_take_append_cons_drop, if_pos hy]
  rw [e2]
  conv => lhs; rw [e]
  rw [RC_append, h, RC_append, RC_append, List.append_assoc]; rfl
/-- A result that is stored in a row of the call's own. -/
theorem own_setR {w : World} {B g c n y : Nat} {m : List ResT} (h : w.ownsRow B 41 2 (.slice (some ⟨g, 0, none⟩) n c) n (RC m)) (hy : y < m.length) (r : ResT) :
    ((w.setCell ⟨g, y * 2, none⟩ (.string ⟨r.1.toArray⟩)).setCell ⟨g, y * 2 + 1, none⟩ (.int .i64 r.2)).ownsRow B 41 2 (.slice (some ⟨g, 0, none⟩) n c) n (RC (m.set y r)) ∧
    w.grownBy ((w.setCell ⟨g, y * 2, none⟩ (.string ⟨r.1.toArray⟩)).setCell ⟨g, y * 2 + 1, none⟩ (.int .i64 r.2)) (some g) := by
  have h1 := h.stored (y * 2) (.string ⟨r.1.toArray⟩)
  have h2 := h1.1.stored (y * 2 + 1) (.int .i64 r.2)
  rw [RC_set2 m y hy r] at h2
  exact ⟨h2.1, grown_trans h1.2 h2.2⟩
/-- The cells of a result in a row of the call's own. -/
theorem own_atR {w : World} {B g c n y : Nat} {m : List ResT} (h : w.ownsRow B 41 2 (.slice (some ⟨g, 0, none⟩) n c) n (RC m)) (hm : m.length = n) (hy : y < m.length) :
    w.cell? ⟨g, y * 2, none⟩ = some (.string ⟨m[y].1.toArray⟩) ∧ w.cell? ⟨g, y * 2 + 1, none⟩ = some (.int .i64 m[y].2) ∧ w.frozen? ⟨g, y * 2, none⟩ = false ∧ w.frozen? ⟨g, y * 2 + 1, none⟩ = false := by
  obtain ⟨q0, q1⟩ := RC_at hy
  exact ⟨by rw [h.cellAt (y * 2) (by omega), q0], by rw [h.cellAt (y * 2 + 1) (by omega), q1], h.frozenAt _, h.frozenAt _⟩
theorem RowR.of_ownL {w : World} {B n : Nat} {v : Value} {l : List ResT} (h : w.ownsRow B 41 2 v n (RC l)) (hl : l.length = n) : RowR w v l := RowR.of_own (by rw [hl]; exact h)
theorem build_short (ls : List (List Int)) (l : List Int) (bs : List Bool) (rs : List (List OpT)) (ts : List (List UInt8)) : (buildA ls l bs rs ts).length ≤ 1000000 := by
  unfold buildA
  split
  · rename_i h
    have h1 := (src_parts h).1
    have h2 := (plan_parts h1).2.1
    have h3 := (plan_parts h1).1.high
    unfold buildM
    rw [pass_len]
    simp
    omega
  · simp
theorem none_ownR (w : World) (B : Nat) : w.ownsRow B 41 2 (.slice none 0 0) ([] : List ResT).length (RC []) := ⟨rfl, .inl ⟨rfl, rfl⟩⟩

set_option maxRecDepth 20000 in
set_option maxHeartbeats 8000000 in
theorem specBuild_any (ls : List (List Int)) (l : List Int) (bs : List Bool) (rs : List (List OpT)) (ts : List (List UInt8)) (v x : Value) (w : World) (hp : PlanV w v ls l bs rs) (hts : RowV w x (S ts)) (hsrc : srcA ls l bs rs ts = true) :
    Calls Tryz.prog 74 #[v, x] w fun e w' => ∃ v', e = .returned v' ∧ w'.ownsRow w.heap.size 41 2 v' bs.length (RC (buildM ls l bs rs ts)) ∧ Below w.heap.size w w' := by
  have hpl := (src_parts hsrc).1
  have htb := (src_parts hsrc).2.1
  have hbl := (plan_parts hpl).2.1
  have hG := (plan_parts hpl).1
  have hlo := hG.same
  have hhi := hG.high
  have hxt := src_len hsrc
  have HV := Lib.hid hp
  obtain ⟨nv, ov, sv, rv, rfl, h1, h2, h3, h4⟩ := hp
  obtain ⟨as0, cs, rfl, hs1, hs2, hats⟩ := h3.boolsW
  obtain ⟨an, cn, rfl, hn1, hn2, _⟩ := h1.lists
  obtain ⟨ao, co, rfl, ho1, ho2, hato⟩ := h2.ints
  obtain ⟨ar, cr, rfl, hr1, hr2, _⟩ := h4.lists
  clear h1 h2 h3 h4
  have HT := Lib.hid hts
  obtain ⟨at0, ct, rfl, ht1, ht2, hatt⟩ := hts.texts
  clear hts
  unfold maxLen at hs2 hn2 ho2 hr2 ht2
  obtain ⟨wa, hwa⟩ : ∃ wa, wa = w.alloc (.cells #[.slice an ls.length cn, .slice ao l.length co, .slice as0 bs.length cs, .slice ar rs.length cr] 30) := ⟨_, rfl⟩
  have hsz : w.heap.size < wa.heap.size := by rw [hwa]; simp
  have P0 : Hid (Blk4 wa w.heap.size 30 (.slice an ls.length cn) (.slice ao l.length co) (.slice as0 bs.length cs) (.slice ar rs.length cr)) := by rw [hwa]; exact Blk4.new
  have HA : Hid (Below w.heap.size w wa) := by rw [hwa]; exact (Below.refl w.heap.size w).alloc (Nat.le_refl _) _
  have HWA : Hid (w.alloc (.cells #[.slice an ls.length cn, .slice ao l.length co, .slice as0 bs.length cs, .slice ar rs.length cr] 30) = wa) := by rw [hwa]; rfl
  clear hwa
  have HATO := Lib.hid hato
  have HATS := Lib.hid hats
  have HATT : Hid (RowV w (.slice at0 ts.length ct) (S ts)) := HT
  have HIN : Hid (∀ k (hk : k < l.length), 0 ≤ l[k] ∧ l[k] < (ls.length : Int)) := fun k hk => by have := hG.tasks _ (List.getElem_mem hk); omega
  obtain ⟨MK, hMK⟩ : ∃ MK : Nat → List ResT, MK = fun k => (passM (oneM ls bs rs ts) (fun _ _ => true) (l.take k) (List.replicate bs.length noRes, [])).1 := ⟨_, rfl⟩
  have HML : Hid (∀ k, (MK k).length = bs.length) := fun k => by rw [hMK]; simp only; rw [pass_len]; simp
  have HMS : Hid (∀ k, Sml (MK k)) := fun k => by rw [hMK]; exact pass_sml _ _ (fun _ _ => oneM_len hxt) _ _ (sml_none _)
  have HMN : Hid (∀ k (hk : k < l.length), MK (k + 1) = (MK k).set l[k].toNat (oneM ls bs rs ts (MK k) l[k].toNat)) := fun k hk => by rw [hMK]; exact build_next hk _
  have HM0 : Hid (MK 0 = List.replicate bs.length noRes) := by rw [hMK]; rfl
  have HMZ : Hid (MK l.length = buildM ls l bs rs ts) := by rw [hMK]; show _ = _; simp only [List.take_length]; rfl
  rw [← HMZ.out]
  have HBL := Lib.hid hbl
  have HXT := Lib.hid hxt
  have HTB := Lib.hid htb
  have hbn : bs.length ≤ 10 := by omega
  have hts2 : (ts.length : Int) = (bs.length : Int) := by omega
  obtain ⟨w0, hmk0, hown0, hb0⟩ := make_rowR bs.length wa (by omega)
  have hmk : (Instr.makeSlice 34 (.int .i64 (bs.length : Int)) (.int .i64 (bs.length : Int))).run Tryz.prog (w.alloc (.cells #[.slice an ls.length cn, .slice ao l.length co, .slice as0 bs.length cs, .slice ar rs.length cr] 30)) = .ok (.slice (some ⟨wa.heap.size, 0, none⟩) bs.length bs.length) w0 := by rw [HWA.out]; exact hmk0
  have HN0 := Lib.hid hown0
  have HB0 := Lib.hid hb0
  have HC : Hid (∀ W M z (y : Nat), Below w.heap.size w W → RowR W z M → M.length = bs.length → Sml M → y < ls.length → Calls Tryz.prog 91 #[.agg #[.slice an ls.length cn, .slice ao l.length co, .slice as0 bs.length cs, .slice ar rs.length cr], z, .int .i64 (y : Int)] W fun e w' => e = .returned (resV (makeM ls rs M y)) ∧ Below W.heap.size W w') := fun W M z y h1 h2 h3 h4 h5 => specMake_any ls l bs rs M y _ _ W (HV.out.below h1) h2 hpl h3 h5 h4
  obtain ⟨c0, c1, c2, c3⟩ := (P0.out.below HB0.out hsz).cells
  clear hown0 hb0 hmk0 hMK hpl hG hlo hhi hxt hsrc hbl htb hato hats hatt
  go_enter Tryz.func74, Tryz.ntmps74
  go_wp2_with fail
  clear hmk hts2 c0 c1 c2 c3
  go_loopw [15] (fun i wr => ∃ k : Nat, k ≤ l.length ∧ i = .int .i64 k ∧ Hid (Below wa.heap.size wa wr) ∧ Hid (wr.ownsRow wa.heap.size 41 2 (.slice (some ⟨wa.heap.size, 0, none⟩) bs.length bs.length) bs.length (RC (MK k)))) (fun i _ => l.length - (intOf i).toNat)
  case atStart => exact ⟨0, Nat.zero_le _, rfl, HB0, by rw [HM0.out]; exact HN0⟩
  case round =>
    clear HN0 HB0
    obtain ⟨k, hk, rfl, HB, HN⟩ := hrel
    have HBW := Lib.hid (bth HA.out HB.out (Nat.le_refl _))
    by_cases hlt : k < l.length
    · obtain ⟨g, o, rfl, hg, hcell0⟩ := HATO.out k hlt
      have hcell := (HBW.out.cell (p := ⟨g, o + k, none⟩) hg).trans hcell0
      obtain ⟨hx0, hx1⟩ := HIN.out k hlt
      have hnext := HMN.out k hlt
      obtain ⟨y, hy⟩ : ∃ y : Nat, l[k] = y := ⟨(l[k]).toNat, by omega⟩
      have hyl : y < ls.length := by omega
      have hyb : y < bs.length := by have := HBL.out; omega
      rw [hy, Int.toNat_natCast] at hnext
      rw [hy] at hcell
      have hml := HML.out k
      have hms := HMS.out k
      have HNX := Lib.hid hnext
      clear hcell0 hx0 hx1 hy HATO HIN HMN hnext
      obtain ⟨gs, os, rfl, hgs, hcs⟩ := HATS.out y hyb
      have hsc := (HBW.out.cell (p := ⟨gs, os + y, none⟩) hgs).trans hcs
      obtain ⟨_, _, hev, _, _, hatt⟩ := HATT.out.texts
      injection hev with hea _ hec
      subst hea hec
      have hyt : y < ts.length := by have := HTB.out; omega
      obtain ⟨gt, ot, rfl, hgt, hct⟩ := hatt y hyt
      have htc := (HBW.out.cell (p := ⟨gt, ot + y, none⟩) hgt).trans hct
      have hyz : (y : Int) < (bs.length : Int) := by omega
      have hyt2 : (y : Int) < (ts.length : Int) := by omega
      have HCK := Lib.hid (HC.out wr (MK k) _ y HBW.out (RowR.of_ownL HN.out hml) hml hms hyl)
      have hone : oneM ls bs rs ts (MK k) y = if bs[y] then (ts[y], 0) else makeM ls rs (MK k) y := by unfold oneM; rw [getD_at _ hyb, getD_at _ hyt]
      rw [hone] at HNX
      obtain ⟨c0, c1, c2, c3⟩ := (P0.out.below HB.out hsz).cells
      clear hgs hcs hatt hgt hct hone HC HATS HATT
      generalize MK k = M at *
      generalize bs[y] = b at *
      generalize ts[y] = tx at *
      generalize makeM ls rs M y = R at *
      obtain ⟨r1, r2⟩ := R
      have hgd : y < M.length := by omega
      obtain ⟨d0, d1, f0, f1⟩ := own_atR HN.out hml hgd
      generalize M[y].1 = z1 at d0
      generalize M[y].2 = z2 at d1
      unfold resV at HCK
      simp only at HCK
      rcases b with _ | _
      · simp only [Bool.false_eq_true, if_false] at HNX
        clear d0 d1 f0 f1 htc hyt2
        go_wp2_with fail
        refine HCK.out.mono ?_
        rintro e w1 ⟨rfl, hb1⟩
        clear c0 c1 c2 c3 HCK hsc hcell
        have HN1 := Lib.hid (own_belowG HN.out hb1)
        have HB1 := Lib.hid (bth HB.out hb1 (Nat.le_refl _))
        obtain ⟨d0, d1, f0, f1⟩ := own_atR HN1.out hml (by omega : y < M.length)
        have hst := own_setR HN1.out (by omega : y < M.length) (r1, r2)
        rw [← HNX.out] at hst
        have HN2 := Lib.hid hst.1
        have HB2 := Lib.hid (HB1.out.trans (only_below hst.2 (Nat.le_refl _) HB1.out.size))
        clear hst hb1 HN HN1 HNX
        go_wp2_with fail
        go_roundw
        case rel => exact ⟨k + 1, by omega, by go_num, HB2, HN2⟩
        case measure => simp [intOf]; omega
      · simp only [if_true] at HNX
        have hst := own_setR HN.out hgd (tx, 0)
        rw [← HNX.out] at hst
        have HN2 := Lib.hid hst.1
        have HB2 := Lib.hid (HB.out.trans (only_below hst.2 (Nat.le_refl _) HB.out.size))
        clear hst HN HNX HCK
        go_wp2_with fail
        go_roundw
        case rel => exact ⟨k + 1, by omega, by go_num, HB2, HN2⟩
        case measure => simp [intOf]; omega
    · obtain rfl : k = l.length := by omega
      clear HATO HATS HATT HIN HMN HC
      go_wp2_with fail
      go_ret
      exact ⟨_, rfl, own_baseG HN.out HA.out.size, HBW.out⟩

set_option maxRecDepth 20000 in
set_option maxHeartbeats 8000000 in
theorem specBuildAll_any (ls : List (List Int)) (l : List Int) (bs : List Bool) (rs : List (List OpT)) (ts : List (List UInt8)) (v x : Value) (w : World) (hp : PlanV w v ls l bs rs) (hts : RowV w x (S ts)) (hx : ∀ l ∈ rs, ∀ f ∈ l, f.2.2.length ≤ maxLen) (hxt : ∀ x ∈ ts, x.length ≤ maxLen) :
    Calls Tryz.prog 16 #[v, x] w (ResOk (buildA ls l bs rs ts) (srcA ls l bs rs ts) w) := by
  have HV := Lib.hid hp
  obtain ⟨nv, ov, sv, rv, rfl, h1, h2, h3, h4⟩ := hp
  obtain ⟨as0, cs, rfl, hs1, hs2, _⟩ := h3.boolsW
  obtain ⟨an, cn, rfl, hn1, hn2, _⟩ := h1.lists
  obtain ⟨ao, co, rfl, ho1, ho2, _⟩ := h2.ints
  obtain ⟨ar, cr, rfl, hr1, hr2, _⟩ := h4.lists
  clear h1 h2 h3 h4
  have HT := Lib.hid hts
  obtain ⟨at0, ct, rfl, ht1, ht2, _⟩ := hts.texts
  clear hts
  unfold maxLen at hs2 hn2 ho2 hr2 ht2
  obtain ⟨wa, hwa⟩ : ∃ wa, wa = w.alloc (.cells #[.slice an ls.length cn, .slice ao l.length co, .slice as0 bs.length cs, .slice ar rs.length cr] 30) := ⟨_, rfl⟩
  have hsz : w.heap.size < wa.heap.size := by rw [hwa]; simp
  have P0 : Hid (Blk4 wa w.heap.size 30 (.slice an ls.length cn) (.slice ao l.length co) (.slice as0 bs.length cs) (.slice ar rs.length cr)) := by rw [hwa]; exact Blk4.new
  have HA : Hid (Below w.heap.size w wa) := by rw [hwa]; exact (Below.refl w.heap.size w).alloc (Nat.le_refl _) _
  have HWA : Hid (w.alloc (.cells #[.slice an ls.length cn, .slice ao l.length co, .slice as0 bs.length cs, .slice ar rs.length cr] 30) = wa) := by rw [hwa]; rfl
  clear hwa
  have HS := Lib.hid (specSrc_any ls l bs rs ts _ _ wa (HV.out.below HA.out) (HT.out.below HA.out) hx hxt)
  have HC := Lib.hid (fun W (h : Below w.heap.size w W) (hs : srcA ls l bs rs ts = true) => specBuild_any ls l bs rs ts _ _ W (HV.out.below h) (HT.out.below h) hs)
  obtain ⟨b, hb⟩ : ∃ b, srcA ls l bs rs ts = b := ⟨_, rfl⟩
  rw [hb] at HS HC ⊢
  have HBD : Hid (b = true → (buildM ls l bs rs ts).length = bs.length) := fun _ => by unfold buildM; rw [pass_len]; simp
  obtain ⟨R, hR⟩ : ∃ R, buildA ls l bs rs ts = R := ⟨_, rfl⟩
  have HR0 : Hid (b = false → R = []) := fun h => by rw [← hR]; unfold buildA; rw [hb, h]; rfl
  have HR1 : Hid (b = true → R = buildM ls l bs rs ts) := fun h => by rw [← hR]; unfold buildA; rw [hb, h]; rfl
  rw [hR]
  obtain ⟨c0, c1, c2, c3⟩ := P0.out.cells
  clear hb hR hx hxt
  go_enter Tryz.func16, Tryz.ntmps16
  go_wp2_with fail
  rw [HWA.out]
  refine HS.out.mono ?_
  rintro e w1 ⟨rfl, hb1⟩
  have HB1 := Lib.hid hb1
  have HW1 := Lib.hid (bth HA.out hb1 (Nat.le_refl _))
  clear hb1 c0 c1 c2 c3 HS
  rcases b with _ | _
  · go_wp2_with fail
    go_ret2
    exact ⟨_, rfl, by rw [HR0.out (by first | rfl | trivial)]; exact none_ownR _ _, HW1.out⟩
  · obtain ⟨c0, c1, c2, c3⟩ := (P0.out.below HB1.out hsz).cells
    go_wp2_with fail
    refine (HC.out w1 HW1.out (by first | rfl | trivial)).mono ?_
    rintro e w2 ⟨v2, rfl, ho2, hb2⟩
    have HO2 := Lib.hid ho2
    have HW2 := Lib.hid (bth HW1.out hb2 (Nat.le_refl _))
    have hs1 := HW1.out.size
    obtain ⟨q1, q2, rfl⟩ := own_sliceG ho2
    clear hb2 ho2 c0 c1 c2 c3
    go_wp2_with fail
    go_ret2
    exact ⟨_, rfl, by rw [HR1.out (by first | rfl | trivial), HBD.out (by first | rfl | trivial)]; exact own_baseG HO2.out hs1, HW2.out⟩

set_option maxRecDepth 20000 in
set_option maxHeartbeats 8000000 in
theorem implBuildAll_any (ls : List (List Int)) (l : List Int) (bs : List Bool) (rs : List (List OpT)) (ts : List (List UInt8)) (v x : Value) (w : World) (hp : PlanV w v ls l bs rs) (hts : RowV w x (S ts)) (hx : ∀ l ∈ rs, ∀ f ∈ l, f.2.2.length ≤ maxLen) (hxt0 : ∀ x ∈ ts, x.length ≤ maxLen) :
    Calls Tryz.prog 15 #[v, x] w (ResOk (buildA ls l bs rs ts) (srcA ls l bs rs ts) w) := by
  have HV := Lib.hid hp
  obtain ⟨nv, ov, sv, rv, rfl, h1, h2, h3, h4⟩ := hp
  obtain ⟨as0, cs, rfl, hs1, hs2, _⟩ := h3.boolsW
  obtain ⟨an, cn, rfl, hn1, hn2, _⟩ := h1.lists
  obtain ⟨ao, co, rfl, ho1, ho2, hato⟩ := h2.ints
  obtain ⟨ar, cr, rfl, hr1, hr2, _⟩ := h4.lists
  clear h1 h2 h3 h4
  have HT := Lib.hid hts
  obtain ⟨at0, ct, rfl, ht1, ht2, _⟩ := hts.texts
  clear hts
  unfold maxLen at hs2 hn2 ho2 hr2 ht2
  obtain ⟨wa, hwa⟩ : ∃ wa, wa = w.alloc (.cells #[.slice an ls.length cn, .slice ao l.length co, .slice as0 bs.length cs, .slice ar rs.length cr] 30) := ⟨_, rfl⟩
  have hsz : w.heap.size < wa.heap.size := by rw [hwa]; simp
  have P0 : Hid (Blk4 wa w.heap.size 30 (.slice an ls.length cn) (.slice ao l.length co) (.slice as0 bs.length cs) (.slice ar rs.length cr)) := by rw [hwa]; exact Blk4.new
  have HA : Hid (Below w.heap.size w wa) := by rw [hwa]; exact (Below.refl w.heap.size w).alloc (Nat.le_refl _) _
  have HWA : Hid (w.alloc (.cells #[.slice an ls.length cn, .slice ao l.length co, .slice as0 bs.length cs, .slice ar rs.length cr] 30) = wa) := by rw [hwa]; rfl
  clear hwa
  have HS := Lib.hid (implSrc_any ls l bs rs ts _ _ wa (HV.out.below HA.out) (HT.out.below HA.out) hx hxt0)
  obtain ⟨b, hb⟩ : ∃ b, srcA ls l bs rs ts = b := ⟨_, rfl⟩
  rcases b with _ | _
  · have HE : Hid (buildA ls l bs rs ts = []) := by show _ = _; unfold buildA; rw [hb]; rfl
    rw [HE.out]
    rw [hb] at HS ⊢
    obtain ⟨c0, c1, c2, c3⟩ := P0.out.cells
    clear hb HE hx hxt0 hato
    go_enter Tryz.func15, Tryz.ntmps15
    go_wp2_with fail
    rw [HWA.out]
    refine HS.out.mono ?_
    rintro e w1 ⟨rfl, hb1⟩
    have HW1 := Lib.hid (bth HA.out hb1 (Nat.le_refl _))
    clear hb1 c0 c1 c2 c3 HS
    go_wp2_with fail
    go_ret2
    exact ⟨_, rfl, none_ownR _ _, HW1.out⟩
  have HE : Hid (buildA ls l bs rs ts = buildM ls l bs rs ts) := by show _ = _; unfold buildA; rw [hb]; rfl
  rw [HE.out]
  have hsrc := hb
  rw [hb] at HS ⊢
  have hpl := (src_parts hsrc).1
  have htb := (src_parts hsrc).2.1
  have hbl := (plan_parts hpl).2.1
  have hG := (plan_parts hpl).1
  have hlo := hG.same
  have hhi := hG.high
  have hxt := src_len hsrc
  have HIN : Hid (∀ k (hk : k < l.length), 0 ≤ l[k] ∧ l[k] < (ls.length : Int)) := fun k hk => by have := hG.tasks _ (List.getElem_mem hk); omega
  obtain ⟨MK, hMK⟩ : ∃ MK : Nat → List ResT, MK = fun k => (passM (oneM ls bs rs ts) (fun _ _ => true) (l.take k) (List.replicate bs.length noRes, [])).1 := ⟨_, rfl⟩
  have HML : Hid (∀ k, (MK k).length = bs.length) := fun k => by rw [hMK]; simp only; rw [pass_len]; simp
  have HMS : Hid (∀ k, Sml (MK k)) := fun k => by rw [hMK]; exact pass_sml _ _ (fun _ _ => oneM_len hxt) _ _ (sml_none _)
  have HMN : Hid (∀ k (hk : k < l.length), MK (k + 1) = (MK k).set l[k].toNat (oneM ls bs rs ts (MK k) l[k].toNat)) := fun k hk => by rw [hMK]; exact build_next hk _
  have HM0 : Hid (MK 0 = List.replicate bs.length noRes) := by rw [hMK]; rfl
  have HMZ : Hid (MK l.length = buildM ls l bs rs ts) := by rw [hMK]; show _ = _; simp only [List.take_length]; rfl
  rw [← HMZ.out]
  have HATO := Lib.hid hato
  have HBL := Lib.hid hbl
  have HTB := Lib.hid htb
  have hbn : bs.length ≤ 10 := by omega
  have HC : Hid (∀ W M z (y : Nat), Below w.heap.size w W → RowR W z M → M.length = bs.length → Sml M → y < ls.length → Calls Tryz.prog 72 #[.agg #[.slice an ls.length cn, .slice ao l.length co, .slice as0 bs.length cs, .slice ar rs.length cr], .slice at0 ts.length ct, z, .int .i64 (y : Int)] W fun e w' => e = .returned (resV (oneM ls bs rs ts M y)) ∧ Below W.heap.size W w') := fun W M z y h1 h2 h3 h4 h5 => implOne_any ls l bs rs M ts y _ _ _ W (HV.out.below h1) h2 (HT.out.below h1) hpl h3 htb h5 h4 hxt
  obtain ⟨c0, c1, c2, c3⟩ := P0.out.cells
  clear hMK hpl hG hlo hhi hxt hsrc hbl htb hato hb HE hx hxt0
  go_enter Tryz.func15, Tryz.ntmps15
  go_wp2_with fail
  rw [HWA.out]
  refine HS.out.mono ?_
  rintro e w1 ⟨rfl, hb1⟩
  have KB1 := Lib.hid hb1
  have sz1 := hb1.size
  obtain ⟨w0, hmk0, hown0, hb0⟩ := make_rowR bs.length w1 (by omega)
  have hmk : (Instr.makeSlice 34 (.int .i64 (ts.length : Int)) (.int .i64 (ts.length : Int))).run Tryz.prog w1 = .ok (.slice (some ⟨w1.heap.size, 0, none⟩) bs.length bs.length) w0 := by rw [HTB.out]; exact hmk0
  have HN0 := Lib.hid (own_baseG hown0 sz1)
  have HB0 := Lib.hid (bth KB1.out hb0 (Nat.le_refl _))
  clear c0 c1 c2 c3 HS hown0 hb0 hb1 hmk0
  obtain ⟨c0, c1, c2, c3⟩ := (P0.out.below HB0.out hsz).cells
  go_wp2_with fail
  clear hmk c0 c1 c2 c3
  go_loopw [20] (fun i wr => ∃ k : Nat, k ≤ l.length ∧ i = .int .i64 k ∧ Hid (Below wa.heap.size wa wr) ∧ Hid (wr.ownsRow wa.heap.size 41 2 (.slice (some ⟨w1.heap.size, 0, none⟩) bs.length bs.length) bs.length (RC (MK k)))) (fun i _ => l.length - (intOf i).toNat)
  case atStart => exact ⟨0, Nat.zero_le _, rfl, HB0, by rw [HM0.out]; exact HN0⟩
  case round =>
    clear HN0 HB0
    obtain ⟨k, hk, rfl, HB, HN⟩ := hrel
    have HBW := Lib.hid (bth HA.out HB.out (Nat.le_refl _))
    by_cases hlt : k < l.length
    · obtain ⟨g, o, rfl, hg, hcell0⟩ := HATO.out k hlt
      have hcell := (HBW.out.cell (p := ⟨g, o + k, none⟩) hg).trans hcell0
      obtain ⟨hx0, hx1⟩ := HIN.out k hlt
      have hnext := HMN.out k hlt
      obtain ⟨y, hy⟩ : ∃ y : Nat, l[k] = y := ⟨(l[k]).toNat, by omega⟩
      have hyl : y < ls.length := by omega
      have hyb : y < bs.length := by have := HBL.out; omega
      rw [hy, Int.toNat_natCast] at hnext
      rw [hy] at hcell
      have hml := HML.out k
      have hms := HMS.out k
      have HNX := Lib.hid hnext
      clear hcell0 hx0 hx1 hy HATO HIN HMN hnext
      have HCK := Lib.hid (HC.out wr (MK k) _ y HBW.out (RowR.of_ownL HN.out hml) hml hms hyl)
      have hyz : (y : Int) < (bs.length : Int) := by omega
      obtain ⟨c0, c1, c2, c3⟩ := (P0.out.below HB.out hsz).cells
      clear HC
      generalize MK k = M at *
      generalize oneM ls bs rs ts M y = R at *
      obtain ⟨r1, r2⟩ := R
      have hgd : y < M.length := by omega
      unfold resV at HCK
      simp only at HCK
      go_wp2_with fail
      refine HCK.out.mono ?_
      rintro e w2 ⟨rfl, hb1⟩
      clear c0 c1 c2 c3 HCK hcell
      have HN1 := Lib.hid (own_belowG HN.out hb1)
      have HB1 := Lib.hid (bth HB.out hb1 (Nat.le_refl _))
      obtain ⟨d0, d1, f0, f1⟩ := own_atR HN1.out hml (by omega : y < M.length)
      have hst := own_setR HN1.out (by omega : y < M.length) (r1, r2)
      rw [← HNX.out] at hst
      have HN2 := Lib.hid hst.1
      have HB2 := Lib.hid (HB1.out.trans (only_below hst.2 sz1 HB1.out.size))
      clear hst hb1 HN HN1 HNX
      generalize M[y].1 = z1 at d0
      generalize M[y].2 = z2 at d1
      go_wp2_with fail
      go_roundw
      case rel => exact ⟨k + 1, by omega, by go_num, HB2, HN2⟩
      case measure => simp [intOf]; omega
    · obtain rfl : k = l.length := by omega
      clear HATO HIN HMN HC
      go_wp2_with fail
      go_ret2
      exact ⟨_, rfl, by rw [HML.out]; exact own_baseG HN.out HA.out.size, HBW.out⟩

end Go.Proofs.YtcfhfhpdnjaokaaGreatDoor
