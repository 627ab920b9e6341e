/- Texts of one claim, joined in their order. -/
import Derived.Test.YtnkkbleebfijgaaM4
import Derived.Test.YtnkkbleebfijgaaM7
import Derived.Test.YtnkkbleebfijgaaM6
import Derived.Test.YtnkkbleebfijgaaM1
import Derived.Test.YtnkkbleebfijgaaM5

/- Walks: the laws' marks in plans. -/
namespace Go.Proofs.Ytnkkbleebfijgaa
open Go.RowKit Pth

/-- Only blocks between two have turned, whatever they hold. -/
structure OnlyB (B C : Nat) (w w' : World) : Prop where
  below : Below B w w'
  above : ∀ i, C ≤ i → i < w.heap.size → w'.heap[i]? = w.heap[i]?
theorem OnlyB.trans {B C : Nat} {a b c : World} (h : OnlyB B C a b) (k : OnlyB B C b c) : OnlyB B C a c :=
  ⟨h.below.trans k.below, fun i hi hl => (k.above i hi (Nat.lt_of_lt_of_le hl h.below.size)).trans (h.above i hi hl)⟩
theorem OnlyB.of_below {B C : Nat} {w w' : World} (h : Below w.heap.size w w') (hB : B ≤ w.heap.size) : OnlyB B C w w' := ⟨h.mono hB, fun i _ hl => h.block i hl⟩
theorem OnlyB.of_only {B C : Nat} {w w' : World} (h : OnlyIn B C w w') : OnlyB B C w w' := ⟨h.below, h.above⟩
theorem OnlyB.of_grown {B C : Nat} {w w' : World} {r : Option Nat} (h : w.grownBy w' r) (hr : ∀ i, r = some i → B ≤ i ∧ i < C) (hB : B ≤ w.heap.size) : OnlyB B C w w' := by
  refine ⟨⟨h.os, h.tape, h.output, h.size, fun i hi => h.block i (by omega) (fun e => by have := (hr i e.symm).1; omega)⟩, fun i hi hl => h.block i hl (fun e => by have := (hr i e.symm).2; omega)⟩
theorem OnlyB.own {B C D e n z : Nat} {w w' : World} {v : Value} {xs : List Value} (hg : OnlyB B C w w') (h : w.ownsRow D e z v n xs) (hD : C ≤ D) : w'.ownsRow D e z v n xs := by
  refine ⟨h.1, ?_⟩
  rcases h.2 with h0 | ⟨g, cap, cur, hv, hB, hh, r⟩
  · exact .inl h0
  · exact .inr ⟨g, cap, cur, hv, hB, (hg.above g (by omega) (lt_of_block hh)).trans hh, r⟩
theorem OnlyB.blk4 {B C b t : Nat} {w w' : World} {x y z u : Value} (hg : OnlyB B C w w') (h : Blk4 w b t x y z u) (hb : C ≤ b) : Blk4 w' b t x y z u := (hg.above b hb (lt_of_block h)).trans h
theorem own_kept {B C D e n z : Nat} {w w' : World} {v : Value} {xs : List Value} (hg : OnlyIn B C w w') (he : e ≠ 3) (h : w.ownsRow D e z v n xs) : w'.ownsRow D e z v n xs := by
  refine ⟨h.1, ?_⟩
  rcases h.2 with h0 | ⟨g, cap, cur, hv, hB, hh, r⟩
  · exact .inl h0
  · exact .inr ⟨g, cap, cur, hv, hB, (hg.kept g _ e he hh).trans hh, r⟩

theorem BL_set (m : List Bool) (j : Nat) (b : Bool) : (BL m).set j (.bool b) = BL (m.set j b) := by simp [BL, List.map_set]

set_option maxRecDepth 20000 in
set_option maxHeartbeats 1000000 in
theorem markBoolS_any (l : List Bool) (k : Nat) (B : Nat) (v : Value) (w : World) (hown : w.ownsRow B 4 1 v l.length (BL l)) (hl : l.length ≤ 1100000) (hk : k ≤ 4000000) :
    Calls Try.prog 85 #[v, .int .i64 (k : Int)] w fun e w' => e = .returned (.int .i64 ((k + l.length : Nat) : Int)) ∧ w.grownBy w' v.ownBlock := by
  have HW := Lib.hid hown
  obtain ⟨a, cap, rfl⟩ := own_slice hown
  clear hown
  go_enter Try.func85, Try.ntmps85
  go_wp2_with fail
  go_loopw [1, 5] (fun q i wr => ∃ (j : Nat) (m : List Bool), j ≤ l.length ∧ m.length = l.length ∧ q = .int .i64 ((k + j : Nat) : Int) ∧ i = .int .i64 j ∧ wr.ownsRow B 4 1 (.slice a l.length cap) l.length (BL m) ∧ w.grownBy wr (Value.slice a l.length cap).ownBlock) (fun _ i _ => l.length - (intOf i).toNat)
  case atStart => exact ⟨0, l, Nat.zero_le _, rfl, rfl, rfl, HW.out, grown_refl _ _⟩
  case round =>
    clear HW
    obtain ⟨j, m, hj, hm, rfl, rfl, hown, hg⟩ := hrel
    have HM := Lib.hid hm
    by_cases hlt : j < l.length
    · obtain ⟨g, c2, hv⟩ : ∃ g c2, (Value.slice a l.length cap) = .slice (some ⟨g, 0, none⟩) l.length c2 := by
        rcases hown.2 with ⟨_, h0⟩ | ⟨g, c2, cur, hv, _⟩
        · omega
        · exact ⟨g, c2, hv⟩
      injection hv with hv1 hv2 hv3
      subst hv1
      have hc4 : l.length ≤ cap := by
        rcases hown.2 with ⟨_, h0⟩ | ⟨g, c2, cur, hv, _, _, h5, _⟩
        · omega
        · injection hv with _ _ hv3; omega
      have hfz := hown.frozenAt j
      have hcz : wr.cell? ⟨g, j, none⟩ = some (.bool (m[j]'(by omega))) := by
        rw [hown.cellAt j (by omega)]
        rw [List.getElem?_eq_getElem (by rw [BL_len]; omega), BL_get (by omega)]
      have HST := Lib.hid (fun b => hown.stored j (.bool b))
      have HG := Lib.hid hg
      generalize m[j]'(by omega) = y at hcz
      have HKJ := Lib.hid (show ((k + (j + 1) : Nat) : Int) = ((k + j : Nat) : Int) + 1 by omega)
      generalize hkj : k + j = kj at *
      have hkj2 : kj ≤ 5200000 := by omega
      clear hown hg hv2 hv3 hm
      clear hkj
      go_wp2_with fail
      go_roundw
      case rel => exact ⟨j + 1, m.set j ((kj : Int) % 3 == 0), by omega, by rw [List.length_set]; exact HM.out, by rw [HKJ.out], by go_num, by rw [← BL_set]; exact (HST.out _).1, grown_trans HG.out (HST.out _).2⟩
      case measure => simp [intOf]; omega
    · obtain rfl : j = l.length := by omega
      have HG := Lib.hid hg
      clear hown hg hm
      go_wp2_with fail
      go_ret
      exact ⟨rfl, HG.out⟩

theorem totalO3 {rs : List (List OpT)} {j : Nat} (hj : j < rs.length) (k : Nat) : ((k + 3 * totalO (rs.take (j + 1)) : Nat) : Int) = ((k + 3 * totalO (rs.take j) : Nat) : Int) + (rs[j].length : Int) * 3 := by
  rw [totalO_next hj]; omega

set_option maxRecDepth 20000 in
set_option maxHeartbeats 2000000 in
theorem markOpSS_any (rs : List (List OpT)) (k B C : Nat) (v : Value) (sl : List Value) (w : World) (hown : OwnOO B w v sl rs) (hC : ∀ p ∈ sl.zip rs, ∀ b, p.1.ownBlock = some b → b < C) (hB : B ≤ w.heap.size) (hl : rs.length + totalO rs ≤ 1100000) (hk : k + 3 * totalO rs ≤ 4000000) (hk1 : 1 ≤ k) :
    Calls Try.prog 86 #[v, .int .i64 (k : Int)] w fun e w' => e = .returned (.int .i64 ((k + 3 * totalO rs : Nat) : Int)) ∧ OnlyB B C w w' := by
  obtain ⟨hs, hrow, hL⟩ := hown
  have HW := Lib.hid hrow
  have HL0 := Lib.hid hL
  have HC := Lib.hid hC
  have HS := Lib.hid hs
  obtain ⟨a, cap, rfl⟩ := own_slice hrow
  clear hrow hL hC hs
  go_enter Try.func86, Try.ntmps86
  go_wp2_with fail
  go_loopw [1, 5] (fun q i wr => ∃ j : Nat, j ≤ rs.length ∧ q = .int .i64 ((k + 3 * totalO (rs.take j) : Nat) : Int) ∧ i = .int .i64 j ∧ Hid (wr.ownsRow B 85 1 (.slice a rs.length cap) rs.length sl) ∧ Hid (ListsO B wr ((sl.zip rs).drop j)) ∧ Hid (OnlyB B C w wr)) (fun _ i _ => rs.length - (intOf i).toNat)
  case atStart => exact ⟨0, Nat.zero_le _, by simp [totalO], rfl, HW, by simpa [Hid] using HL0.out, ⟨Below.refl _ _, fun _ _ _ => rfl⟩⟩
  case round =>
    clear HW HL0
    obtain ⟨j, hj, rfl, rfl, HN, HL, HG⟩ := hrel
    by_cases hlt : j < rs.length
    · have hjs : j < sl.length := by have := HS.out; omega
      have hz : j < (sl.zip rs).length := by rw [List.length_zip]; omega
      have hdr : (sl.zip rs).drop j = (sl[j], rs[j]) :: (sl.zip rs).drop (j + 1) := by rw [List.drop_eq_getElem_cons hz, List.getElem_zip]
      have hl1 := HL.out
      rw [hdr] at hl1
      obtain ⟨ho, hp⟩ := hl1
      rw [List.pairwise_cons] at hp
      have hone := ho (sl[j], rs[j]) (by simp)
      simp only at hone
      obtain ⟨g, c2, hv⟩ : ∃ g c2, (Value.slice a rs.length cap) = .slice (some ⟨g, 0, none⟩) rs.length c2 := by
        rcases HN.out.2 with ⟨_, h0⟩ | ⟨g, c2, cur, hv, _⟩
        · omega
        · exact ⟨g, c2, hv⟩
      injection hv with hv1 hv2 hv3
      subst hv1
      have hc4 : rs.length ≤ cap := by
        rcases HN.out.2 with ⟨_, h0⟩ | ⟨g, c2, cur, hv, _, _, h5, _⟩
        · omega
        · injection hv with _ _ hv3; omega
      have hcell : wr.cell? ⟨g, j, none⟩ = some sl[j] := by rw [HN.out.cellAt j (by omega), List.getElem?_eq_getElem hjs]
      obtain ⟨a2, c3, hsv⟩ := own_sliceG hone
      have hmem : (sl[j], rs[j]) ∈ sl.zip rs := zip_getO hjs hlt
      have hbw : B ≤ wr.heap.size := Nat.le_trans hB HG.out.below.size
      have ht1 := totalO_at hlt
      have ht2 := totalO_le (rs := rs) (k := j + 1)
      have ht3 := totalO_next hlt
      have HC1 := Lib.hid (markOpS_any rs[j] (k + 3 * totalO (rs.take j)) B sl[j] wr hone (by omega) (by omega) (by omega))
      have HT := Lib.hid (totalO3 hlt k)
      have HNX : Hid (∀ w1, wr.grownBy w1 (sl[j]).ownBlock → w1.ownsRow B 85 1 (.slice (some ⟨g, 0, none⟩) rs.length cap) rs.length sl ∧ ListsO B w1 ((sl.zip rs).drop (j + 1)) ∧ OnlyB B C w w1) := fun w1 hg => by
        refine ⟨own_apartG HN.out hg (own_typesG hone HN.out (by decide)), ⟨fun p hp' => ?_, hp.2⟩, HG.out.trans (OnlyB.of_grown hg (fun i hi => ⟨(hone.lt i hi).1, HC.out _ hmem i hi⟩) hbw)⟩
        exact own_apartG (ho p (by simp [hp'])) hg (fun b h1 h2 => hp.1 p hp' b h1 h2)
      rw [hsv] at hcell HC1 HNX
      clear hdr ho hp hone hmem ht1 ht2 ht3 hv2 hv3 HN HL HG hz
      generalize k + 3 * totalO (rs.take j) = kq at *
      generalize rs[j].length = nj at *
      go_wp2_with fail
      refine HC1.out.mono ?_
      rintro e w1 ⟨rfl, hg1⟩
      have HF := Lib.hid (HNX.out w1 hg1)
      clear hg1 HC1 HNX
      go_wp2_with fail
      go_roundw
      case rel => exact ⟨j + 1, by omega, by rw [HT.out], by go_num, HF.out.1, HF.out.2.1, HF.out.2.2⟩
      case measure => simp [intOf]; omega
    · have e1 : rs.take j = rs := List.take_of_length_le (by omega)
      rw [e1]
      clear HN HL
      go_wp2_with fail
      go_ret
      exact ⟨rfl, HG.out⟩

/-- How many marks a plan takes. -/
def markZ (ls : List (List Int)) (l : List Int) (bs : List Bool) (rs : List (List OpT)) : Nat := totalG ls l + bs.length + 3 * totalO rs
theorem OwnOO.kept {B C D : Nat} {w w' : World} {v : Value} {sl : List Value} {rs : List (List OpT)} (h : OwnOO B w v sl rs) (hg : OnlyIn D C w w') : OwnOO B w' v sl rs :=
  ⟨h.1, own_kept hg (by decide) h.2.1, fun p hp => own_kept hg (by decide) (h.2.2.1 p hp), h.2.2.2⟩
theorem OwnOO.grown {B B' e z n : Nat} {w w' : World} {v u : Value} {xs : List Value} {sl : List Value} {rs : List (List OpT)} (h : OwnOO B w v sl rs) (ho : w.ownsRow B' e z u n xs) (h1 : e ≠ 85) (h2 : e ≠ 117) (hg : w.grownBy w' u.ownBlock) : OwnOO B w' v sl rs :=
  ⟨h.1, own_apartG h.2.1 hg (own_typesG ho h.2.1 h1), h.2.2.outer ho h2 hg⟩

set_option maxRecDepth 20000 in
set_option maxHeartbeats 4000000 in
theorem markPlan_any (ls : List (List Int)) (l : List Int) (bs : List Bool) (rs : List (List OpT)) (B : Nat) (v : Value) (w0 w : World) (h0 : PlanO B w0 v ls l bs rs) (hb0 : Below w0.heap.size w0 w) (hB : B ≤ w0.heap.size) (hz : planZ ls l bs rs ≤ 1048576) :
    Calls Try.prog 39 #[v, .int .i64 1] w fun e w' => e = .returned (.int .i64 ((1 + markZ ls l bs rs : Nat) : Int)) ∧ OnlyB B w0.heap.size w w' := by
  obtain ⟨nv, ov, sv, rv, so, rfl, hg, hb, hr⟩ := h0
  unfold planZ at hz
  obtain ⟨an, cn, ao, co, he⟩ := hg.slices
  simp only [Value.agg.injEq, Array.mk.injEq, List.cons.injEq, and_true] at he
  obtain ⟨rfl, rfl⟩ := he
  obtain ⟨as0, cs, rfl⟩ := own_slice hb
  obtain ⟨ar, cr, rfl⟩ := own_slice hr.2.1
  obtain ⟨wa, hwa⟩ : ∃ wa, wa = w.alloc (.cells #[.slice an ls.length cn, .slice ao l.length co, .slice as0 bs.length cs, .slice ar rs.length cr] 44) := ⟨_, rfl⟩
  have P0 : Hid (Blk4 wa w.heap.size 44 (.slice an ls.length cn) (.slice ao l.length co) (.slice as0 bs.length cs) (.slice ar rs.length cr)) := by rw [hwa]; exact Blk4.new
  have hAw : Below w.heap.size w wa := by rw [hwa]; exact (Below.refl w.heap.size w).alloc (Nat.le_refl _) _
  have HA := Lib.hid hAw
  have H0A := Lib.hid (bth hb0 hAw (Nat.le_refl _))
  have hCw : w0.heap.size ≤ w.heap.size := hb0.size
  have HBO := Lib.hid (own_below hb H0A.out)
  have HRO := Lib.hid (hr.below H0A.out)
  have HRL := Lib.hid (fun p hp b h => ((hr.2.2.1 p hp).lt b h).2)
  have HBL := Lib.hid (fun b h => hb.lt b h)
  have HC := Lib.hid (markGraph_any ls l 1 B _ w0 wa hg H0A.out hB (by omega) (by omega))
  have hone : ((1 : Nat) : Int) = 1 := rfl
  rw [hone] at HC
  have htg : totalG ls l ≤ 1048576 := by unfold totalG; omega
  have HWA := Lib.hid hwa
  have HZ : Hid (1 + markZ ls l bs rs = 1 + totalG ls l + bs.length + 3 * totalO rs) := by show _ = _; unfold markZ; omega
  have HZ2 : Hid (1 + totalG ls l + bs.length + 3 * totalO rs ≤ 4000000 ∧ rs.length + totalO rs ≤ 1100000 ∧ bs.length ≤ 1100000) := ⟨by unfold totalG; omega, by omega, by omega⟩
  clear hwa hg hb hr hb0 hone hz
  go_enter Try.func39, Try.ntmps39
  go_wp2_with fail
  rw [← HWA.out]
  refine HC.out.mono ?_
  rintro e w1 ⟨rfl, _, hoi⟩
  have O1 := Lib.hid (OnlyB.of_only hoi)
  have P1 := Lib.hid (O1.out.blk4 P0.out hCw)
  have HB1 := Lib.hid (own_kept hoi (by decide) HBO.out)
  have HR1 := Lib.hid (HRO.out.kept hoi)
  have hs1 : w0.heap.size ≤ w1.heap.size := Nat.le_trans hCw (Nat.le_trans HA.out.size hoi.below.size)
  have HC1 := Lib.hid (markBoolS_any bs (1 + totalG ls l) B _ w1 HB1.out HZ2.out.2.2 (by omega))
  have c2 := P1.out.cells.2.2.1
  clear hoi HC
  go_wp2_with fail
  refine HC1.out.mono ?_
  rintro e w2 ⟨rfl, hg2⟩
  have O2 := Lib.hid (O1.out.trans (OnlyB.of_grown (B := B) (C := w0.heap.size) hg2 (fun i hi => HBL.out i hi) (Nat.le_trans hB hs1)))
  have P2 := Lib.hid ((OnlyB.of_grown (B := B) (C := w0.heap.size) hg2 (fun i hi => HBL.out i hi) (Nat.le_trans hB hs1)).blk4 P1.out hCw)
  have HR2 := Lib.hid (HR1.out.grown HB1.out (by decide) (by decide) hg2)
  have hs2 : w0.heap.size ≤ w2.heap.size := Nat.le_trans hs1 hg2.size
  have HC2 := Lib.hid (markOpSS_any rs (1 + totalG ls l + bs.length) B w0.heap.size _ so w2 HR2.out HRL.out (Nat.le_trans hB hs2) HZ2.out.2.1 HZ2.out.1 (by omega))
  have c3 := P2.out.cells.2.2.2
  clear hg2 HC1 c2
  go_wp2_with fail
  refine HC2.out.mono ?_
  rintro e w3 ⟨rfl, hg3⟩
  have O3 := Lib.hid ((OnlyB.of_below (B := B) (C := w0.heap.size) HA.out (Nat.le_trans hB hCw)).trans (O2.out.trans hg3))
  clear hg3 HC2 c3
  go_wp2_with fail
  go_ret
  exact ⟨by rw [HZ.out] <;> rfl, O3.out⟩
end Go.Proofs.Ytnkkbleebfijgaa

/- Walks: the law that what goes into a task is told alike, given contracts of both programs. -/
namespace Go.Proofs.Ytnkkbleebfijgaa
open Go.RowKit Pth

set_option maxRecDepth 20000 in
set_option maxHeartbeats 16000000 in
theorem exactInputsOf_of (ls : List (List Int)) (l : List Int) (bs : List Bool) (rs : List (List OpT)) (m1 : List ResT) (t : Int) (R : List (List UInt8)) (ok : Bool) (v u1 : Value) (w : World) (hst : PlanV w v ls l bs rs) (hx : ∀ l ∈ rs, ∀ f ∈ l, f.2.2.length ≤ maxLen) (hm1 : RowR w u1 m1) (hx1 : ∀ f ∈ m1, f.1.length ≤ maxLen)
    (hL : R.length ≤ 1000000)
    (hsp : ∀ W u y1, PlanV W u ls l bs rs → RowR W y1 m1 → Calls Try.prog 37 #[u, y1, .int .i64 t] W (TextsOk R ok W))
    (him : ∀ W u y1, PlanV W u ls l bs rs → RowR W y1 m1 → Calls Try.prog 38 #[u, y1, .int .i64 t] W (TextsOk R ok W)) :
    Calls Try.prog 8 #[v, u1, .int .i64 t] w (YesW w) := by
  have HST := Lib.hid hst
  have HSP := Lib.hid hsp
  have HIM := Lib.hid him
  clear hsp him
  obtain ⟨nv, ov, sv, rv, rfl, h1, h2, h3, h4⟩ := hst
  obtain ⟨as0, cs, rfl, hs1, hs2, _⟩ := h3.boolsW
  obtain ⟨an, cn, rfl, hn1, hn2, _⟩ := h1.lists
  obtain ⟨ao, co, rfl, ho1, ho2, _⟩ := h2.ints
  obtain ⟨ar, cr, rfl, hr1, hr2, _⟩ := h4.lists
  clear h1 h2 h3 h4
  have HM1 := Lib.hid hm1
  have HX1 := Lib.hid hx1
  obtain ⟨ma1, mc1, rfl, hma1, hmb1, _⟩ := hm1.res
  clear hm1 hx1
  unfold maxLen at hs2 hn2 ho2 hr2 hmb1
  obtain ⟨wa, hwa⟩ : ∃ wa, wa = w.alloc (.cells #[.slice an ls.length cn, .slice ao l.length co, .slice as0 bs.length cs, .slice ar rs.length cr] 39) := ⟨_, rfl⟩
  have hsz : wa.heap.size = w.heap.size + 1 := by rw [hwa]; simp
  have P0 : Hid (Blk4 wa w.heap.size 39 (.slice an ls.length cn) (.slice ao l.length co) (.slice as0 bs.length cs) (.slice ar rs.length cr)) := by rw [hwa]; exact Blk4.new
  have HA : Hid (Below w.heap.size w wa) := by rw [hwa]; exact (Below.refl w.heap.size w).alloc (Nat.le_refl _) _
  have hlt0 : w.heap.size < wa.heap.size := by omega
  obtain ⟨c0, c1, c2, c3⟩ := P0.out.cells
  have HWA := Lib.hid hwa
  have HS := Lib.hid (szPlan_any ls l bs rs 1048576 _ wa (HST.out.below HA.out) hx (by omega))
  have HPV : Hid (∀ W, Below wa.heap.size wa W → PlanV W (.agg #[.slice an ls.length cn, .slice ao l.length co, .slice as0 bs.length cs, .slice ar rs.length cr]) ls l bs rs) := fun W h => HST.out.below (bth HA.out h (Nat.le_refl _))
  have HMV1 : Hid (∀ W, Below wa.heap.size wa W → RowR W (.slice ma1 m1.length mc1) m1) := fun W h => HM1.out.below (bth HA.out h (Nat.le_refl _))
  clear hwa hx
  go_enter Try.func8, Try.ntmps8
  go_wp2_with fail
  rw [← HWA.out]
  refine HS.out.mono ?_
  rintro e w1 ⟨r0, rfl, hle0, hr0, hb1⟩
  have K0 := Lib.hid hb1
  clear hb1 HS c0 c1 c2 c3
  by_cases h0 : r0 < 0
  · clear hr0 hle0
    go_wp2_with fail
    go_ret
    exact ⟨rfl, bth HA.out K0.out (Nat.le_refl _)⟩
  have hz : planZ ls l bs rs ≤ 1100000 := by have := hr0 (by omega); omega
  have hz2 : planZ ls l bs rs ≤ 2000000 := by omega
  obtain ⟨n0, rfl⟩ : ∃ n0 : Nat, r0 = n0 := ⟨r0.toNat, by omega⟩
  have hn0 : n0 ≤ 2000000 := by omega
  have HR0 : Hid (n0 + planZ ls l bs rs ≤ 1048576) := by have := hr0 (by omega); show _ ≤ _; omega
  clear hr0
  go_wp2_with fail
  refine (szResultS_any m1 n0 _ w1 (HMV1.out w1 K0.out) HX1.out hn0).mono ?_
  rintro e x1 ⟨r1, rfl, hle1, hr1, hb1⟩
  have KX1 := Lib.hid (bth K0.out hb1 (Nat.le_refl _))
  clear hb1
  by_cases hc1 : r1 < 0
  · clear hr1
    go_wp2_with fail
    go_ret
    exact ⟨rfl, bth HA.out KX1.out (Nat.le_refl _)⟩
  have hml1 : m1.length ≤ 1100000 := by have := (hr1 (by omega)).1; omega
  have HZM : Hid (planZ ls l bs rs + m1.length ≤ 1048576) := by have := (hr1 (by omega)).1; have := HR0.out; show _ ≤ _; omega
  clear hr1
  obtain ⟨c0, c1, c2, c3⟩ := (P0.out.below KX1.out hlt0).cells
  have HTO := Lib.hid (fun W (hb : PlanV W _ ls l bs rs) => toPlan_any ls l bs rs (.agg #[.slice an ls.length cn, .slice ao l.length co, .slice as0 bs.length cs, .slice ar rs.length cr]) W hb hz2)
  have HTI1 := Lib.hid (fun W (hb : RowR W _ m1) => toResultS_any m1 (.slice ma1 m1.length mc1) W hb (by omega))
  have HEI1 : Hid (∀ W x y, RowR W x m1 → RowR W y m1 → Calls Try.prog 33 #[x, y] W fun e w' => e = .returned (.bool true) ∧ Below W.heap.size W w') := fun W x y h1 h2 => by
    have := eqResultS_any m1 m1 x y W h1 h2 (by omega)
    rwa [decide_eq_true (rfl : m1 = m1)] at this
  have HE : Hid (∀ W x y, PlanV W x ls l bs rs → PlanV W y ls l bs rs → Calls Try.prog 23 #[x, y] W fun e w' => e = .returned (.bool true) ∧ Below W.heap.size W w') := fun W x y h1 h2 => eqPlan_same ls l bs rs x y W h1 h2 hz2
  have hne : (ok != ok) = false := by cases ok <;> rfl
  have hz3 : planZ ls l bs rs + m1.length ≤ 1048576 := HZM
  have hz4 : planZ ls l bs rs ≤ 1048576 := by omega
  have HEQ : Hid (∀ W x y, RowV W x (S R) → RowV W y (S R) → Calls Try.prog 28 #[x, y] W fun e w' => e = .returned (.bool true) ∧ Below W.heap.size W w') := fun W x y h1 h2 => by
    have := eqStringS_any R R x y W h1 h2 (by omega)
    rwa [decide_eq_true (rfl : R = R)] at this
  have HMI : Hid (∀ B u W, World.ownsRow W B 9 1 u R.length (S R) → Calls Try.prog 40 #[u, .int .i64 1] W fun e w' => e = .returned (.int .i64 (1 + (R.length : Int))) ∧ w'.ownsRow B 9 1 u R.length (S (marksT 1 R.length)) ∧ W.grownBy w' u.ownBlock) := fun B u W h => markStringS_any R 1 B u W h (by omega) (by omega) (by omega)
  have HHI : Hid (∀ u W, RowV W u (S (marksT 1 R.length)) → Calls Try.prog 41 #[u, .int .i64 1] W fun e w' => e = .returned (.int .i64 (1 + (R.length : Int))) ∧ Below W.heap.size W w') := fun u W h => heldStringS_any 1 R.length u W h (by omega) (by omega) (by omega)
  have hk2 : decide ((1 : Int) + (R.length : Int) < 0) = false := decide_eq_false (by omega)
  have hqq : ((1 : Int) + (R.length : Int) != (1 : Int) + (R.length : Int)) = false := by simp
  have HMG := Lib.hid (fun B u (W0 W : World) (h : PlanO B W0 u ls l bs rs) (hb : Below W0.heap.size W0 W) (hB : B ≤ W0.heap.size) => markPlan_any ls l bs rs B u W0 W h hb hB hz4)
  have hmz : markZ ls l bs rs ≤ 3500000 := by unfold markZ totalG; unfold planZ at hz3; omega
  generalize hkz : 1 + markZ ls l bs rs = kz at HMG
  have hkz1 : 1 ≤ kz := by omega
  have hkz2 : kz ≤ 3600000 := by omega
  clear hkz hmz hz3 hz4
  have HMM := Lib.hid (fun B u (W : World) (h : W.ownsRow B 96 2 u m1.length (RC m1)) => markResultS_any m1 kz B u W h (by omega) (by omega) hkz1)
  have hk1 : decide ((kz : Int) + (m1.length : Int) * 2 < 0) = false := decide_eq_false (by omega)
  -- the reference's answer
  go_wp2_with fail
  refine (HTO.out x1 (HPV.out x1 KX1.out)).mono ?_
  rintro e w2 ⟨v2, rfl, ho2', hb2⟩
  have K2 := Lib.hid (bth KX1.out hb2 (Nat.le_refl _))
  have HG2 := Lib.hid ho2'.view
  clear hb2 ho2' c0 c1 c2 c3
  go_wp2_with fail
  refine (HTI1.out w2 (HMV1.out w2 K2.out)).mono ?_
  rintro e p1 ⟨y1, rfl, hoy1, hbp1⟩
  have KP1 := Lib.hid (bth K2.out hbp1 (Nat.le_refl _))
  have HGP1 := Lib.hid (HG2.out.below hbp1)
  have HYP1_1 := Lib.hid (RowR.of_own hoy1)
  clear hoy1 hbp1
  go_wp2_with fail
  refine (HSP.out p1 v2 y1 HGP1.out HYP1_1.out).mono ?_
  rintro e w3 ⟨v3, rfl, hw3, hb3⟩
  have K3 := Lib.hid (bth KP1.out hb3 (Nat.le_refl _))
  have HW := Lib.hid hw3
  have sa3 := K3.out.size
  clear hb3 hw3
  obtain ⟨c0, c1, c2, c3⟩ := (P0.out.below K3.out hlt0).cells
  -- copies of the arguments
  go_wp2_with fail
  refine (HTO.out w3 (HPV.out w3 K3.out)).mono ?_
  rintro e w4 ⟨v4, rfl, ho4, hb4⟩
  have s34 := hb4.size
  have HO4 := Lib.hid ho4
  obtain ⟨bn, dn, bo, do', bb, db, br, dr, rfl⟩ := ho4.slices
  obtain ⟨wb, hwb⟩ : ∃ wb, wb = w4.alloc (.cells #[.slice bn ls.length dn, .slice bo l.length do', .slice bb bs.length db, .slice br rs.length dr] 44) := ⟨_, rfl⟩
  have X4 : Hid (Blk4 wb w4.heap.size 44 (.slice bn ls.length dn) (.slice bo l.length do') (.slice bb bs.length db) (.slice br rs.length dr)) := by rw [hwb]; exact Blk4.new
  have hAB : Below w4.heap.size w4 wb := by rw [hwb]; exact (Below.refl w4.heap.size w4).alloc (Nat.le_refl _) _
  have hsb : wb.heap.size = w4.heap.size + 1 := by rw [hwb]; simp
  have D4 := Lib.hid (Below.refl wb.heap.size wb)
  have A4 := Lib.hid (bth hb4 hAB (Nat.le_refl _))
  have E4 := Lib.hid hAB
  have KW4 := Lib.hid (bth (bth K3.out hb4 (Nat.le_refl _)) hAB (Nat.le_refl _))
  have HWB := Lib.hid hwb
  clear hb4 ho4 c0 c1 c2 c3 hwb hAB
  go_wp2_with fail
  rw [← HWB.out]

  refine (HTI1.out wb (HMV1.out wb KW4.out)).mono ?_
  rintro e q1 ⟨x1, rfl, hox1, hbq1⟩
  have sq1 := hbq1.size
  have EQ1 := Lib.hid (bth E4.out hbq1 (Nat.le_refl _))
  have DQ1 := Lib.hid (bth D4.out hbq1 (Nat.le_refl _))
  have KQ1 := Lib.hid (bth KW4.out hbq1 (Nat.le_refl _))
  have AQ1 := Lib.hid (bth A4.out hbq1 (Nat.le_refl _))
  have hxl1 : ∀ b, x1.ownBlock = some b → wb.heap.size ≤ b ∧ b < q1.heap.size := fun b h => hox1.lt b h
  have HX1_1 := Lib.hid hox1
  clear hox1 hbq1
  obtain ⟨x00, x01, x02, x03⟩ := (X4.out.below DQ1.out (by omega)).cells
  -- the program's answer
  go_wp2_with fail
  refine (HIM.out q1 _ x1 (HO4.out.view.below EQ1.out) (RowR.of_own HX1_1.out)).mono ?_
  rintro e w6 ⟨v6, rfl, hg6, hb6⟩
  have s6 := hb6.size
  have E6 := Lib.hid (bth EQ1.out hb6 (Nat.le_refl _))
  have D6 := Lib.hid (bth DQ1.out hb6 (Nat.le_refl _))
  have K6 := Lib.hid (bth KQ1.out hb6 (Nat.le_refl _))
  have A6 := Lib.hid (bth AQ1.out hb6 (Nat.le_refl _))
  have HX1_6 := Lib.hid (own_belowG HX1_1.out hb6)
  have HG6 := Lib.hid hg6
  obtain ⟨g1, e1, rfl⟩ := own_slice hg6
  obtain ⟨g3, e3, hv3⟩ := own_slice HW.out
  subst hv3
  clear hb6 x00 x01 x02 x03 hg6
  go_wp2_with fail
  refine (HEQ.out w6 _ _ (RowV.of_own HG6.out) (RowV.of_own (own_below HW.out A6.out))).mono ?_
  rintro e w7 ⟨rfl, hb7⟩
  have s7 := hb7.size
  have E7 := Lib.hid (bth E6.out hb7 (Nat.le_refl _))
  have D7 := Lib.hid (bth D6.out hb7 (Nat.le_refl _))
  have A7 := Lib.hid (bth A6.out hb7 (Nat.le_refl _))
  have K7 := Lib.hid (bth K6.out hb7 (Nat.le_refl _))
  have HG7 := Lib.hid (own_below HG6.out hb7)
  have HX1_7 := Lib.hid (own_belowG HX1_6.out hb7)
  clear hb7 HG6
  have hlt7 : w.heap.size < w7.heap.size := by omega
  have hlt8 : w4.heap.size < w7.heap.size := by omega
  have PD : Hid (Blk4 w7.drew w.heap.size 39 (.slice an ls.length cn) (.slice ao l.length co) (.slice as0 bs.length cs) (.slice ar rs.length cr)) := P0.out.below (Below.drew K7.out) hlt0
  have XD : Hid (Blk4 w7.drew w4.heap.size 44 (.slice bn ls.length dn) (.slice bo l.length do') (.slice bb bs.length db) (.slice br rs.length dr)) := X4.out.below (Below.drew D7.out) (by omega)
  have ks := And.intro PD.out.cells XD.out.cells
  have HX7 : Hid (PlanV w7.drew (.agg #[.slice bn ls.length dn, .slice bo l.length do', .slice bb bs.length db, .slice br rs.length dr]) ls l bs rs) := HO4.out.view.below (Below.drew E7.out)
  have HST7 : Hid (PlanV w7.drew (.agg #[.slice an ls.length cn, .slice ao l.length co, .slice as0 bs.length cs, .slice ar rs.length cr]) ls l bs rs) := HPV.out w7.drew (Below.drew K7.out)
  go_wp2_with fail
  -- the copy is as it was
  go_region_held3 (fun w' => (w'.cell? ⟨w.heap.size, 0, none⟩ = some (.slice an ls.length cn) ∧ w'.cell? ⟨w.heap.size, 1, none⟩ = some (.slice ao l.length co) ∧ w'.cell? ⟨w.heap.size, 2, none⟩ = some (.slice as0 bs.length cs) ∧ w'.cell? ⟨w.heap.size, 3, none⟩ = some (.slice ar rs.length cr)) ∧ (w'.cell? ⟨w4.heap.size, 0, none⟩ = some (.slice bn ls.length dn) ∧ w'.cell? ⟨w4.heap.size, 1, none⟩ = some (.slice bo l.length do') ∧ w'.cell? ⟨w4.heap.size, 2, none⟩ = some (.slice bb bs.length db) ∧ w'.cell? ⟨w4.heap.size, 3, none⟩ = some (.slice br rs.length dr))) (first | exact ks)
    (first
      | (go_at_call 21; refine (HTO.out _ (by exact HST7.out)).mono ?_; rintro e w7b ⟨v7, rfl, ho7, hb7⟩
         have ks := And.intro (PD.out.below hb7 hlt7).cells (XD.out.below hb7 hlt8).cells
         have HO7 := Lib.hid ho7.view
         have HXB := Lib.hid (PlanV.below (by exact HX7.out) hb7)
         have C7 := Lib.hid hb7
         clear ho7 hb7)
      | (go_at_call 23; refine (HE.out _ _ _ (by exact HXB.out) (by exact HO7.out)).mono ?_; rintro e w8 ⟨rfl, hb8⟩
         have C8 := Lib.hid (bth C7.out hb8 (Nat.le_refl _))
         have ks := And.intro (PD.out.below C8.out hlt7).cells (XD.out.below C8.out hlt8).cells
         clear hb8))
  all_goals
    have s8 : w7.heap.size ≤ w8.heap.size := C8.out.size
    have K8 := Lib.hid (bth (Below.drew K7.out) C8.out (Nat.le_refl _))
    have E8 := Lib.hid (bth (Below.drew E7.out) C8.out (Nat.le_refl _))
    have D8 := Lib.hid (bth (Below.drew D7.out) C8.out (Nat.le_refl _))
    have A8 := Lib.hid (bth (Below.drew A7.out) C8.out (Nat.le_refl _))
    have HG8 := Lib.hid (own_below (w := w7.drew) (show w7.drew.ownsRow q1.heap.size 9 1 _ _ _ from HG7.out) C8.out)
    have HX1_8 := Lib.hid (own_belowG (w := w7.drew) (show w7.drew.ownsRow wb.heap.size 96 2 _ _ _ from HX1_7.out) C8.out)
    clear ks PD XD HX7 HST7 HO7 HXB C7 C8
    clear HG7
    go_wp2_with fail
    refine (HTI1.out w8 (HMV1.out w8 K8.out)).mono ?_
    rintro e r1 ⟨z1, rfl, hoz1, hbr1⟩
    have sr1 := hbr1.size
    have KR1 := Lib.hid (bth K8.out hbr1 (Nat.le_refl _))
    have ER1 := Lib.hid (bth E8.out hbr1 (Nat.le_refl _))
    have DR1 := Lib.hid (bth D8.out hbr1 (Nat.le_refl _))
    have AR1 := Lib.hid (bth A8.out hbr1 (Nat.le_refl _))
    have HGR1 := Lib.hid (own_below HG8.out hbr1)
    have HX1_R1 := Lib.hid (own_belowG HX1_8.out hbr1)
    have HZ1 := Lib.hid (RowR.of_own hoz1)
    clear hoz1 hbr1
    go_wp2_with fail
    refine (HEI1.out r1 _ _ (RowR.of_own HX1_R1.out) HZ1.out).mono ?_
    rintro e s1 ⟨rfl, hbs1⟩
    have ss1 := hbs1.size
    have KS1 := Lib.hid (bth KR1.out hbs1 (Nat.le_refl _))
    have ES1 := Lib.hid (bth ER1.out hbs1 (Nat.le_refl _))
    have DS1 := Lib.hid (bth DR1.out hbs1 (Nat.le_refl _))
    have AS1 := Lib.hid (bth AR1.out hbs1 (Nat.le_refl _))
    have HGS1 := Lib.hid (own_below HGR1.out hbs1)
    have HX1_S1 := Lib.hid (own_belowG HX1_R1.out hbs1)
    clear hbs1 HZ1
    obtain ⟨y0, y1', y2, y3⟩ := (X4.out.below DS1.out (by omega)).cells
    -- marks in the copies
    go_wp2_with fail
    refine (HMG.out w3.heap.size _ w4 s1 HO4.out ES1.out s34).mono ?_
    rintro e w9 ⟨rfl, hg9⟩
    have s9 := hg9.below.size
    have A9 := Lib.hid (AS1.out.trans hg9.below)
    have K9 := Lib.hid (KS1.out.trans (hg9.below.mono sa3))
    have HG9 := Lib.hid (hg9.own HGS1.out (by omega))
    have HX1_9 := Lib.hid (hg9.own HX1_S1.out (by omega))
    clear hg9 y0 y1' y2 y3
    go_wp2_with fail
    refine (HMM.out wb.heap.size _ w9 HX1_9.out).mono ?_
    rintro e t1 ⟨rfl, _, hgt1⟩
    have st1 := hgt1.size
    have hbt1 := below_ownG HX1_9.out hgt1 (by omega)
    have AT1 := Lib.hid (A9.out.trans (hbt1.mono (by omega)))
    have KT1 := Lib.hid (K9.out.trans (hbt1.mono (by omega)))
    have HGT1 := Lib.hid (own_apartI HG9.out hgt1 (fun b h1 h2 => by have := (hxl1 b h1).2; have := (HG9.out.lt b h2).1; omega))
    clear hgt1 hbt1
    go_wp2_with fail
    refine (HEQ.out t1 _ _ (RowV.of_own HGT1.out) (RowV.of_own (own_below HW.out AT1.out))).mono ?_
    rintro e w10 ⟨rfl, hb10⟩
    have s10 := hb10.size
    have A10 := Lib.hid (bth AT1.out hb10 (Nat.le_refl _))
    have K10 := Lib.hid (bth KT1.out hb10 (Nat.le_refl _))
    have HG10 := Lib.hid (own_below HGT1.out hb10)
    clear hb10
    -- marks in the answer
    go_wp2_with fail
    refine (HMI.out q1.heap.size _ w10 HG10.out).mono ?_
    rintro e w11 ⟨rfl, ho11, hg11⟩
    have hbb := below_own HG10.out hg11 (by omega)
    have s11 := hg11.size
    have A11 := Lib.hid (A10.out.trans (hbb.mono (by omega)))
    have K11 := Lib.hid (K10.out.trans (hbb.mono (by omega)))
    have HM11 := Lib.hid ho11
    clear ho11 hg11 hbb HG10
    go_wp2_with fail
    refine (HHI.out _ w11 (by have := RowV.of_own HM11.out; exact this)).mono ?_
    rintro e w12 ⟨rfl, hb12⟩
    have A12 := Lib.hid (bth A11.out hb12 (Nat.le_refl _))
    have K12 := Lib.hid (bth K11.out hb12 (Nat.le_refl _))
    have HM12 := Lib.hid (own_below HM11.out hb12)
    clear hb12 HM11
    obtain ⟨c0, c1, c2, c3⟩ := (P0.out.below K12.out hlt0).cells
    -- asked again
    go_wp2_with fail
    refine (HTO.out w12 (HPV.out w12 K12.out)).mono ?_
    rintro e w13 ⟨v13, rfl, ho13, hb13⟩
    have A13 := Lib.hid (bth A12.out hb13 (Nat.le_refl _))
    have K13 := Lib.hid (bth K12.out hb13 (Nat.le_refl _))
    have HM13 := Lib.hid (own_below HM12.out hb13)
    have HG13 := Lib.hid ho13.view
    clear hb13 ho13 c0 c1 c2 c3 HM12
    go_wp2_with fail
    refine (HTI1.out w13 (HMV1.out w13 K13.out)).mono ?_
    rintro e z1 ⟨yz1, rfl, hoz1, hbz1⟩
    have AZ1 := Lib.hid (bth A13.out hbz1 (Nat.le_refl _))
    have KZ1 := Lib.hid (bth K13.out hbz1 (Nat.le_refl _))
    have HMZ1 := Lib.hid (own_below HM13.out hbz1)
    have HGZ1 := Lib.hid (HG13.out.below hbz1)
    have HYZ1 := Lib.hid (RowR.of_own hoz1)
    clear hoz1 hbz1
    go_wp2_with fail
    refine (HIM.out z1 v13 yz1 HGZ1.out HYZ1.out).mono ?_
    rintro e w14 ⟨v14, rfl, ho14, hb14⟩
    have A14 := Lib.hid (bth AZ1.out hb14 (Nat.le_refl _))
    have K14 := Lib.hid (bth KZ1.out hb14 (Nat.le_refl _))
    have HM14 := Lib.hid (own_below HMZ1.out hb14)
    have HV14 := Lib.hid (RowV.of_own ho14)
    obtain ⟨g14, e14, rfl⟩ := own_slice ho14
    clear hb14 ho14
    go_wp2_with fail
    refine (HEQ.out w14 _ _ HV14.out (RowV.of_own (own_below HW.out A14.out))).mono ?_
    rintro e w15 ⟨rfl, hb15⟩
    have K15 := Lib.hid (bth K14.out hb15 (Nat.le_refl _))
    have HM15 := Lib.hid (own_below HM14.out hb15)
    clear hb15 HM14 HV14
    go_wp2_with fail
    refine (HHI.out _ w15 (by have := RowV.of_own HM15.out; exact this)).mono ?_
    rintro e w16 ⟨rfl, hb16⟩
    have K16 := Lib.hid (bth K15.out hb16 (Nat.le_refl _))
    clear hb16
    go_wp2_with fail
    go_ret
    exact ⟨rfl, bth HA.out K16.out (Nat.le_refl _)⟩

end Go.Proofs.Ytnkkbleebfijgaa

/- Walks: what blocks a task, as it is told, of the reference and of the program. -/
namespace Go.Proofs.Ytnkkbleebfijgaa
open Go.RowKit Pth

theorem in_no {ls : List (List Int)} {l : List Int} {bs : List Bool} {rs : List (List OpT)} {m : List ResT} {t : Int} (h : bothA ls l bs rs m = false) : inA ls l bs rs m t = false := by unfold inA; rw [h]; rfl
theorem in_yes {ls : List (List Int)} {l : List Int} {bs : List Bool} {rs : List (List OpT)} {m : List ResT} {t : Int} (h : bothA ls l bs rs m = true) : inA ls l bs rs m t = (decide (0 ≤ t) && decide (t < (bs.length : Int))) := by unfold inA; rw [h]; rfl
theorem block_no {ls : List (List Int)} {l : List Int} {bs : List Bool} {rs : List (List OpT)} {m : List ResT} {t : Int} (h : inA ls l bs rs m t = false) : blockA ls l bs rs m t = (0, false) := by unfold blockA; rw [h]; rfl
theorem block_un {ls : List (List Int)} {l : List Int} {bs : List Bool} {rs : List (List OpT)} {m : List ResT} {t : Int} (h : (resAt m t).2 ≠ 2) : blockA ls l bs rs m t = (0, false) := by unfold blockA; rw [decide_eq_false h]; simp
theorem block_yes {ls : List (List Int)} {l : List Int} {bs : List Bool} {rs : List (List OpT)} {m : List ResT} {j : Nat} (h : inA ls l bs rs m (j : Int) = true) (h2 : (resAt m (j : Int)).2 = 2) (hj : j < ls.length) : blockA ls l bs rs m (j : Int) = firstL m ls[j] := by
  unfold blockA; rw [h, decide_eq_true h2, needsAt_get hj]; rfl
theorem ins_no {ls : List (List Int)} {l : List Int} {bs : List Bool} {rs : List (List OpT)} {m : List ResT} {t : Int} (h : inA ls l bs rs m t = false) : insA ls l bs rs m t = [] := by unfold insA; rw [h]; rfl
theorem ins_yes {ls : List (List Int)} {l : List Int} {bs : List Bool} {rs : List (List OpT)} {m : List ResT} {j : Nat} (h : inA ls l bs rs m (j : Int) = true) (hj : j < ls.length) : insA ls l bs rs m (j : Int) = bodiesL m ls[j] := by
  unfold insA; rw [h, needsAt_get hj]; rfl

set_option maxRecDepth 20000 in
set_option maxHeartbeats 1000000 in
theorem l7Task_b {ls : List (List Int)} {l : List Int} {bs : List Bool} {rs : List (List OpT)} {t : Int} {b : Bool} (h : (decide (0 ≤ t) && decide (t < (bs.length : Int))) = b) (v : Value) (w : World) (hp : PlanV w v ls l bs rs) :
    Calls Try.prog 80 #[v, .int .i64 t] w (BoolPost b w) := by
  obtain ⟨nv, ov, sv, rv, rfl, h1, h2, h3, h4⟩ := hp
  obtain ⟨as0, cs, rfl, hs1, hs2, _⟩ := h3.boolsW
  obtain ⟨an, cn, rfl, hn1, hn2, _⟩ := h1.lists
  obtain ⟨ao, co, rfl, ho1, ho2, _⟩ := h2.ints
  obtain ⟨ar, cr, rfl, hr1, hr2, _⟩ := h4.lists
  clear h1 h2 h3 h4
  unfold maxLen at hs2 hn2 ho2 hr2
  have HC := Lib.hid (fun W => l1In_task (w := W) h)
  have HB := Lib.hid ((Below.refl w.heap.size w).alloc (Nat.le_refl _) (.cells #[.slice an ls.length cn, .slice ao l.length co, .slice as0 bs.length cs, .slice ar rs.length cr] 44))
  clear h
  go_enter Try.func80, Try.ntmps80
  go_wp2_with fail
  refine (HC.out _).mono ?_
  rintro e w1 ⟨rfl, rfl⟩
  go_wp2_with fail
  go_ret
  exact ⟨rfl, HB.out⟩

set_option maxRecDepth 20000 in
set_option maxHeartbeats 8000000 in
theorem specBlock_any (ls : List (List Int)) (l : List Int) (bs : List Bool) (rs : List (List OpT)) (m : List ResT) (t : Int) (v u : Value) (w : World) (hp : PlanV w v ls l bs rs) (hr : RowR w u m) (hx : ∀ l ∈ rs, ∀ f ∈ l, f.2.2.length ≤ maxLen) (hxm : ∀ f ∈ m, f.1.length ≤ maxLen) :
    Calls Try.prog 35 #[v, u, .int .i64 t] w (NumOk (blockA ls l bs rs m t) w) := by
  have HV := Lib.hid hp
  have HR := Lib.hid hr
  obtain ⟨nv, ov, sv, rv, rfl, h1, h2, h3, h4⟩ := hp
  obtain ⟨as0, cs, rfl, hs1, hs2, _⟩ := h3.boolsW
  obtain ⟨an, cn, rfl, hn1, hn2, hatn⟩ := h1.lists
  obtain ⟨ao, co, rfl, ho1, ho2, _⟩ := h2.ints
  obtain ⟨ar, cr, rfl, hr1, hr2, _⟩ := h4.lists
  obtain ⟨am, cm, rfl, hm1, hm2, hatm⟩ := hr.res
  clear h1 h2 h3 h4 hr
  unfold maxLen at hs2 hn2 ho2 hr2 hm2
  obtain ⟨wa, hwa⟩ : ∃ wa, wa = w.alloc (.cells #[.slice an ls.length cn, .slice ao l.length co, .slice as0 bs.length cs, .slice ar rs.length cr] 44) := ⟨_, rfl⟩
  have hsz : w.heap.size < wa.heap.size := by rw [hwa]; simp
  have P0 : Hid (Blk4 wa w.heap.size 44 (.slice an ls.length cn) (.slice ao l.length co) (.slice as0 bs.length cs) (.slice ar rs.length cr)) := by rw [hwa]; exact Blk4.new
  have HA : Hid (Below w.heap.size w wa) := by rw [hwa]; exact (Below.refl w.heap.size w).alloc (Nat.le_refl _) _
  have HWA := Lib.hid hwa
  have HVW : Hid (∀ W, Below wa.heap.size wa W → PlanV W (.agg #[.slice an ls.length cn, .slice ao l.length co, .slice as0 bs.length cs, .slice ar rs.length cr]) ls l bs rs) := fun W h => HV.out.below (bth HA.out h (Nat.le_refl _))
  have HRW : Hid (∀ W, Below wa.heap.size wa W → RowR W (.slice am m.length cm) m) := fun W h => HR.out.below (bth HA.out h (Nat.le_refl _))
  obtain ⟨b, hb⟩ : ∃ b, bothA ls l bs rs m = b := ⟨_, rfl⟩
  obtain ⟨d, hd⟩ : ∃ d, (decide (0 ≤ t) && decide (t < (bs.length : Int))) = d := ⟨_, rfl⟩
  have HC := Lib.hid (specBoth_b hb _ _ wa (HVW.out wa (Below.refl _ _)) (HRW.out wa (Below.refl _ _)) hx hxm)
  obtain ⟨c0, c1, c2, c3⟩ := P0.out.cells
  have HATN := Lib.hid hatn
  have HATM := Lib.hid hatm
  clear hwa hatn hatm hx hxm
  rcases b with _ | _
  · have HT : Hid (inA ls l bs rs m t = false) := in_no hb
    clear hb hd HVW HRW
    go_enter Try.func35, Try.ntmps35
    go_wp2_with fail
    rw [← HWA.out]
    refine HC.out.mono ?_
    rintro e w1 ⟨rfl, hb1⟩
    have HB1 := Lib.hid (bth HA.out hb1 (Nat.le_refl _))
    clear hb1 c0 c1 c2 c3
    go_wp2_with fail
    go_ret2
    exact ⟨by rw [block_no HT.out] <;> rfl, HB1.out⟩
  have hpl := (both_parts hb).1
  have hml : m.length = ls.length := by have := (both_parts hb).2.2; have := (plan_parts hpl).2.1; omega
  have hbl : bs.length = ls.length := (plan_parts hpl).2.1
  have HIN : Hid (inA ls l bs rs m t = d) := by show _ = _; rw [in_yes hb, hd]
  have HPL := Lib.hid hpl
  have HMB := Lib.hid (both_parts hb).2.2
  have HRA := Lib.hid (both_parts hb).2.1
  have HCT := Lib.hid (fun W (h : Below wa.heap.size wa W) => l7Task_b hd _ W (HVW.out W h))
  rcases d with _ | _
  · clear hb hd hpl hml hbl
    go_enter Try.func35, Try.ntmps35
    go_wp2_with fail
    rw [← HWA.out]
    refine HC.out.mono ?_
    rintro e w1 ⟨rfl, hb1⟩
    have K1 := Lib.hid hb1
    clear hb1 c0 c1 c2 c3
    obtain ⟨c0, c1, c2, c3⟩ := (P0.out.below K1.out hsz).cells
    go_wp2_with fail
    refine (HCT.out w1 K1.out).mono ?_
    rintro e w2 ⟨rfl, hb2⟩
    have HB2 := Lib.hid (bth HA.out (bth K1.out hb2 (Nat.le_refl _)) (Nat.le_refl _))
    clear hb2 c0 c1 c2 c3
    go_wp2_with fail
    go_ret2
    exact ⟨by rw [block_no HIN.out] <;> rfl, HB2.out⟩
  obtain ⟨j, hj⟩ : ∃ j : Nat, t = j := ⟨t.toNat, by simp only [Bool.and_eq_true, decide_eq_true_eq] at hd; omega⟩
  subst hj
  have hjl : j < ls.length := by simp only [Bool.and_eq_true, decide_eq_true_eq] at hd; omega
  have hjm : j < m.length := by omega
  have HJL := Lib.hid hjl
  have hjz : (j : Int) < (m.length : Int) := by omega
  have hjn : (j : Int) < (ls.length : Int) := by omega
  obtain ⟨g2, o2, rfl, hg2, hm1', hm2'⟩ := HATM.out j hjm
  have HM2 : Hid (∀ W, Below wa.heap.size wa W → W.cell? ⟨g2, o2 + j * 2, none⟩ = some (.string ⟨m[j].1.toArray⟩) ∧ W.cell? ⟨g2, o2 + j * 2 + 1, none⟩ = some (.int .i64 m[j].2)) := fun W h => ⟨((bth HA.out h (Nat.le_refl _)).cell (p := ⟨g2, o2 + j * 2, none⟩) hg2).trans hm1', ((bth HA.out h (Nat.le_refl _)).cell (p := ⟨g2, o2 + j * 2 + 1, none⟩) hg2).trans hm2'⟩
  have hra := resAt_nat hjm
  clear hm1' hm2'
  by_cases hs : m[j].2 = 2
  · have HT : Hid (blockA ls l bs rs m (j : Int) = firstL m ls[j]) := block_yes HIN.out (by rw [hra]; exact hs) hjl
    have e0 : (m[j].2 != 2) = false := by simp [hs]
    have HQ := Lib.hid hs
    clear hb hd hpl hml hbl hra hs
    go_enter Try.func35, Try.ntmps35
    go_wp2_with fail
    rw [← HWA.out]
    refine HC.out.mono ?_
    rintro e w1 ⟨rfl, hb1⟩
    have K1 := Lib.hid hb1
    clear hb1 c0 c1 c2 c3
    obtain ⟨c0, c1, c2, c3⟩ := (P0.out.below K1.out hsz).cells
    go_wp2_with fail
    refine (HCT.out w1 K1.out).mono ?_
    rintro e w2 ⟨rfl, hb2⟩
    have K2 := Lib.hid (bth K1.out hb2 (Nat.le_refl _))
    clear hb2 c0 c1 c2 c3
    obtain ⟨c0, c1, c2, c3⟩ := (P0.out.below K2.out hsz).cells
    obtain ⟨s1, s2⟩ := HM2.out w2 K2.out
    obtain ⟨gn, on, an2, cn2, rfl, hgn, hcn, hrn⟩ := HATN.out j hjl
    obtain ⟨_, _, hev, hcl, hcm, hatk⟩ := hrn.ints
    injection hev with hea _ hec
    subst hea hec
    unfold maxLen at hcm
    have HATK := Lib.hid hatk
    obtain ⟨hl10, hin⟩ := plan_task HPL.out hjl
    have HIX := Lib.hid hin
    have hs1 : w2.cell? ⟨gn, on + j, none⟩ = some (.slice an2 ls[j].length cn2) := ((bth HA.out K2.out (Nat.le_refl _)).cell (p := ⟨gn, on + j, none⟩) hgn).trans hcn
    have HMLL : Hid (m.length = ls.length) := by have := HMB.out; have := (plan_parts HPL.out).2.1; show _ = _; omega
    clear hatk hin hcn hrn HVW HRW
    go_wp2_with fail
    clear c0 c1 c2 c3 s1 s2 hs1
    go_loopw [35] (fun i wr => ∃ k : Nat, k ≤ ls[j].length ∧ i = .int .i64 k ∧ Hid (Below wa.heap.size wa wr) ∧ Hid (∀ x ∈ ls[j].take k, (resAt m x).2 = 0)) (fun i _ => ls[j].length - (intOf i).toNat)
    case atStart => exact ⟨0, Nat.zero_le _, rfl, K2.out, by simp [Hid]⟩
    case round =>
      obtain ⟨k, hk, rfl, HB, HO⟩ := hrel
      have HBW := Lib.hid (bth HA.out HB.out (Nat.le_refl _))
      by_cases hlt : k < ls[j].length
      · obtain ⟨g, o, rfl, hg, hcell0⟩ := HATK.out k hlt
        have hcell1 := (HBW.out.cell (p := ⟨g, o + k, none⟩) hg).trans hcell0
        obtain ⟨hx0, hx1⟩ := HIX.out _ (List.getElem_mem hlt)
        obtain ⟨y, hy⟩ : ∃ y : Nat, ls[j][k] = y := ⟨(ls[j][k]).toNat, by omega⟩
        have hcell := hcell1.trans (congrArg (fun z => some (Value.int .i64 z)) hy)
        clear hcell1
        have hym : y < m.length := by have := HMLL.out; omega
        obtain ⟨g3, o3, hga, hg3, hm1', hm2'⟩ := HATM.out y hym
        obtain ⟨rfl, rfl⟩ := addr_inj hga
        have s1 := (HBW.out.cell (p := ⟨g2, o2 + y * 2, none⟩) hg3).trans hm1'
        have s2 := (HBW.out.cell (p := ⟨g2, o2 + y * 2 + 1, none⟩) hg3).trans hm2'
        have hra := resAt_nat hym
        have hyz : (y : Int) < (m.length : Int) := by omega
        by_cases hz : m[y].2 = 0
        · have HE : Hid (∀ x ∈ ls[j].take (k + 1), (resAt m x).2 = 0) := take_zero hlt HO.out (by rw [hy, hra]; exact hz)
          have e1 : (m[y].2 != 0) = false := by simp [hz]
          clear hcell0 hx0 hx1 hy hm1' hm2' HO hra hz HATK HATM HIX e0 HATN hga
          generalize m[y] = q at *
          obtain ⟨q1, q2⟩ := q
          simp only at s1 s2 e1
          obtain ⟨c0, c1, c2, c3⟩ := (P0.out.below HB.out hsz).cells
          go_wp2_with fail
          go_roundw
          case rel => exact ⟨k + 1, by omega, by go_num, HB, HE⟩
          case measure => simp [intOf]; omega
        · have HE : Hid (blockA ls l bs rs m (j : Int) = ((y : Int), true)) := by show _ = _; rw [HT.out, first_yes hlt HO.out (by rw [hy, hra]; exact hz), hy]
          have e1 : (m[y].2 != 0) = true := by simp [hz]
          clear hcell0 hx0 hx1 hy hm1' hm2' HO hra hz HATK HATM HIX e0 HATN hga
          generalize m[y] = q at *
          obtain ⟨q1, q2⟩ := q
          simp only at s1 s2 e1
          obtain ⟨c0, c1, c2, c3⟩ := (P0.out.below HB.out hsz).cells
          go_wp2_with fail
          go_ret2
          exact ⟨by rw [HE.out] <;> rfl, HBW.out⟩
      · have HE : Hid (blockA ls l bs rs m (j : Int) = (0, false)) := by show _ = _; rw [HT.out]; exact first_no (by have := HO.out; rwa [List.take_of_length_le (by omega)] at this)
        clear HO HATK HATM HIX HATN
        go_wp2_with fail
        go_ret2
        exact ⟨by rw [HE.out] <;> rfl, HBW.out⟩
  · have HT : Hid (blockA ls l bs rs m (j : Int) = (0, false)) := block_un (by rw [hra]; exact hs)
    have e0 : (m[j].2 != 2) = true := by simp [hs]
    clear hb hd hpl hml hbl hra hs
    go_enter Try.func35, Try.ntmps35
    go_wp2_with fail
    rw [← HWA.out]
    refine HC.out.mono ?_
    rintro e w1 ⟨rfl, hb1⟩
    have K1 := Lib.hid hb1
    clear hb1 c0 c1 c2 c3
    obtain ⟨c0, c1, c2, c3⟩ := (P0.out.below K1.out hsz).cells
    go_wp2_with fail
    refine (HCT.out w1 K1.out).mono ?_
    rintro e w2 ⟨rfl, hb2⟩
    have K2 := Lib.hid (bth K1.out hb2 (Nat.le_refl _))
    clear hb2 c0 c1 c2 c3
    obtain ⟨c0, c1, c2, c3⟩ := (P0.out.below K2.out hsz).cells
    obtain ⟨s1, s2⟩ := HM2.out w2 K2.out
    go_wp2_with fail
    go_ret2
    exact ⟨by rw [HT.out] <;> rfl, bth HA.out K2.out (Nat.le_refl _)⟩

set_option maxRecDepth 20000 in
set_option maxHeartbeats 8000000 in
theorem implBlock_any (ls : List (List Int)) (l : List Int) (bs : List Bool) (rs : List (List OpT)) (m : List ResT) (t : Int) (v u : Value) (w : World) (hp : PlanV w v ls l bs rs) (hr : RowR w u m) (hx : ∀ l ∈ rs, ∀ f ∈ l, f.2.2.length ≤ maxLen) (hxm : ∀ f ∈ m, f.1.length ≤ maxLen) :
    Calls Try.prog 36 #[v, u, .int .i64 t] w (NumOk (blockA ls l bs rs m t) w) := by
  have HV := Lib.hid hp
  have HR := Lib.hid hr
  obtain ⟨nv, ov, sv, rv, rfl, h1, h2, h3, h4⟩ := hp
  obtain ⟨as0, cs, rfl, hs1, hs2, _⟩ := h3.boolsW
  obtain ⟨an, cn, rfl, hn1, hn2, hatn⟩ := h1.lists
  obtain ⟨ao, co, rfl, ho1, ho2, _⟩ := h2.ints
  obtain ⟨ar, cr, rfl, hr1, hr2, _⟩ := h4.lists
  obtain ⟨am, cm, rfl, hm1, hm2, hatm⟩ := hr.res
  clear h1 h2 h3 h4 hr
  unfold maxLen at hs2 hn2 ho2 hr2 hm2
  obtain ⟨wa, hwa⟩ : ∃ wa, wa = w.alloc (.cells #[.slice an ls.length cn, .slice ao l.length co, .slice as0 bs.length cs, .slice ar rs.length cr] 44) := ⟨_, rfl⟩
  have hsz : w.heap.size < wa.heap.size := by rw [hwa]; simp
  have P0 : Hid (Blk4 wa w.heap.size 44 (.slice an ls.length cn) (.slice ao l.length co) (.slice as0 bs.length cs) (.slice ar rs.length cr)) := by rw [hwa]; exact Blk4.new
  have HA : Hid (Below w.heap.size w wa) := by rw [hwa]; exact (Below.refl w.heap.size w).alloc (Nat.le_refl _) _
  have HWA := Lib.hid hwa
  have HVW : Hid (∀ W, Below wa.heap.size wa W → PlanV W (.agg #[.slice an ls.length cn, .slice ao l.length co, .slice as0 bs.length cs, .slice ar rs.length cr]) ls l bs rs) := fun W h => HV.out.below (bth HA.out h (Nat.le_refl _))
  have HRW : Hid (∀ W, Below wa.heap.size wa W → RowR W (.slice am m.length cm) m) := fun W h => HR.out.below (bth HA.out h (Nat.le_refl _))
  obtain ⟨b, hb⟩ : ∃ b, bothA ls l bs rs m = b := ⟨_, rfl⟩
  obtain ⟨d, hd⟩ : ∃ d, (decide (0 ≤ t) && decide (t < (bs.length : Int))) = d := ⟨_, rfl⟩
  have HC := Lib.hid (implBoth_b hb _ _ wa (HVW.out wa (Below.refl _ _)) (HRW.out wa (Below.refl _ _)) hx hxm)
  obtain ⟨c0, c1, c2, c3⟩ := P0.out.cells
  have HATN := Lib.hid hatn
  have HATM := Lib.hid hatm
  clear hwa hatn hatm hx hxm
  rcases b with _ | _
  · have HT : Hid (inA ls l bs rs m t = false) := in_no hb
    clear hb hd HVW HRW
    go_enter Try.func36, Try.ntmps36
    go_wp2_with fail
    rw [← HWA.out]
    refine HC.out.mono ?_
    rintro e w1 ⟨rfl, hb1⟩
    have HB1 := Lib.hid (bth HA.out hb1 (Nat.le_refl _))
    clear hb1 c0 c1 c2 c3
    go_wp2_with fail
    go_ret2
    exact ⟨by rw [block_no HT.out] <;> rfl, HB1.out⟩
  have hpl := (both_parts hb).1
  have hml : m.length = ls.length := by have := (both_parts hb).2.2; have := (plan_parts hpl).2.1; omega
  have hbl : bs.length = ls.length := (plan_parts hpl).2.1
  have HIN : Hid (inA ls l bs rs m t = d) := by show _ = _; rw [in_yes hb, hd]
  have HPL := Lib.hid hpl
  have HMB := Lib.hid (both_parts hb).2.2
  have HRA := Lib.hid (both_parts hb).2.1
  have HCT : Hid (∀ W, Below wa.heap.size wa W → Calls Try.prog 53 #[.agg #[.slice an ls.length cn, .slice ao l.length co], .int .i64 t] W fun e w' => e = .returned (.bool d) ∧ Below W.heap.size W w') := fun W h => by
    obtain ⟨_, _, _, _, he, k1, k2, _, _⟩ := HVW.out W h
    injection he with he
    simp only [Array.mk.injEq, List.cons.injEq, and_true] at he
    obtain ⟨rfl, rfl, _, _⟩ := he
    exact isTask_b (ls := ls) (l := l) ⟨_, _, rfl, k1, k2⟩ (by rw [← hd, hbl])
  rcases d with _ | _
  · clear hb hd hpl hml hbl
    go_enter Try.func36, Try.ntmps36
    go_wp2_with fail
    rw [← HWA.out]
    refine HC.out.mono ?_
    rintro e w1 ⟨rfl, hb1⟩
    have K1 := Lib.hid hb1
    clear hb1 c0 c1 c2 c3
    obtain ⟨c0, c1, c2, c3⟩ := (P0.out.below K1.out hsz).cells
    go_wp2_with fail
    refine (HCT.out w1 K1.out).mono ?_
    rintro e w2 ⟨rfl, hb2⟩
    have HB2 := Lib.hid (bth HA.out (bth K1.out hb2 (Nat.le_refl _)) (Nat.le_refl _))
    clear hb2 c0 c1 c2 c3
    go_wp2_with fail
    go_ret2
    exact ⟨by rw [block_no HIN.out] <;> rfl, HB2.out⟩
  obtain ⟨j, hj⟩ : ∃ j : Nat, t = j := ⟨t.toNat, by simp only [Bool.and_eq_true, decide_eq_true_eq] at hd; omega⟩
  subst hj
  have hjl : j < ls.length := by simp only [Bool.and_eq_true, decide_eq_true_eq] at hd; omega
  have hjm : j < m.length := by omega
  have HJL := Lib.hid hjl
  have hjz : (j : Int) < (m.length : Int) := by omega
  have hjn : (j : Int) < (ls.length : Int) := by omega
  obtain ⟨g2, o2, rfl, hg2, hm1', hm2'⟩ := HATM.out j hjm
  have HM2 : Hid (∀ W, Below wa.heap.size wa W → W.cell? ⟨g2, o2 + j * 2, none⟩ = some (.string ⟨m[j].1.toArray⟩) ∧ W.cell? ⟨g2, o2 + j * 2 + 1, none⟩ = some (.int .i64 m[j].2)) := fun W h => ⟨((bth HA.out h (Nat.le_refl _)).cell (p := ⟨g2, o2 + j * 2, none⟩) hg2).trans hm1', ((bth HA.out h (Nat.le_refl _)).cell (p := ⟨g2, o2 + j * 2 + 1, none⟩) hg2).trans hm2'⟩
  have hra := resAt_nat hjm
  clear hm1' hm2'
  by_cases hs : m[j].2 = 2
  · have HT : Hid (blockA ls l bs rs m (j : Int) = firstL m ls[j]) := block_yes HIN.out (by rw [hra]; exact hs) hjl
    have e0 : (m[j].2 != 2) = false := by simp [hs]
    have HQ := Lib.hid hs
    clear hb hd hpl hml hbl hra hs
    go_enter Try.func36, Try.ntmps36
    go_wp2_with fail
    rw [← HWA.out]
    refine HC.out.mono ?_
    rintro e w1 ⟨rfl, hb1⟩
    have K1 := Lib.hid hb1
    clear hb1 c0 c1 c2 c3
    obtain ⟨c0, c1, c2, c3⟩ := (P0.out.below K1.out hsz).cells
    go_wp2_with fail
    refine (HCT.out w1 K1.out).mono ?_
    rintro e w2 ⟨rfl, hb2⟩
    have K2 := Lib.hid (bth K1.out hb2 (Nat.le_refl _))
    clear hb2 c0 c1 c2 c3
    obtain ⟨c0, c1, c2, c3⟩ := (P0.out.below K2.out hsz).cells
    obtain ⟨s1, s2⟩ := HM2.out w2 K2.out
    go_wp2_with fail
    refine (first_any ls l bs rs m j _ _ w2 (HVW.out w2 K2.out) (HRW.out w2 K2.out) HPL.out HMB.out hjl).mono ?_
    rintro e w3 ⟨rfl, hb3⟩
    have HB3 := Lib.hid (bth HA.out (bth K2.out hb3 (Nat.le_refl _)) (Nat.le_refl _))
    clear hb3 c0 c1 c2 c3 s1 s2
    go_wp2_with fail
    go_ret2
    exact ⟨by rw [HT.out] <;> rfl, HB3.out⟩
  · have HT : Hid (blockA ls l bs rs m (j : Int) = (0, false)) := block_un (by rw [hra]; exact hs)
    have e0 : (m[j].2 != 2) = true := by simp [hs]
    clear hb hd hpl hml hbl hra hs
    go_enter Try.func36, Try.ntmps36
    go_wp2_with fail
    rw [← HWA.out]
    refine HC.out.mono ?_
    rintro e w1 ⟨rfl, hb1⟩
    have K1 := Lib.hid hb1
    clear hb1 c0 c1 c2 c3
    obtain ⟨c0, c1, c2, c3⟩ := (P0.out.below K1.out hsz).cells
    go_wp2_with fail
    refine (HCT.out w1 K1.out).mono ?_
    rintro e w2 ⟨rfl, hb2⟩
    have K2 := Lib.hid (bth K1.out hb2 (Nat.le_refl _))
    clear hb2 c0 c1 c2 c3
    obtain ⟨c0, c1, c2, c3⟩ := (P0.out.below K2.out hsz).cells
    obtain ⟨s1, s2⟩ := HM2.out w2 K2.out
    go_wp2_with fail
    go_ret2
    exact ⟨by rw [HT.out] <;> rfl, bth HA.out K2.out (Nat.le_refl _)⟩

end Go.Proofs.Ytnkkbleebfijgaa

/- Walks: strings.Clone. -/
namespace Go.Proofs.Ytnkkbleebfijgaa
open Go.RowKit Pth

set_option maxHeartbeats 1000000 in
theorem clone_any (s : List UInt8) (w : World) (hs : s.length ≤ 1000) : Calls Try.prog 109 #[.string ⟨s.toArray⟩] w fun e w' => e = .returned (.string ⟨s.toArray⟩) ∧ Below w.heap.size w w' := by
  have HC := Lib.hid (Try.stringslite_Clone ⟨s.toArray⟩ w (by simp [ByteArray.size]; omega))
  clear hs
  go_enter Try.func109, Try.ntmps109
  go_wp2_with fail
  refine HC.out.mono ?_
  rintro e w1 ⟨rfl, hb1⟩
  go_wp2_with fail
  go_ret
  exact ⟨rfl, hb1⟩
end Go.Proofs.Ytnkkbleebfijgaa

/- Walks: what goes into a task, of the reference and of the program. -/
namespace Go.Proofs.Ytnkkbleebfijgaa
open Go.RowKit Pth

set_option maxRecDepth 20000 in
set_option maxHeartbeats 8000000 in
theorem specIns_any (ls : List (List Int)) (l : List Int) (bs : List Bool) (rs : List (List OpT)) (m : List ResT) (t : Nat) (v u : Value) (w : World) (hp : PlanV w v ls l bs rs) (hr : RowR w u m) (hpl : planA ls l bs rs = true) (hmb : m.length = bs.length) (ht : t < ls.length) (hxm : ∀ f ∈ m, f.1.length ≤ 40) :
    Calls Try.prog 83 #[v, u, .int .i64 (t : Int)] w (TextsPost w.heap.size (bodiesL m ls[t]) w) := by
  have hbl := (plan_parts hpl).2.1
  have HV := Lib.hid hp
  have HR := Lib.hid hr
  obtain ⟨nv, ov, sv, rv, rfl, h1, h2, h3, h4⟩ := hp
  obtain ⟨as0, cs, rfl, hs1, hs2, _⟩ := h3.boolsW
  obtain ⟨an, cn, rfl, hn1, hn2, hatn⟩ := h1.lists
  obtain ⟨ao, co, rfl, ho1, ho2, _⟩ := h2.ints
  obtain ⟨ar, cr, rfl, hr1, hr2, _⟩ := h4.lists
  obtain ⟨am, cm, rfl, hm1, hm2, hatm⟩ := hr.res
  clear h1 h2 h3 h4 hr
  unfold maxLen at hs2 hn2 ho2 hr2 hm2
  obtain ⟨wa, hwa⟩ : ∃ wa, wa = w.alloc (.cells #[.slice an ls.length cn, .slice ao l.length co, .slice as0 bs.length cs, .slice ar rs.length cr] 44) := ⟨_, rfl⟩
  have hsz : w.heap.size < wa.heap.size := by rw [hwa]; simp
  have P0 : Hid (Blk4 wa w.heap.size 44 (.slice an ls.length cn) (.slice ao l.length co) (.slice as0 bs.length cs) (.slice ar rs.length cr)) := by rw [hwa]; exact Blk4.new
  have HA : Hid (Below w.heap.size w wa) := by rw [hwa]; exact (Below.refl w.heap.size w).alloc (Nat.le_refl _) _
  have HWA := Lib.hid hwa
  have hml : m.length = ls.length := by omega
  obtain ⟨gn, on, an2, cn2, rfl, hgn, hcn, hrn⟩ := hatn t ht
  obtain ⟨_, _, hev, hcl, hcm, hatk⟩ := hrn.ints
  injection hev with hea _ hec
  subst hea hec
  unfold maxLen at hcm
  have HATK := Lib.hid hatk
  have HATM := Lib.hid hatm
  obtain ⟨hl10, hin⟩ := plan_task hpl ht
  have HIN := Lib.hid hin
  have HML := Lib.hid hml
  have HXM := Lib.hid hxm
  have HNC : Hid (wa.cell? ⟨gn, on + t, none⟩ = some (.slice an2 ls[t].length cn2)) := (HA.out.cell (p := ⟨gn, on + t, none⟩) hgn).trans hcn
  have htz : (t : Int) < (ls.length : Int) := by omega
  obtain ⟨c0, c1, c2, c3⟩ := P0.out.cells
  clear hwa hatn hatm hatk hin hpl hrn hml hmb hbl hxm
  go_enter Try.func83, Try.ntmps83
  go_wp2_with fail
  rw [← HWA.out]
  clear c0 c1 c2 c3 hcn
  go_loopw [7, 17] (fun q i wr => ∃ k : Nat, k ≤ ls[t].length ∧ i = .int .i64 k ∧ Hid (Below wa.heap.size wa wr) ∧ Hid (wr.ownsRow wa.heap.size 9 1 q (bodiesL m (ls[t].take k)).length (S (bodiesL m (ls[t].take k))))) (fun _ i _ => ls[t].length - (intOf i).toNat)
  case atStart => exact ⟨0, Nat.zero_le _, rfl, Below.refl _ _, none_own _ _ _⟩
  case round =>
    obtain ⟨k, hk, rfl, HB, HN⟩ := hrel
    have HBW := Lib.hid (bth HA.out HB.out (Nat.le_refl _))
    by_cases hlt : k < ls[t].length
    · obtain ⟨g, o, rfl, hg, hcell0⟩ := HATK.out k hlt
      have hcell := (HBW.out.cell (p := ⟨g, o + k, none⟩) hg).trans hcell0
      obtain ⟨hx0, hx1⟩ := HIN.out _ (List.getElem_mem hlt)
      obtain ⟨y, hy⟩ : ∃ y : Nat, ls[t][k] = y := ⟨(ls[t][k]).toNat, by omega⟩
      have hym : y < m.length := by have := HML.out; omega
      obtain ⟨g2, o2, rfl, hg2, hm1', hm2'⟩ := HATM.out y hym
      have s1 := (HBW.out.cell (p := ⟨g2, o2 + y * 2, none⟩) hg2).trans hm1'
      have s2 := (HBW.out.cell (p := ⟨g2, o2 + y * 2 + 1, none⟩) hg2).trans hm2'
      have hra := resAt_nat hym
      have hyz : (y : Int) < (m.length : Int) := by omega
      have HE := Lib.hid (bodies_next (m := m) hlt)
      rw [hy, hra] at HE
      have hxl : m[y].1.length ≤ 40 := HXM.out _ (List.getElem_mem hym)
      rw [hy] at hcell
      have hbl' : (bodiesL m (ls[t].take k)).length ≤ 10 := by rw [bodies_len, List.length_take]; omega
      clear hcell0 hx0 hx1 hy hm1' hm2' hra HATK HATM HIN HXM
      generalize m[y] = q at *
      generalize bodiesL m (ls[t].take k) = acc at *
      obtain ⟨q1, q2⟩ := q
      simp only at s1 s2 HE hxl
      have hIl : (S acc).length ≤ 1000000 := by rw [S_len]; omega
      obtain ⟨c0, c1, c2, c3⟩ := (P0.out.below HB.out hsz).cells
      have HN0 := HN
      have HBC := HB
      go_wp2_with (at_builtin; refine wpAppOne elemS rfl _ _ rfl wa.heap.size _ (S acc) rfl (by rw [S_len]; exact HN0.out) _ rfl (by simp) rfl hIl HBC.out.size ?_; intro v7 w7 hown7 hg7; have HN7 := Lib.hid (own_S2 hown7); have HB7 := Lib.hid (HBC.out.trans (below_own HN0.out hg7 HBC.out.size)); clear hown7 hg7)
      go_roundw
      case rel => exact ⟨k + 1, by omega, by go_num, HB7, by rw [HE.out]; exact HN7.out⟩
      case measure => simp [intOf]; omega
    · rw [List.take_of_length_le (by omega)] at HN
      clear HATK HATM HIN
      go_wp2_with fail
      go_ret
      exact ⟨_, rfl, own_base HN.out HA.out.size, HBW.out⟩

set_option maxRecDepth 20000 in
set_option maxHeartbeats 8000000 in
theorem implIns_any (ls : List (List Int)) (l : List Int) (bs : List Bool) (rs : List (List OpT)) (m : List ResT) (t : Nat) (v u : Value) (w : World) (hp : PlanV w v ls l bs rs) (hr : RowR w u m) (hpl : planA ls l bs rs = true) (hmb : m.length = bs.length) (ht : t < ls.length) (hxm : ∀ f ∈ m, f.1.length ≤ 40) :
    Calls Try.prog 84 #[v, u, .int .i64 (t : Int)] w (TextsPost w.heap.size (bodiesL m ls[t]) w) := by
  have hbl := (plan_parts hpl).2.1
  have HV := Lib.hid hp
  have HR := Lib.hid hr
  obtain ⟨nv, ov, sv, rv, rfl, h1, h2, h3, h4⟩ := hp
  obtain ⟨as0, cs, rfl, hs1, hs2, _⟩ := h3.boolsW
  obtain ⟨an, cn, rfl, hn1, hn2, hatn⟩ := h1.lists
  obtain ⟨ao, co, rfl, ho1, ho2, _⟩ := h2.ints
  obtain ⟨ar, cr, rfl, hr1, hr2, _⟩ := h4.lists
  obtain ⟨am, cm, rfl, hm1, hm2, hatm⟩ := hr.res
  clear h1 h2 h3 h4 hr
  unfold maxLen at hs2 hn2 ho2 hr2 hm2
  obtain ⟨wa, hwa⟩ : ∃ wa, wa = w.alloc (.cells #[.slice an ls.length cn, .slice ao l.length co, .slice as0 bs.length cs, .slice ar rs.length cr] 44) := ⟨_, rfl⟩
  have hsz : w.heap.size < wa.heap.size := by rw [hwa]; simp
  have P0 : Hid (Blk4 wa w.heap.size 44 (.slice an ls.length cn) (.slice ao l.length co) (.slice as0 bs.length cs) (.slice ar rs.length cr)) := by rw [hwa]; exact Blk4.new
  have HA : Hid (Below w.heap.size w wa) := by rw [hwa]; exact (Below.refl w.heap.size w).alloc (Nat.le_refl _) _
  have HWA := Lib.hid hwa
  have hml : m.length = ls.length := by omega
  obtain ⟨gn, on, an2, cn2, rfl, hgn, hcn, hrn⟩ := hatn t ht
  obtain ⟨_, _, hev, hcl, hcm, hatk⟩ := hrn.ints
  injection hev with hea _ hec
  subst hea hec
  unfold maxLen at hcm
  have HATK := Lib.hid hatk
  have HATM := Lib.hid hatm
  obtain ⟨hl10, hin⟩ := plan_task hpl ht
  have HIN := Lib.hid hin
  have HML := Lib.hid hml
  have HXM := Lib.hid hxm
  have HNC : Hid (wa.cell? ⟨gn, on + t, none⟩ = some (.slice an2 ls[t].length cn2)) := (HA.out.cell (p := ⟨gn, on + t, none⟩) hgn).trans hcn
  have htz : (t : Int) < (ls.length : Int) := by omega
  obtain ⟨c0, c1, c2, c3⟩ := P0.out.cells
  clear hwa hatn hatm hatk hin hpl hrn hml hmb hbl hxm
  go_enter Try.func84, Try.ntmps84
  go_wp2_with fail
  rw [← HWA.out]
  clear c0 c1 c2 c3 hcn
  go_loopw [7, 17] (fun q i wr => ∃ k : Nat, k ≤ ls[t].length ∧ i = .int .i64 k ∧ Hid (Below wa.heap.size wa wr) ∧ Hid (wr.ownsRow wa.heap.size 9 1 q (bodiesL m (ls[t].take k)).length (S (bodiesL m (ls[t].take k))))) (fun _ i _ => ls[t].length - (intOf i).toNat)
  case atStart => exact ⟨0, Nat.zero_le _, rfl, Below.refl _ _, none_own _ _ _⟩
  case round =>
    obtain ⟨k, hk, rfl, HB, HN⟩ := hrel
    have HBW := Lib.hid (bth HA.out HB.out (Nat.le_refl _))
    by_cases hlt : k < ls[t].length
    · obtain ⟨g, o, rfl, hg, hcell0⟩ := HATK.out k hlt
      have hcell := (HBW.out.cell (p := ⟨g, o + k, none⟩) hg).trans hcell0
      obtain ⟨hx0, hx1⟩ := HIN.out _ (List.getElem_mem hlt)
      obtain ⟨y, hy⟩ : ∃ y : Nat, ls[t][k] = y := ⟨(ls[t][k]).toNat, by omega⟩
      have hym : y < m.length := by have := HML.out; omega
      obtain ⟨g2, o2, rfl, hg2, hm1', hm2'⟩ := HATM.out y hym
      have s1 := (HBW.out.cell (p := ⟨g2, o2 + y * 2, none⟩) hg2).trans hm1'
      have s2 := (HBW.out.cell (p := ⟨g2, o2 + y * 2 + 1, none⟩) hg2).trans hm2'
      have hra := resAt_nat hym
      have hyz : (y : Int) < (m.length : Int) := by omega
      have HE := Lib.hid (bodies_next (m := m) hlt)
      rw [hy, hra] at HE
      have hxl : m[y].1.length ≤ 40 := HXM.out _ (List.getElem_mem hym)
      rw [hy] at hcell
      have hbl' : (bodiesL m (ls[t].take k)).length ≤ 10 := by rw [bodies_len, List.length_take]; omega
      clear hcell0 hx0 hx1 hy hm1' hm2' hra HATK HATM HIN HXM
      generalize m[y] = q at *
      generalize bodiesL m (ls[t].take k) = acc at *
      obtain ⟨q1, q2⟩ := q
      simp only at s1 s2 HE hxl
      have hIl : (S acc).length ≤ 1000000 := by rw [S_len]; omega
      obtain ⟨c0, c1, c2, c3⟩ := (P0.out.below HB.out hsz).cells
      go_wp2_with fail
      refine (clone_any q1 _ (by omega)).mono ?_
      rintro e wc ⟨rfl, hbc⟩
      have HN0 := Lib.hid (own_below HN.out hbc)
      have HBC := Lib.hid (bth HB.out hbc (Nat.le_refl _))
      clear hbc c0 c1 c2 c3
      go_wp2_with (at_builtin; refine wpAppOne elemS rfl _ _ rfl wa.heap.size _ (S acc) rfl (by rw [S_len]; exact HN0.out) _ rfl (by simp) rfl hIl HBC.out.size ?_; intro v7 w7 hown7 hg7; have HN7 := Lib.hid (own_S2 hown7); have HB7 := Lib.hid (HBC.out.trans (below_own HN0.out hg7 HBC.out.size)); clear hown7 hg7)
      go_roundw
      case rel => exact ⟨k + 1, by omega, by go_num, HB7, by rw [HE.out]; exact HN7.out⟩
      case measure => simp [intOf]; omega
    · rw [List.take_of_length_le (by omega)] at HN
      clear HATK HATM HIN
      go_wp2_with fail
      go_ret
      exact ⟨_, rfl, own_base HN.out HA.out.size, HBW.out⟩

end Go.Proofs.Ytnkkbleebfijgaa

/- Walks: what goes into a task, as it is told, of the reference and of the program. -/
namespace Go.Proofs.Ytnkkbleebfijgaa
open Go.RowKit Pth


set_option maxRecDepth 20000 in
set_option maxHeartbeats 8000000 in
theorem specInsOf_any (ls : List (List Int)) (l : List Int) (bs : List Bool) (rs : List (List OpT)) (m : List ResT) (t : Int) (v u : Value) (w : World) (hp : PlanV w v ls l bs rs) (hr : RowR w u m) (hx : ∀ l ∈ rs, ∀ f ∈ l, f.2.2.length ≤ maxLen) (hxm : ∀ f ∈ m, f.1.length ≤ maxLen) :
    Calls Try.prog 37 #[v, u, .int .i64 t] w (TextsOk (insA ls l bs rs m t) (inA ls l bs rs m t) w) := by
  have HV := Lib.hid hp
  have HR := Lib.hid hr
  obtain ⟨nv, ov, sv, rv, rfl, h1, h2, h3, h4⟩ := hp
  obtain ⟨as0, cs, rfl, hs1, hs2, _⟩ := h3.boolsW
  obtain ⟨an, cn, rfl, hn1, hn2, hatn⟩ := h1.lists
  obtain ⟨ao, co, rfl, ho1, ho2, _⟩ := h2.ints
  obtain ⟨ar, cr, rfl, hr1, hr2, _⟩ := h4.lists
  obtain ⟨am, cm, rfl, hm1, hm2, hatm⟩ := hr.res
  clear h1 h2 h3 h4 hr
  unfold maxLen at hs2 hn2 ho2 hr2 hm2
  obtain ⟨wa, hwa⟩ : ∃ wa, wa = w.alloc (.cells #[.slice an ls.length cn, .slice ao l.length co, .slice as0 bs.length cs, .slice ar rs.length cr] 44) := ⟨_, rfl⟩
  have hsz : w.heap.size < wa.heap.size := by rw [hwa]; simp
  have P0 : Hid (Blk4 wa w.heap.size 44 (.slice an ls.length cn) (.slice ao l.length co) (.slice as0 bs.length cs) (.slice ar rs.length cr)) := by rw [hwa]; exact Blk4.new
  have HA : Hid (Below w.heap.size w wa) := by rw [hwa]; exact (Below.refl w.heap.size w).alloc (Nat.le_refl _) _
  have HWA := Lib.hid hwa
  have HVW : Hid (∀ W, Below wa.heap.size wa W → PlanV W (.agg #[.slice an ls.length cn, .slice ao l.length co, .slice as0 bs.length cs, .slice ar rs.length cr]) ls l bs rs) := fun W h => HV.out.below (bth HA.out h (Nat.le_refl _))
  have HRW : Hid (∀ W, Below wa.heap.size wa W → RowR W (.slice am m.length cm) m) := fun W h => HR.out.below (bth HA.out h (Nat.le_refl _))
  obtain ⟨b, hb⟩ : ∃ b, bothA ls l bs rs m = b := ⟨_, rfl⟩
  obtain ⟨d, hd⟩ : ∃ d, (decide (0 ≤ t) && decide (t < (bs.length : Int))) = d := ⟨_, rfl⟩
  have HC := Lib.hid (specBoth_b hb _ _ wa (HVW.out wa (Below.refl _ _)) (HRW.out wa (Below.refl _ _)) hx hxm)
  obtain ⟨c0, c1, c2, c3⟩ := P0.out.cells
  have HATN := Lib.hid hatn
  have HATM := Lib.hid hatm
  clear hwa hatn hatm hx hxm
  rcases b with _ | _
  · have HT : Hid (inA ls l bs rs m t = false) := in_no hb
    clear hb hd HVW HRW
    go_enter Try.func37, Try.ntmps37
    go_wp2_with fail
    rw [← HWA.out]
    refine HC.out.mono ?_
    rintro e w1 ⟨rfl, hb1⟩
    have HB1 := Lib.hid (bth HA.out hb1 (Nat.le_refl _))
    clear hb1 c0 c1 c2 c3
    go_wp2_with fail
    go_ret2
    exact ⟨_, by rw [HT.out] <;> rfl, by rw [ins_no HT.out]; exact none_own _ _ _, HB1.out⟩
  have hpl := (both_parts hb).1
  have hml : m.length = ls.length := by have := (both_parts hb).2.2; have := (plan_parts hpl).2.1; omega
  have hbl : bs.length = ls.length := (plan_parts hpl).2.1
  have HIN : Hid (inA ls l bs rs m t = d) := by show _ = _; rw [in_yes hb, hd]
  have HPL := Lib.hid hpl
  have HMB := Lib.hid (both_parts hb).2.2
  have HRA := Lib.hid (both_parts hb).2.1
  have HCT := Lib.hid (fun W (h : Below wa.heap.size wa W) => l7Task_b hd _ W (HVW.out W h))
  rcases d with _ | _
  · clear hb hd hpl hml hbl
    go_enter Try.func37, Try.ntmps37
    go_wp2_with fail
    rw [← HWA.out]
    refine HC.out.mono ?_
    rintro e w1 ⟨rfl, hb1⟩
    have K1 := Lib.hid hb1
    clear hb1 c0 c1 c2 c3
    obtain ⟨c0, c1, c2, c3⟩ := (P0.out.below K1.out hsz).cells
    go_wp2_with fail
    refine (HCT.out w1 K1.out).mono ?_
    rintro e w2 ⟨rfl, hb2⟩
    have HB2 := Lib.hid (bth HA.out (bth K1.out hb2 (Nat.le_refl _)) (Nat.le_refl _))
    clear hb2 c0 c1 c2 c3
    go_wp2_with fail
    go_ret2
    exact ⟨_, by rw [HIN.out] <;> rfl, by rw [ins_no HIN.out]; exact none_own _ _ _, HB2.out⟩
  obtain ⟨j, hj⟩ : ∃ j : Nat, t = j := ⟨t.toNat, by simp only [Bool.and_eq_true, decide_eq_true_eq] at hd; omega⟩
  subst hj
  have hjl : j < ls.length := by simp only [Bool.and_eq_true, decide_eq_true_eq] at hd; omega
  have hjm : j < m.length := by omega
  have HJL := Lib.hid hjl
  have hjz : (j : Int) < (m.length : Int) := by omega
  have hjn : (j : Int) < (ls.length : Int) := by omega
  have HT : Hid (insA ls l bs rs m (j : Int) = bodiesL m ls[j]) := ins_yes HIN.out hjl
  clear hb hd hpl hml hbl
  go_enter Try.func37, Try.ntmps37
  go_wp2_with fail
  rw [← HWA.out]
  refine HC.out.mono ?_
  rintro e w1 ⟨rfl, hb1⟩
  have K1 := Lib.hid hb1
  clear hb1 c0 c1 c2 c3
  obtain ⟨c0, c1, c2, c3⟩ := (P0.out.below K1.out hsz).cells
  go_wp2_with fail
  refine (HCT.out w1 K1.out).mono ?_
  rintro e w2 ⟨rfl, hb2⟩
  have K2 := Lib.hid (bth K1.out hb2 (Nat.le_refl _))
  clear hb2 c0 c1 c2 c3
  obtain ⟨c0, c1, c2, c3⟩ := (P0.out.below K2.out hsz).cells
  go_wp2_with fail
  refine (specIns_any ls l bs rs m j _ _ w2 (HVW.out w2 K2.out) (HRW.out w2 K2.out) HPL.out HMB.out hjl (resA_small HRA.out).2).mono ?_
  rintro e w3 ⟨v3, rfl, ho3, hb3⟩
  have HO3 := Lib.hid ho3
  obtain ⟨q1, q2, rfl⟩ := own_slice ho3
  have HB3 := Lib.hid (bth HA.out (bth K2.out hb3 (Nat.le_refl _)) (Nat.le_refl _))
  have hs2 := Nat.le_trans HA.out.size K2.out.size
  clear hb3 c0 c1 c2 c3 ho3
  go_wp2_with fail
  go_ret2
  exact ⟨_, by rw [HIN.out] <;> rfl, by rw [HT.out]; exact own_base HO3.out hs2, HB3.out⟩

set_option maxRecDepth 20000 in
set_option maxHeartbeats 8000000 in
theorem implInsOf_any (ls : List (List Int)) (l : List Int) (bs : List Bool) (rs : List (List OpT)) (m : List ResT) (t : Int) (v u : Value) (w : World) (hp : PlanV w v ls l bs rs) (hr : RowR w u m) (hx : ∀ l ∈ rs, ∀ f ∈ l, f.2.2.length ≤ maxLen) (hxm : ∀ f ∈ m, f.1.length ≤ maxLen) :
    Calls Try.prog 38 #[v, u, .int .i64 t] w (TextsOk (insA ls l bs rs m t) (inA ls l bs rs m t) w) := by
  have HV := Lib.hid hp
  have HR := Lib.hid hr
  obtain ⟨nv, ov, sv, rv, rfl, h1, h2, h3, h4⟩ := hp
  obtain ⟨as0, cs, rfl, hs1, hs2, _⟩ := h3.boolsW
  obtain ⟨an, cn, rfl, hn1, hn2, hatn⟩ := h1.lists
  obtain ⟨ao, co, rfl, ho1, ho2, _⟩ := h2.ints
  obtain ⟨ar, cr, rfl, hr1, hr2, _⟩ := h4.lists
  obtain ⟨am, cm, rfl, hm1, hm2, hatm⟩ := hr.res
  clear h1 h2 h3 h4 hr
  unfold maxLen at hs2 hn2 ho2 hr2 hm2
  obtain ⟨wa, hwa⟩ : ∃ wa, wa = w.alloc (.cells #[.slice an ls.length cn, .slice ao l.length co, .slice as0 bs.length cs, .slice ar rs.length cr] 44) := ⟨_, rfl⟩
  have hsz : w.heap.size < wa.heap.size := by rw [hwa]; simp
  have P0 : Hid (Blk4 wa w.heap.size 44 (.slice an ls.length cn) (.slice ao l.length co) (.slice as0 bs.length cs) (.slice ar rs.length cr)) := by rw [hwa]; exact Blk4.new
  have HA : Hid (Below w.heap.size w wa) := by rw [hwa]; exact (Below.refl w.heap.size w).alloc (Nat.le_refl _) _
  have HWA := Lib.hid hwa
  have HVW : Hid (∀ W, Below wa.heap.size wa W → PlanV W (.agg #[.slice an ls.length cn, .slice ao l.length co, .slice as0 bs.length cs, .slice ar rs.length cr]) ls l bs rs) := fun W h => HV.out.below (bth HA.out h (Nat.le_refl _))
  have HRW : Hid (∀ W, Below wa.heap.size wa W → RowR W (.slice am m.length cm) m) := fun W h => HR.out.below (bth HA.out h (Nat.le_refl _))
  obtain ⟨b, hb⟩ : ∃ b, bothA ls l bs rs m = b := ⟨_, rfl⟩
  obtain ⟨d, hd⟩ : ∃ d, (decide (0 ≤ t) && decide (t < (bs.length : Int))) = d := ⟨_, rfl⟩
  have HC := Lib.hid (implBoth_b hb _ _ wa (HVW.out wa (Below.refl _ _)) (HRW.out wa (Below.refl _ _)) hx hxm)
  obtain ⟨c0, c1, c2, c3⟩ := P0.out.cells
  have HATN := Lib.hid hatn
  have HATM := Lib.hid hatm
  clear hwa hatn hatm hx hxm
  rcases b with _ | _
  · have HT : Hid (inA ls l bs rs m t = false) := in_no hb
    clear hb hd HVW HRW
    go_enter Try.func38, Try.ntmps38
    go_wp2_with fail
    rw [← HWA.out]
    refine HC.out.mono ?_
    rintro e w1 ⟨rfl, hb1⟩
    have HB1 := Lib.hid (bth HA.out hb1 (Nat.le_refl _))
    clear hb1 c0 c1 c2 c3
    go_wp2_with fail
    go_ret2
    exact ⟨_, by rw [HT.out] <;> rfl, by rw [ins_no HT.out]; exact none_own _ _ _, HB1.out⟩
  have hpl := (both_parts hb).1
  have hml : m.length = ls.length := by have := (both_parts hb).2.2; have := (plan_parts hpl).2.1; omega
  have hbl : bs.length = ls.length := (plan_parts hpl).2.1
  have HIN : Hid (inA ls l bs rs m t = d) := by show _ = _; rw [in_yes hb, hd]
  have HPL := Lib.hid hpl
  have HMB := Lib.hid (both_parts hb).2.2
  have HRA := Lib.hid (both_parts hb).2.1
  have HCT : Hid (∀ W, Below wa.heap.size wa W → Calls Try.prog 53 #[.agg #[.slice an ls.length cn, .slice ao l.length co], .int .i64 t] W fun e w' => e = .returned (.bool d) ∧ Below W.heap.size W w') := fun W h => by
    obtain ⟨_, _, _, _, he, k1, k2, _, _⟩ := HVW.out W h
    injection he with he
    simp only [Array.mk.injEq, List.cons.injEq, and_true] at he
    obtain ⟨rfl, rfl, _, _⟩ := he
    exact isTask_b (ls := ls) (l := l) ⟨_, _, rfl, k1, k2⟩ (by rw [← hd, hbl])
  rcases d with _ | _
  · clear hb hd hpl hml hbl
    go_enter Try.func38, Try.ntmps38
    go_wp2_with fail
    rw [← HWA.out]
    refine HC.out.mono ?_
    rintro e w1 ⟨rfl, hb1⟩
    have K1 := Lib.hid hb1
    clear hb1 c0 c1 c2 c3
    obtain ⟨c0, c1, c2, c3⟩ := (P0.out.below K1.out hsz).cells
    go_wp2_with fail
    refine (HCT.out w1 K1.out).mono ?_
    rintro e w2 ⟨rfl, hb2⟩
    have HB2 := Lib.hid (bth HA.out (bth K1.out hb2 (Nat.le_refl _)) (Nat.le_refl _))
    clear hb2 c0 c1 c2 c3
    go_wp2_with fail
    go_ret2
    exact ⟨_, by rw [HIN.out] <;> rfl, by rw [ins_no HIN.out]; exact none_own _ _ _, HB2.out⟩
  obtain ⟨j, hj⟩ : ∃ j : Nat, t = j := ⟨t.toNat, by simp only [Bool.and_eq_true, decide_eq_true_eq] at hd; omega⟩
  subst hj
  have hjl : j < ls.length := by simp only [Bool.and_eq_true, decide_eq_true_eq] at hd; omega
  have hjm : j < m.length := by omega
  have HJL := Lib.hid hjl
  have hjz : (j : Int) < (m.length : Int) := by omega
  have hjn : (j : Int) < (ls.length : Int) := by omega
  have HT : Hid (insA ls l bs rs m (j : Int) = bodiesL m ls[j]) := ins_yes HIN.out hjl
  clear hb hd hpl hml hbl
  go_enter Try.func38, Try.ntmps38
  go_wp2_with fail
  rw [← HWA.out]
  refine HC.out.mono ?_
  rintro e w1 ⟨rfl, hb1⟩
  have K1 := Lib.hid hb1
  clear hb1 c0 c1 c2 c3
  obtain ⟨c0, c1, c2, c3⟩ := (P0.out.below K1.out hsz).cells
  go_wp2_with fail
  refine (HCT.out w1 K1.out).mono ?_
  rintro e w2 ⟨rfl, hb2⟩
  have K2 := Lib.hid (bth K1.out hb2 (Nat.le_refl _))
  clear hb2 c0 c1 c2 c3
  obtain ⟨c0, c1, c2, c3⟩ := (P0.out.below K2.out hsz).cells
  go_wp2_with fail
  refine (implIns_any ls l bs rs m j _ _ w2 (HVW.out w2 K2.out) (HRW.out w2 K2.out) HPL.out HMB.out hjl (resA_small HRA.out).2).mono ?_
  rintro e w3 ⟨v3, rfl, ho3, hb3⟩
  have HO3 := Lib.hid ho3
  obtain ⟨q1, q2, rfl⟩ := own_slice ho3
  have HB3 := Lib.hid (bth HA.out (bth K2.out hb3 (Nat.le_refl _)) (Nat.le_refl _))
  have hs2 := Nat.le_trans HA.out.size K2.out.size
  clear hb3 c0 c1 c2 c3 ho3
  go_wp2_with fail
  go_ret2
  exact ⟨_, by rw [HIN.out] <;> rfl, by rw [HT.out]; exact own_base HO3.out hs2, HB3.out⟩

theorem insA_short (ls : List (List Int)) (l : List Int) (bs : List Bool) (rs : List (List OpT)) (m : List ResT) (t : Int) : (insA ls l bs rs m t).length ≤ 1000000 := by
  rcases h : inA ls l bs rs m t with _ | _
  · rw [ins_no h]; simp
  · have h' := h
    unfold inA at h'
    simp only [Bool.and_eq_true, decide_eq_true_eq] at h'
    obtain ⟨hb, h0, h1⟩ := h'
    obtain ⟨j, rfl⟩ : ∃ j : Nat, t = j := ⟨t.toNat, by omega⟩
    have hpl := (both_parts hb).1
    have hbl := (plan_parts hpl).2.1
    have hj : j < ls.length := by omega
    rw [ins_yes h hj, bodies_len]
    have := (plan_task hpl hj).1
    omega

end Go.Proofs.Ytnkkbleebfijgaa
