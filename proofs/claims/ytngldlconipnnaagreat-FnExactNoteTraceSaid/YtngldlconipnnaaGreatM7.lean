/- Texts of one claim, joined in their order. -/
import Derived.ArgAppend
import Derived.Test.YtngldlconipnnaaGreatM4
import Derived.Test.YtngldlconipnnaaGreatM6
import Derived.Test.YtngldlconipnnaaGreatM2
import Derived.Test.YtngldlconipnnaaGreatM1

/- Walks: the laws' marks in plans. -/
namespace Go.Proofs.YtngldlconipnnaaGreat
open Go.RowKit Pth

/-- Only blocks between two have turned, whatever they hold. -/
structure OnlyB (B C : Nat) (w w' : World) : Prop where
  below : Below B w w'
  above : ∀ i, C ≤ i → i < w.heap.size → w'.heap[i]? = w.heap[i]?
theorem OnlyB.trans {B C : Nat} {a b c : World} (h : OnlyB B C a b) (k : OnlyB B C b c) : OnlyB B C a c :=
  ⟨h.below.trans k.below, fun i hi hl => (k.above i hi (Nat.lt_of_lt_of_le hl h.below.size)).trans (h.above i hi hl)⟩
theorem OnlyB.of_below {B C : Nat} {w w' : World} (h : Below w.heap.size w w') (hB : B ≤ w.heap.size) : OnlyB B C w w' := ⟨h.mono hB, fun i _ hl => h.block i hl⟩
theorem OnlyB.of_only {B C : Nat} {w w' : World} (h : OnlyIn B C w w') : OnlyB B C w w' := ⟨h.below, h.above⟩
theorem OnlyB.of_grown {B C : Nat} {w w' : World} {r : Option Nat} (h : w.grownBy w' r) (hr : ∀ i, r = some i → B ≤ i ∧ i < C) (hB : B ≤ w.heap.size) : OnlyB B C w w' := by
  refine ⟨⟨h.os, h.tape, h.output, h.size, fun i hi => h.block i (by omega) (fun e => by have := (hr i e.symm).1; omega)⟩, fun i hi hl => h.block i hl (fun e => by have := (hr i e.symm).2; omega)⟩
theorem OnlyB.own {B C D e n z : Nat} {w w' : World} {v : Value} {xs : List Value} (hg : OnlyB B C w w') (h : w.ownsRow D e z v n xs) (hD : C ≤ D) : w'.ownsRow D e z v n xs := by
  refine ⟨h.1, ?_⟩
  rcases h.2 with h0 | ⟨g, cap, cur, hv, hB, hh, r⟩
  · exact .inl h0
  · exact .inr ⟨g, cap, cur, hv, hB, (hg.above g (by omega) (lt_of_block hh)).trans hh, r⟩
theorem OnlyB.blk4 {B C b t : Nat} {w w' : World} {x y z u : Value} (hg : OnlyB B C w w') (h : Blk4 w b t x y z u) (hb : C ≤ b) : Blk4 w' b t x y z u := (hg.above b hb (lt_of_block h)).trans h
theorem own_kept {B C D e n z : Nat} {w w' : World} {v : Value} {xs : List Value} (hg : OnlyIn B C w w') (he : e ≠ 3) (h : w.ownsRow D e z v n xs) : w'.ownsRow D e z v n xs := by
  refine ⟨h.1, ?_⟩
  rcases h.2 with h0 | ⟨g, cap, cur, hv, hB, hh, r⟩
  · exact .inl h0
  · exact .inr ⟨g, cap, cur, hv, hB, (hg.kept g _ e he hh).trans hh, r⟩

theorem BL_set (m : List Bool) (j : Nat) (b : Bool) : (BL m).set j (.bool b) = BL (m.set j b) := by simp [BL, List.map_set]

set_option maxRecDepth 20000 in
set_option maxHeartbeats 1000000 in
theorem markBoolS_any (l : List Bool) (k : Nat) (B : Nat) (v : Value) (w : World) (hown : w.ownsRow B 4 1 v l.length (BL l)) (hl : l.length ≤ 1100000) (hk : k ≤ 4000000) :
    Calls Tryz.prog 44 #[v, .int .i64 (k : Int)] w fun e w' => e = .returned (.int .i64 ((k + l.length : Nat) : Int)) ∧ w.grownBy w' v.ownBlock := by
  have HW := Lib.hid hown
  obtain ⟨a, cap, rfl⟩ := own_slice hown
  clear hown
  go_enter Tryz.func44, Tryz.ntmps44
  go_wp2_with fail
  go_loopw [1, 5] (fun q i wr => ∃ (j : Nat) (m : List Bool), j ≤ l.length ∧ m.length = l.length ∧ q = .int .i64 ((k + j : Nat) : Int) ∧ i = .int .i64 j ∧ wr.ownsRow B 4 1 (.slice a l.length cap) l.length (BL m) ∧ w.grownBy wr (Value.slice a l.length cap).ownBlock) (fun _ i _ => l.length - (intOf i).toNat)
  case atStart => exact ⟨0, l, Nat.zero_le _, rfl, rfl, rfl, HW.out, grown_refl _ _⟩
  case round =>
    clear HW
    obtain ⟨j, m, hj, hm, rfl, rfl, hown, hg⟩ := hrel
    have HM := Lib.hid hm
    by_cases hlt : j < l.length
    · obtain ⟨g, c2, hv⟩ : ∃ g c2, (Value.slice a l.length cap) = .slice (some ⟨g, 0, none⟩) l.length c2 := by
        rcases hown.2 with ⟨_, h0⟩ | ⟨g, c2, cur, hv, _⟩
        · omega
        · exact ⟨g, c2, hv⟩
      injection hv with hv1 hv2 hv3
      subst hv1
      have hc4 : l.length ≤ cap := by
        rcases hown.2 with ⟨_, h0⟩ | ⟨g, c2, cur, hv, _, _, h5, _⟩
        · omega
        · injection hv with _ _ hv3; omega
      have hfz := hown.frozenAt j
      have hcz : wr.cell? ⟨g, j, none⟩ = some (.bool (m[j]'(by omega))) := by
        rw [hown.cellAt j (by omega)]
        rw [List.getElem?_eq_getElem (by rw [BL_len]; omega), BL_get (by omega)]
      have HST := Lib.hid (fun b => hown.stored j (.bool b))
      have HG := Lib.hid hg
      generalize m[j]'(by omega) = y at hcz
      have HKJ := Lib.hid (show ((k + (j + 1) : Nat) : Int) = ((k + j : Nat) : Int) + 1 by omega)
      generalize hkj : k + j = kj at *
      have hkj2 : kj ≤ 5200000 := by omega
      clear hown hg hv2 hv3 hm
      clear hkj
      go_wp2_with fail
      go_roundw
      case rel => exact ⟨j + 1, m.set j ((kj : Int) % 3 == 0), by omega, by rw [List.length_set]; exact HM.out, by rw [HKJ.out], by go_num, by rw [← BL_set]; exact (HST.out _).1, grown_trans HG.out (HST.out _).2⟩
      case measure => simp [intOf]; omega
    · obtain rfl : j = l.length := by omega
      have HG := Lib.hid hg
      clear hown hg hm
      go_wp2_with fail
      go_ret
      exact ⟨rfl, HG.out⟩

theorem totalO3 {rs : List (List OpT)} {j : Nat} (hj : j < rs.length) (k : Nat) : ((k + 3 * totalO (rs.take (j + 1)) : Nat) : Int) = ((k + 3 * totalO (rs.take j) : Nat) : Int) + (rs[j].length : Int) * 3 := by
  rw [totalO_next hj]; omega

set_option maxRecDepth 20000 in
set_option maxHeartbeats 2000000 in
theorem markOpSS_any (rs : List (List OpT)) (k B C : Nat) (v : Value) (sl : List Value) (w : World) (hown : OwnOO B w v sl rs) (hC : ∀ p ∈ sl.zip rs, ∀ b, p.1.ownBlock = some b → b < C) (hB : B ≤ w.heap.size) (hl : rs.length + totalO rs ≤ 1100000) (hk : k + 3 * totalO rs ≤ 4000000) (hk1 : 1 ≤ k) :
    Calls Tryz.prog 45 #[v, .int .i64 (k : Int)] w fun e w' => e = .returned (.int .i64 ((k + 3 * totalO rs : Nat) : Int)) ∧ OnlyB B C w w' := by
  obtain ⟨hs, hrow, hL⟩ := hown
  have HW := Lib.hid hrow
  have HL0 := Lib.hid hL
  have HC := Lib.hid hC
  have HS := Lib.hid hs
  obtain ⟨a, cap, rfl⟩ := own_slice hrow
  clear hrow hL hC hs
  go_enter Tryz.func45, Tryz.ntmps45
  go_wp2_with fail
  go_loopw [1, 5] (fun q i wr => ∃ j : Nat, j ≤ rs.length ∧ q = .int .i64 ((k + 3 * totalO (rs.take j) : Nat) : Int) ∧ i = .int .i64 j ∧ Hid (wr.ownsRow B 93 1 (.slice a rs.length cap) rs.length sl) ∧ Hid (ListsO B wr ((sl.zip rs).drop j)) ∧ Hid (OnlyB B C w wr)) (fun _ i _ => rs.length - (intOf i).toNat)
  case atStart => exact ⟨0, Nat.zero_le _, by simp [totalO], rfl, HW, by simpa [Hid] using HL0.out, ⟨Below.refl _ _, fun _ _ _ => rfl⟩⟩
  case round =>
    clear HW HL0
    obtain ⟨j, hj, rfl, rfl, HN, HL, HG⟩ := hrel
    by_cases hlt : j < rs.length
    · have hjs : j < sl.length := by have := HS.out; omega
      have hz : j < (sl.zip rs).length := by rw [List.length_zip]; omega
      have hdr : (sl.zip rs).drop j = (sl[j], rs[j]) :: (sl.zip rs).drop (j + 1) := by rw [List.drop_eq_getElem_cons hz, List.getElem_zip]
      have hl1 := HL.out
      rw [hdr] at hl1
      obtain ⟨ho, hp⟩ := hl1
      rw [List.pairwise_cons] at hp
      have hone := ho (sl[j], rs[j]) (by simp)
      simp only at hone
      obtain ⟨g, c2, hv⟩ : ∃ g c2, (Value.slice a rs.length cap) = .slice (some ⟨g, 0, none⟩) rs.length c2 := by
        rcases HN.out.2 with ⟨_, h0⟩ | ⟨g, c2, cur, hv, _⟩
        · omega
        · exact ⟨g, c2, hv⟩
      injection hv with hv1 hv2 hv3
      subst hv1
      have hc4 : rs.length ≤ cap := by
        rcases HN.out.2 with ⟨_, h0⟩ | ⟨g, c2, cur, hv, _, _, h5, _⟩
        · omega
        · injection hv with _ _ hv3; omega
      have hcell : wr.cell? ⟨g, j, none⟩ = some sl[j] := by rw [HN.out.cellAt j (by omega), List.getElem?_eq_getElem hjs]
      obtain ⟨a2, c3, hsv⟩ := own_sliceG hone
      have hmem : (sl[j], rs[j]) ∈ sl.zip rs := zip_getO hjs hlt
      have hbw : B ≤ wr.heap.size := Nat.le_trans hB HG.out.below.size
      have ht1 := totalO_at hlt
      have ht2 := totalO_le (rs := rs) (k := j + 1)
      have ht3 := totalO_next hlt
      have HC1 := Lib.hid (markOpS_any rs[j] (k + 3 * totalO (rs.take j)) B sl[j] wr hone (by omega) (by omega) (by omega))
      have HT := Lib.hid (totalO3 hlt k)
      have HNX : Hid (∀ w1, wr.grownBy w1 (sl[j]).ownBlock → w1.ownsRow B 93 1 (.slice (some ⟨g, 0, none⟩) rs.length cap) rs.length sl ∧ ListsO B w1 ((sl.zip rs).drop (j + 1)) ∧ OnlyB B C w w1) := fun w1 hg => by
        refine ⟨own_apartG HN.out hg (own_typesG hone HN.out (by decide)), ⟨fun p hp' => ?_, hp.2⟩, HG.out.trans (OnlyB.of_grown hg (fun i hi => ⟨(hone.lt i hi).1, HC.out _ hmem i hi⟩) hbw)⟩
        exact own_apartG (ho p (by simp [hp'])) hg (fun b h1 h2 => hp.1 p hp' b h1 h2)
      rw [hsv] at hcell HC1 HNX
      clear hdr ho hp hone hmem ht1 ht2 ht3 hv2 hv3 HN HL HG hz
      generalize k + 3 * totalO (rs.take j) = kq at *
      generalize rs[j].length = nj at *
      go_wp2_with fail
      refine HC1.out.mono ?_
      rintro e w1 ⟨rfl, hg1⟩
      have HF := Lib.hid (HNX.out w1 hg1)
      clear hg1 HC1 HNX
      go_wp2_with fail
      go_roundw
      case rel => exact ⟨j + 1, by omega, by rw [HT.out], by go_num, HF.out.1, HF.out.2.1, HF.out.2.2⟩
      case measure => simp [intOf]; omega
    · have e1 : rs.take j = rs := List.take_of_length_le (by omega)
      rw [e1]
      clear HN HL
      go_wp2_with fail
      go_ret
      exact ⟨rfl, HG.out⟩

/-- How many marks a plan takes. -/
def markZ (ls : List (List Int)) (l : List Int) (bs : List Bool) (rs : List (List OpT)) : Nat := totalG ls l + bs.length + 3 * totalO rs
theorem OwnOO.kept {B C D : Nat} {w w' : World} {v : Value} {sl : List Value} {rs : List (List OpT)} (h : OwnOO B w v sl rs) (hg : OnlyIn D C w w') : OwnOO B w' v sl rs :=
  ⟨h.1, own_kept hg (by decide) h.2.1, fun p hp => own_kept hg (by decide) (h.2.2.1 p hp), h.2.2.2⟩
theorem OwnOO.grown {B B' e z n : Nat} {w w' : World} {v u : Value} {xs : List Value} {sl : List Value} {rs : List (List OpT)} (h : OwnOO B w v sl rs) (ho : w.ownsRow B' e z u n xs) (h1 : e ≠ 93) (h2 : e ≠ 110) (hg : w.grownBy w' u.ownBlock) : OwnOO B w' v sl rs :=
  ⟨h.1, own_apartG h.2.1 hg (own_typesG ho h.2.1 h1), h.2.2.outer ho h2 hg⟩

set_option maxRecDepth 20000 in
set_option maxHeartbeats 4000000 in
theorem markPlan_any (ls : List (List Int)) (l : List Int) (bs : List Bool) (rs : List (List OpT)) (B : Nat) (v : Value) (w0 w : World) (h0 : PlanO B w0 v ls l bs rs) (hb0 : Below w0.heap.size w0 w) (hB : B ≤ w0.heap.size) (hz : planZ ls l bs rs ≤ 1048576) :
    Calls Tryz.prog 15 #[v, .int .i64 1] w fun e w' => e = .returned (.int .i64 ((1 + markZ ls l bs rs : Nat) : Int)) ∧ OnlyB B w0.heap.size w w' := by
  obtain ⟨nv, ov, sv, rv, so, rfl, hg, hb, hr⟩ := h0
  unfold planZ at hz
  obtain ⟨an, cn, ao, co, he⟩ := hg.slices
  simp only [Value.agg.injEq, Array.mk.injEq, List.cons.injEq, and_true] at he
  obtain ⟨rfl, rfl⟩ := he
  obtain ⟨as0, cs, rfl⟩ := own_slice hb
  obtain ⟨ar, cr, rfl⟩ := own_slice hr.2.1
  obtain ⟨wa, hwa⟩ : ∃ wa, wa = w.alloc (.cells #[.slice an ls.length cn, .slice ao l.length co, .slice as0 bs.length cs, .slice ar rs.length cr] 45) := ⟨_, rfl⟩
  have P0 : Hid (Blk4 wa w.heap.size 45 (.slice an ls.length cn) (.slice ao l.length co) (.slice as0 bs.length cs) (.slice ar rs.length cr)) := by rw [hwa]; exact Blk4.new
  have hAw : Below w.heap.size w wa := by rw [hwa]; exact (Below.refl w.heap.size w).alloc (Nat.le_refl _) _
  have HA := Lib.hid hAw
  have H0A := Lib.hid (bth hb0 hAw (Nat.le_refl _))
  have hCw : w0.heap.size ≤ w.heap.size := hb0.size
  have HBO := Lib.hid (own_below hb H0A.out)
  have HRO := Lib.hid (hr.below H0A.out)
  have HRL := Lib.hid (fun p hp b h => ((hr.2.2.1 p hp).lt b h).2)
  have HBL := Lib.hid (fun b h => hb.lt b h)
  have HC := Lib.hid (markGraph_any ls l 1 B _ w0 wa hg H0A.out hB (by omega) (by omega))
  have hone : ((1 : Nat) : Int) = 1 := rfl
  rw [hone] at HC
  have htg : totalG ls l ≤ 1048576 := by unfold totalG; omega
  have HWA := Lib.hid hwa
  have HZ : Hid (1 + markZ ls l bs rs = 1 + totalG ls l + bs.length + 3 * totalO rs) := by show _ = _; unfold markZ; omega
  have HZ2 : Hid (1 + totalG ls l + bs.length + 3 * totalO rs ≤ 4000000 ∧ rs.length + totalO rs ≤ 1100000 ∧ bs.length ≤ 1100000) := ⟨by unfold totalG; omega, by omega, by omega⟩
  clear hwa hg hb hr hb0 hone hz
  go_enter Tryz.func15, Tryz.ntmps15
  go_wp2_with fail
  rw [← HWA.out]
  refine HC.out.mono ?_
  rintro e w1 ⟨rfl, _, hoi⟩
  have O1 := Lib.hid (OnlyB.of_only hoi)
  have P1 := Lib.hid (O1.out.blk4 P0.out hCw)
  have HB1 := Lib.hid (own_kept hoi (by decide) HBO.out)
  have HR1 := Lib.hid (HRO.out.kept hoi)
  have hs1 : w0.heap.size ≤ w1.heap.size := Nat.le_trans hCw (Nat.le_trans HA.out.size hoi.below.size)
  have HC1 := Lib.hid (markBoolS_any bs (1 + totalG ls l) B _ w1 HB1.out HZ2.out.2.2 (by omega))
  have c2 := P1.out.cells.2.2.1
  clear hoi HC
  go_wp2_with fail
  refine HC1.out.mono ?_
  rintro e w2 ⟨rfl, hg2⟩
  have O2 := Lib.hid (O1.out.trans (OnlyB.of_grown (B := B) (C := w0.heap.size) hg2 (fun i hi => HBL.out i hi) (Nat.le_trans hB hs1)))
  have P2 := Lib.hid ((OnlyB.of_grown (B := B) (C := w0.heap.size) hg2 (fun i hi => HBL.out i hi) (Nat.le_trans hB hs1)).blk4 P1.out hCw)
  have HR2 := Lib.hid (HR1.out.grown HB1.out (by decide) (by decide) hg2)
  have hs2 : w0.heap.size ≤ w2.heap.size := Nat.le_trans hs1 hg2.size
  have HC2 := Lib.hid (markOpSS_any rs (1 + totalG ls l + bs.length) B w0.heap.size _ so w2 HR2.out HRL.out (Nat.le_trans hB hs2) HZ2.out.2.1 HZ2.out.1 (by omega))
  have c3 := P2.out.cells.2.2.2
  clear hg2 HC1 c2
  go_wp2_with fail
  refine HC2.out.mono ?_
  rintro e w3 ⟨rfl, hg3⟩
  have O3 := Lib.hid ((OnlyB.of_below (B := B) (C := w0.heap.size) HA.out (Nat.le_trans hB hCw)).trans (O2.out.trans hg3))
  clear hg3 HC2 c3
  go_wp2_with fail
  go_ret
  exact ⟨by rw [HZ.out] <;> rfl, O3.out⟩
end Go.Proofs.YtngldlconipnnaaGreat

/- Traces in memory: wherever they lie, and in memory of the call's own, which may be cut at its front. -/
namespace Go.Proofs.YtngldlconipnnaaGreat
open Go.RowKit Pth

/-- Two lists that do not lie in one block. -/
def ApartS (p q : Value × List (List UInt8)) : Prop := ∀ b, p.1.ownBlock = some b → q.1.ownBlock ≠ some b
theorem ApartS.symm {p q : Value × List (List UInt8)} (h : ApartS p q) : ApartS q p := fun b h1 h2 => h b h2 h1
/-- Lists of texts of the call's own, no two in one block. -/
def ListsS (B : Nat) (w : World) (L : List (Value × List (List UInt8))) : Prop := (∀ p ∈ L, w.ownsRow B 9 1 p.1 p.2.length (S p.2)) ∧ L.Pairwise ApartS
theorem ListsS.below {B : Nat} {w w' : World} {L : List (Value × List (List UInt8))} (h : ListsS B w L) (hb : Below w.heap.size w w') : ListsS B w' L := ⟨fun p hp => own_below (h.1 p hp) hb, h.2⟩
theorem ListsS.base {B B' : Nat} {w : World} {L : List (Value × List (List UInt8))} (h : ListsS B w L) (hB : B' ≤ B) : ListsS B' w L := ⟨fun p hp => own_base (h.1 p hp) hB, h.2⟩
theorem ListsS.perm {B : Nat} {w : World} {L M : List (Value × List (List UInt8))} (h : ListsS B w L) (hp : L.Perm M) : ListsS B w M :=
  ⟨fun p hm => h.1 p (hp.mem_iff.2 hm), (hp.pairwise_iff (fun h => ApartS.symm h)).1 h.2⟩
theorem ListsS.snoc {B B2 : Nat} {w w' : World} {L : List (Value × List (List UInt8))} {v : Value} {l : List (List UInt8)} (h : ListsS B w L) (hb : Below w.heap.size w w') (hown : w'.ownsRow B2 9 1 v l.length (S l)) (h2 : w.heap.size ≤ B2) (hB : B ≤ B2) :
    ListsS B w' (L ++ [(v, l)]) := by
  refine ⟨fun p hp => ?_, ?_⟩
  · rw [List.mem_append, List.mem_singleton] at hp
    rcases hp with hp | rfl
    · exact own_below (h.1 p hp) hb
    · exact own_base hown hB
  · rw [List.pairwise_append]
    refine ⟨h.2, by simp, fun p hp q hq b hpb hqb => ?_⟩
    rw [List.mem_singleton] at hq
    subst hq
    have h1 := ((h.1 p hp).lt b hpb).2
    have h2' := (hown.lt b hqb).1
    omega
theorem ListsS.left {B : Nat} {w : World} {L M : List (Value × List (List UInt8))} (h : ListsS B w (L ++ M)) : ListsS B w L := ⟨fun p hp => h.1 p (List.mem_append.2 (.inl hp)), (List.pairwise_append.1 h.2).1⟩
theorem ListsS.right {B : Nat} {w : World} {L M : List (Value × List (List UInt8))} (h : ListsS B w (L ++ M)) : ListsS B w M := ⟨fun p hp => h.1 p (List.mem_append.2 (.inr hp)), (List.pairwise_append.1 h.2).2.1⟩
/-- One of them has turned, in its block or into a new one. -/
theorem ListsS.turn {B : Nat} {w w' : World} {L M : List (Value × List (List UInt8))} {v v' : Value} {l l' : List (List UInt8)} (h : ListsS B w (L ++ (v, l) :: M)) (hg : w.grownBy w' v.ownBlock) (hown : w'.ownsRow B 9 1 v' l'.length (S l'))
    (hv : ∀ b, v'.ownBlock = some b → v.ownBlock = some b ∨ w.heap.size ≤ b) : ListsS B w' (L ++ (v', l') :: M) := by
  obtain ⟨h1, h2⟩ := h
  rw [List.pairwise_append, List.pairwise_cons] at h2
  obtain ⟨p1, ⟨p2, p3⟩, p4⟩ := h2
  have ap : ∀ p ∈ L ++ M, ApartS (v, l) p := by
    intro p hp
    rcases List.mem_append.1 hp with h | h
    · exact (p4 p h (v, l) (by simp)).symm
    · exact p2 p h
  have own : ∀ p ∈ L ++ M, w.ownsRow B 9 1 p.1 p.2.length (S p.2) := fun p hp => h1 p (by rcases List.mem_append.1 hp with h | h <;> simp [h])
  have ap' : ∀ p ∈ L ++ M, ApartS (v', l') p := by
    intro p hp b hb hb'
    rcases hv b hb with h | h
    · exact ap p hp b h hb'
    · have := ((own p hp).lt b hb').2; omega
  refine ⟨fun p hp => ?_, ?_⟩
  · rw [List.mem_append, List.mem_cons] at hp
    rcases hp with hp | rfl | hp
    · exact own_apartI (h1 p (by simp [hp])) hg (ap p (by simp [hp]))
    · exact hown
    · exact own_apartI (h1 p (by simp [hp])) hg (ap p (by simp [hp]))
  · rw [List.pairwise_append, List.pairwise_cons]
    refine ⟨p1, ⟨fun p hp => ap' p (by simp [hp]), p3⟩, fun p hp q hq => ?_⟩
    rw [List.mem_cons] at hq
    rcases hq with rfl | hq
    · exact (ap' p (by simp [hp])).symm
    · exact p4 p hp q (by simp [hq])

/-- A list of another type has turned. -/
theorem ListsS.outer {B B' e n : Nat} {w w' : World} {L : List (Value × List (List UInt8))} {u : Value} {xs : List Value} (h : ListsS B w L) (ho : w.ownsRow B' e 1 u n xs) (he : e ≠ 9) (hg : w.grownBy w' u.ownBlock) : ListsS B w' L :=
  ⟨fun p hp => own_apartI (h.1 p hp) hg (own_typesI ho (h.1 p hp) he), h.2⟩
theorem ListsS.set {B : Nat} {w : World} {L : List (Value × List (List UInt8))} (h : ListsS B w L) {p : Addr} (hp : p.block < B) (u : Value) : ListsS B (w.setCell p u) L := by
  refine ⟨fun q hq => ?_, h.2⟩
  have ho := h.1 q hq
  refine ⟨ho.1, ?_⟩
  rcases ho.2 with h0 | ⟨g, cap, cur, hv, hg, hh, r⟩
  · exact .inl h0
  · exact .inr ⟨g, cap, cur, hv, hg, (Below.heap_setCell w p u g (by omega)).trans hh, r⟩

/-- Only the blocks of these lists have turned. -/
structure GrownS (w w' : World) (L : List (Value × List (List UInt8))) : Prop where
  os : w'.os = w.os
  tape : w'.tape = w.tape
  output : w'.output = w.output
  size : w.heap.size ≤ w'.heap.size
  block : ∀ i, i < w.heap.size → (∀ p ∈ L, p.1.ownBlock ≠ some i) → w'.heap[i]? = w.heap[i]?
theorem GrownS.refl (w : World) (L : List (Value × List (List UInt8))) : GrownS w w L := ⟨rfl, rfl, rfl, Nat.le_refl _, fun _ _ _ => rfl⟩
theorem GrownS.one {a b c : World} {L : List (Value × List (List UInt8))} {v : Value} {l : List (List UInt8)} (h : GrownS a b L) (k : b.grownBy c v.ownBlock) (hm : (v, l) ∈ L) : GrownS a c L :=
  ⟨k.os.trans h.os, k.tape.trans h.tape, k.output.trans h.output, Nat.le_trans h.size k.size, fun i hi hne => (k.block i (Nat.lt_of_lt_of_le hi h.size) (fun e => hne _ hm e.symm)).trans (h.block i hi hne)⟩
theorem GrownS.below {B : Nat} {w w' : World} {L : List (Value × List (List UInt8))} (h : GrownS w w' L) (hl : ListsS B w L) (hB : B ≤ w.heap.size) : Below B w w' :=
  ⟨h.os, h.tape, h.output, h.size, fun i hi => h.block i (by omega) (fun p hp e => by have := ((hl.1 p hp).lt i e).1; omega)⟩

/-- One of them is put in place of another: what is behind all of them goes to its place. -/
theorem ListsS.put {B : Nat} {w : World} {L : List (Value × List (List UInt8))} {x : Value × List (List UInt8)} (h : ListsS B w (L ++ [x])) (k : Nat) : ListsS B w (L.set k x) := by
  obtain ⟨h1, h2⟩ := h
  rw [List.pairwise_append] at h2
  obtain ⟨p1, _, p3⟩ := h2
  refine ⟨fun p hp => ?_, ?_⟩
  · rcases List.mem_or_eq_of_mem_set hp with h | h
    · exact h1 p (List.mem_append.2 (.inl h))
    · exact h1 p (by rw [h]; simp)
  · rw [List.pairwise_iff_getElem]
    intro i j hi hj hij
    rw [List.length_set] at hi hj
    rw [List.getElem_set, List.getElem_set]
    rw [List.pairwise_iff_getElem] at p1
    by_cases e1 : k = i
    · rw [if_pos e1, if_neg (by omega)]
      exact (p3 _ (List.getElem_mem hj) x (by simp)).symm
    · rw [if_neg e1]
      by_cases e2 : k = j
      · rw [if_pos e2]
        exact p3 _ (List.getElem_mem hi) x (by simp)
      · rw [if_neg e2]
        exact p1 i j hi hj hij
theorem ListsS.drop {B : Nat} {w : World} {L : List (Value × List (List UInt8))} (h : ListsS B w L) (k : Nat) : ListsS B w (L.drop k) :=
  ⟨fun p hp => h.1 p (List.mem_of_mem_drop hp), h.2.sublist (List.drop_sublist _ _)⟩

/-- A trace as cells, as a value. -/
def trC (u : Value) (t : TrT) : List Value := [.int .i64 t.1, u, .string ⟨t.2.2.1.toArray⟩, .int .i64 t.2.2.2]
def trV (u : Value) (t : TrT) : Value := .agg #[.int .i64 t.1, u, .string ⟨t.2.2.1.toArray⟩, .int .i64 t.2.2.2]
def TC : List Value → List TrT → List Value
  | u :: us, t :: ts => trC u t ++ TC us ts
  | _, _ => []
theorem TC_len {sl : List Value} {l : List TrT} (h : sl.length = l.length) : (TC sl l).length = l.length * 4 := by
  induction sl generalizing l with
  | nil => cases l with
    | nil => rfl
    | cons _ _ => simp at h
  | cons u us ih => cases l with
    | nil => simp at h
    | cons t ts =>
      have := ih (l := ts) (by simpa using h)
      rw [TC, List.length_append, this, List.length_cons]
      simp only [trC, List.length_cons, List.length_nil]; omega
theorem TC_append {sl sl' : List Value} {l l' : List TrT} (h : sl.length = l.length) : TC (sl ++ sl') (l ++ l') = TC sl l ++ TC sl' l' := by
  induction sl generalizing l with
  | nil => cases l with
    | nil => rfl
    | cons _ _ => simp at h
  | cons u us ih => cases l with
    | nil => simp at h
    | cons t ts =>
      have := ih (l := ts) (by simpa using h)
      simp only [List.cons_append, TC, this, List.append_assoc]
theorem TC_one' (u : Value) (t : TrT) : TC [u] [t] = trC u t := by simp [TC]
theorem TC_drop {sl : List Value} {l : List TrT} (h : sl.length = l.length) (k : Nat) : (TC sl l).drop (k * 4) = TC (sl.drop k) (l.drop k) := by
  by_cases hk : k ≤ l.length
  · have e : TC sl l = TC (sl.take k) (l.take k) ++ TC (sl.drop k) (l.drop k) := by
      rw [← TC_append (by rw [List.length_take, List.length_take, h]), List.take_append_drop, List.take_append_drop]
    have hl : (TC (sl.take k) (l.take k)).length = k * 4 := by rw [TC_len (by rw [List.length_take, List.length_take, h]), List.length_take]; omega
    rw [e, ← hl, List.drop_left]
  · rw [List.drop_of_length_le (by rw [TC_len h]; omega), List.drop_of_length_le (l := sl) (by omega)]; rfl
theorem TC_take {sl : List Value} {l : List TrT} (h : sl.length = l.length) {k : Nat} (hk : k ≤ l.length) : (TC sl l).take (k * 4) = TC (sl.take k) (l.take k) := by
  have e : TC sl l = TC (sl.take k) (l.take k) ++ TC (sl.drop k) (l.drop k) := by
    rw [← TC_append (by rw [List.length_take, List.length_take, h]), List.take_append_drop, List.take_append_drop]
  have hl : (TC (sl.take k) (l.take k)).length = k * 4 := by rw [TC_len (by rw [List.length_take, List.length_take, h]), List.length_take]; omega
  rw [e, ← hl, List.take_left]
theorem TC_at {sl : List Value} {l : List TrT} (h : sl.length = l.length) {k : Nat} (hk : k < l.length) :
    (TC sl l)[k * 4]? = some (.int .i64 l[k].1) ∧ (TC sl l)[k * 4 + 1]? = some (sl[k]'(by omega)) ∧ (TC sl l)[k * 4 + 2]? = some (.string ⟨(l[k]).2.2.1.toArray⟩) ∧ (TC sl l)[k * 4 + 3]? = some (.int .i64 l[k].2.2.2) := by
  have h1 : (TC sl l).drop (k * 4) = TC (sl.drop k) (l.drop k) := TC_drop h k
  rw [List.drop_eq_getElem_cons hk, List.drop_eq_getElem_cons (by omega : k < sl.length)] at h1
  have g : ∀ j : Nat, ((TC sl l).drop (k * 4))[j]? = (TC (sl[k]'(by omega) :: sl.drop (k + 1)) (l[k] :: l.drop (k + 1)))[j]? := fun j => by rw [h1]
  refine ⟨?_, ?_, ?_, ?_⟩
  · have := g 0; rw [List.getElem?_drop] at this; exact this
  · have := g 1; rw [List.getElem?_drop] at this; exact this
  · have := g 2; rw [List.getElem?_drop] at this; exact this
  · have := g 3; rw [List.getElem?_drop] at this; exact this
theorem trC_one {u : Value} (hu : u.oneCell' = true) (t : TrT) : ∀ x ∈ trC u t, x.oneCell' = true := by
  intro x hx
  simp only [trC, List.mem_cons, List.not_mem_nil, or_false] at hx
  rcases hx with h | h | h | h
  · rw [h]; rfl
  · rw [h]; exact hu
  · rw [h]; rfl
  · rw [h]; rfl
/-- A trace of a list is set. -/
theorem TC_set {sl : List Value} {l : List TrT} (h : sl.length = l.length) {k : Nat} (hk : k < l.length) (u : Value) (t : TrT) :
    ((((TC sl l).set (k * 4) (.int .i64 t.1)).set (k * 4 + 1) u).set (k * 4 + 2) (.string ⟨t.2.2.1.toArray⟩)).set (k * 4 + 3) (.int .i64 t.2.2.2) = TC (sl.set k u) (l.set k t) := by
  have es : sl = sl.take k ++ sl[k]'(by omega) :: sl.drop (k + 1) := by rw [← List.drop_eq_getElem_cons (by omega), List.take_append_drop]
  have el : l = l.take k ++ l[k] :: l.drop (k + 1) := by rw [← List.drop_eq_getElem_cons hk, List.take_append_drop]
  have e1 : sl.set k u = sl.take k ++ u :: sl.drop (k + 1) := by rw [List.set_eq_take_append_cons_drop, if_pos (by omega)]
  have e2 : l.set k t = l.take k ++ t :: l.drop (k + 1) := by rw [List.set_eq_take_append_cons_drop, if_pos hk]
  have ht : (sl.take k).length = (l.take k).length := by rw [List.length_take, List.length_take, h]
  have hl : (TC (sl.take k) (l.take k)).length = k * 4 := by rw [TC_len ht, List.length_take]; omega
  have e0 : TC sl l = TC (sl.take k) (l.take k) ++ TC (sl.drop k) (l.drop k) := by rw [← TC_append ht, List.take_append_drop, List.take_append_drop]
  rw [List.drop_eq_getElem_cons hk, List.drop_eq_getElem_cons (by omega : k < sl.length)] at e0
  rw [e0, e1, e2, TC_append ht]
  rw [List.set_append_right _ _ (by omega), hl, Nat.sub_self, List.set_append_right _ _ (by omega), hl, show k * 4 + 1 - k * 4 = 1 by omega, List.set_append_right _ _ (by omega), hl, show k * 4 + 2 - k * 4 = 2 by omega,
    List.set_append_right _ _ (by omega), hl, show k * 4 + 3 - k * 4 = 3 by omega]
  rfl

/-- A slice that reads as traces. -/
def RowT (w : World) (v : Value) (l : List TrT) : Prop :=
  ∃ sl : List Value, sl.length = l.length ∧ RowG 4 w v l.length (TC sl l) ∧ ∀ k (h1 : k < sl.length) (h2 : k < l.length), RowV w sl[k] (S l[k].2.1)
theorem RowT.below {w w' : World} {v : Value} {l : List TrT} (h : RowT w v l) (hb : Below w.heap.size w w') : RowT w' v l := by
  obtain ⟨sl, h1, h2, h3⟩ := h
  exact ⟨sl, h1, h2.below hb, fun k a b => (h3 k a b).below hb⟩
theorem RowT.traces {w : World} {v : Value} {l : List TrT} (h : RowT w v l) :
    ∃ a c, v = .slice a l.length c ∧ l.length ≤ c ∧ c ≤ maxLen ∧ ∀ k (hk : k < l.length), ∃ g o a2 c2, a = some ⟨g, o, none⟩ ∧ g < w.heap.size ∧ (w.cell? ⟨g, o + k * 4, none⟩ = some (.int .i64 l[k].1) ∧
      w.cell? ⟨g, o + k * 4 + 1, none⟩ = some (.slice a2 l[k].2.1.length c2) ∧ w.cell? ⟨g, o + k * 4 + 2, none⟩ = some (.string ⟨(l[k]).2.2.1.toArray⟩) ∧ w.cell? ⟨g, o + k * 4 + 3, none⟩ = some (.int .i64 l[k].2.2.2)) ∧ RowV w (.slice a2 l[k].2.1.length c2) (S l[k].2.1) := by
  obtain ⟨sl, hs, ⟨a, c, hv, h0, h1, h2, hat⟩, hr⟩ := h
  refine ⟨a, c, hv, h1, h2, fun k hk => ?_⟩
  obtain ⟨q0, q1, q2, q3⟩ := TC_at hs hk
  obtain ⟨g, o, ha, hg, hc⟩ := hat (k * 4) (by omega)
  obtain ⟨g1, o1, ha1, _, hc1⟩ := hat (k * 4 + 1) (by omega)
  obtain ⟨g2, o2, ha2, _, hc2⟩ := hat (k * 4 + 2) (by omega)
  obtain ⟨g3, o3, ha3, _, hc3⟩ := hat (k * 4 + 3) (by omega)
  rw [ha] at ha1 ha2 ha3
  obtain ⟨rfl, rfl⟩ := addr_inj ha1
  obtain ⟨rfl, rfl⟩ := addr_inj ha2
  obtain ⟨rfl, rfl⟩ := addr_inj ha3
  rw [List.getElem?_eq_getElem (by omega)] at q0 q1 q2 q3
  have hrk := hr k (by omega) hk
  obtain ⟨a2, c2, he, _⟩ := hrk.texts
  rw [he] at q1 hrk
  exact ⟨g, o, a2, c2, ha, hg, ⟨hc.trans q0, by rw [Nat.add_assoc]; exact hc1.trans q1, by rw [Nat.add_assoc]; exact hc2.trans q2, by rw [Nat.add_assoc]; exact hc3.trans q3⟩, hrk⟩
theorem RowT.front {w : World} {a : Option Addr} {c n : Nat} {l : List TrT} (h : RowT w (.slice a n c) l) (hn : n = l.length) (k : Nat) (hk : k ≤ n) : RowT w (.slice a k c) (l.take k) := by
  subst hn
  obtain ⟨sl, hs, h1, hr⟩ := h
  have e : (l.take k).length = k := by rw [List.length_take]; omega
  refine ⟨sl.take k, by rw [List.length_take, List.length_take, hs], ?_, fun j h1 h2 => ?_⟩
  · have := h1.front k hk
    rw [TC_take hs hk] at this
    rw [e]; exact this
  · have := hr j (by rw [List.length_take] at h1; omega) (by rw [List.length_take] at h2; omega)
    rw [List.getElem_take, List.getElem_take]; exact this

/-- A trace, as a value. -/
def TrV (w : World) (v : Value) (t : TrT) : Prop := ∃ a c, v = trV (.slice a t.2.1.length c) t ∧ RowV w (.slice a t.2.1.length c) (S t.2.1)
theorem TrV.below {w w' : World} {v : Value} {t : TrT} (h : TrV w v t) (hb : Below w.heap.size w w') : TrV w' v t := by
  obtain ⟨a, c, hv, h1⟩ := h
  exact ⟨a, c, hv, h1.below hb⟩

theorem elemT : ElemG 39 50 (.agg #[.int .i64 0, .slice none 0 0, .string ByteArray.empty, .int .i64 0]) 4 56 := ⟨Tryz.underlying39, by kernel_rfl, rfl, by decide, by decide⟩

/-- A row of the call's own, wherever in its block it begins. -/
def OwnA (B e z : Nat) (w : World) (v : Value) (n : Nat) (xs : List Value) : Prop :=
  xs.length = n * z ∧ ((v = .slice none 0 0 ∧ n = 0) ∨ ∃ g o cap cur, v = .slice (some ⟨g, o, none⟩) n cap ∧ B ≤ g ∧ w.heap[g]? = some (.cells cur e (0, 0)) ∧ n ≤ cap ∧ cap ≤ maxLen ∧ o + cap * z ≤ cur.size ∧ ∀ j (hj : j < xs.length), cur[o + j]? = some xs[j])
theorem OwnA.of_own {B e z n : Nat} {w : World} {v : Value} {xs : List Value} (h : w.ownsRow B e z v n xs) : OwnA B e z w v n xs := by
  refine ⟨h.1, ?_⟩
  rcases h.2 with h0 | ⟨g, cap, cur, hv, hB, hh, hn, hm, hs, ht⟩
  · exact .inl h0
  · refine .inr ⟨g, 0, cap, cur, hv, hB, hh, hn, hm, by omega, fun j hj => ?_⟩
    subst hv
    have := World.ownsRow.cellAt h j (by have := h.1; omega)
    rw [cell_of_row w g j cur _ (0, 0) hh, List.getElem?_eq_getElem hj] at this
    rw [Nat.zero_add]; exact this
theorem OwnA.row {B e z n : Nat} {w : World} {v : Value} {xs : List Value} (h : OwnA B e z w v n xs) : RowG z w v n xs := by
  rcases h.2 with ⟨hv, h0⟩ | ⟨g, o, cap, cur, hv, hB, hh, hn, hm, hs, hc⟩
  · exact ⟨none, 0, by rw [hv, h0], h.1, by omega, by unfold maxLen; omega, fun k hk => by have := h.1; rw [h0] at this; omega⟩
  · exact ⟨_, cap, hv, h.1, hn, hm, fun k hk => ⟨g, o, rfl, lt_of_block hh, by rw [cell_of_row w g (o + k) cur _ (0, 0) hh]; exact hc k hk⟩⟩
theorem OwnA.keep {B e z n : Nat} {w w' : World} {v : Value} {xs : List Value} (h : OwnA B e z w v n xs) (hk : ∀ g cur, v.ownBlock = some g → w.heap[g]? = some (.cells cur e (0, 0)) → w'.heap[g]? = w.heap[g]?) : OwnA B e z w' v n xs := by
  refine ⟨h.1, ?_⟩
  rcases h.2 with h0 | ⟨g, o, cap, cur, hv, hB, hh, r⟩
  · exact .inl h0
  · exact .inr ⟨g, o, cap, cur, hv, hB, (hk g cur (by rw [hv]; rfl) hh).trans hh, r⟩
theorem OwnA.below {B e z n : Nat} {w w' : World} {v : Value} {xs : List Value} (h : OwnA B e z w v n xs) (hb : Below w.heap.size w w') : OwnA B e z w' v n xs := h.keep fun g _ _ hh => hb.block g (lt_of_block hh)
theorem OwnA.base {B B' e z n : Nat} {w : World} {v : Value} {xs : List Value} (h : OwnA B e z w v n xs) (hB : B' ≤ B) : OwnA B' e z w v n xs := by
  refine ⟨h.1, ?_⟩
  rcases h.2 with h0 | ⟨g, o, cap, cur, hv, hg, r⟩
  · exact .inl h0
  · exact .inr ⟨g, o, cap, cur, hv, by omega, r⟩
theorem OwnA.lt {B e z n : Nat} {w : World} {v : Value} {xs : List Value} (h : OwnA B e z w v n xs) : ∀ b, v.ownBlock = some b → B ≤ b ∧ b < w.heap.size := by
  intro b hb
  rcases h.2 with ⟨hv, _⟩ | ⟨g, o, cap, cur, hv, hg, hh, _⟩
  · rw [hv] at hb; simp [Value.ownBlock] at hb
  · rw [hv] at hb
    simp only [Value.ownBlock, Option.some.injEq] at hb
    subst hb
    exact ⟨hg, lt_of_block hh⟩
theorem OwnA.slice {B e z n : Nat} {w : World} {v : Value} {xs : List Value} (h : OwnA B e z w v n xs) : ∃ a c, v = .slice a n c ∧ n ≤ c ∧ c ≤ maxLen := by
  obtain ⟨a, c, hv, _, h1, h2, _⟩ := h.row
  exact ⟨a, c, hv, h1, h2⟩
/-- Rows of two types do not share a block. -/
theorem OwnA.types {B B' e e' z z' n n' : Nat} {w : World} {v v' : Value} {xs xs' : List Value} (h : OwnA B e z w v n xs) (h' : w.ownsRow B' e' z' v' n' xs') (hne : e ≠ e') : ∀ k, v.ownBlock = some k → v'.ownBlock ≠ some k := by
  intro k hk hk'
  rcases h.2 with ⟨hv, _⟩ | ⟨g, o, cap, cur, hv, _, hg, _⟩
  · rw [hv] at hk; simp [Value.ownBlock] at hk
  · rcases h'.2 with ⟨hv', _⟩ | ⟨g', cap', cur', hv', _, hg', _⟩
    · rw [hv'] at hk'; simp [Value.ownBlock] at hk'
    · rw [hv] at hk; rw [hv'] at hk'
      simp only [Value.ownBlock, Option.some.injEq] at hk hk'
      subst hk
      subst hk'
      rw [hg] at hg'
      simp at hg'
      exact hne hg'.2
/-- Another row has turned. -/
theorem OwnA.apart {B e z n : Nat} {w w' : World} {v u : Value} {xs : List Value} (h : OwnA B e z w v n xs) (hg : w.grownBy w' u.ownBlock) (hne : ∀ k, u.ownBlock = some k → v.ownBlock ≠ some k) : OwnA B e z w' v n xs :=
  h.keep fun g _ hv hh => hg.block g (lt_of_block hh) (fun hi => hne g hi.symm hv)
theorem OwnA.other {B B' e e' z z' n n' : Nat} {w w' : World} {v u : Value} {xs ys : List Value} (h : OwnA B e z w v n xs) (ho : w.ownsRow B' e' z' u n' ys) (hne : e ≠ e') (hg : w.grownBy w' u.ownBlock) : OwnA B e z w' v n xs :=
  h.apart hg (fun k hk hv => h.types ho hne k hv hk)
/-- A row of another type stays as such a one turns. -/
theorem OwnA.stays {B B' e e' z z' n n' : Nat} {w w' : World} {v u : Value} {xs ys : List Value} (h : OwnA B e z w v n xs) (ho : w.ownsRow B' e' z' u n' ys) (hne : e ≠ e') (hg : w.grownBy w' v.ownBlock) : w'.ownsRow B' e' z' u n' ys :=
  own_apartG ho hg (h.types ho hne)
theorem ListsS.grownA {B B' e z n : Nat} {w w' : World} {v : Value} {xs : List Value} {L : List (Value × List (List UInt8))} (hl : ListsS B w L) (h : OwnA B' e z w v n xs) (hne : e ≠ 9) (hg : w.grownBy w' v.ownBlock) : ListsS B w' L :=
  ⟨fun p hp => h.stays (hl.1 p hp) hne hg, hl.2⟩
theorem OwnA.set_below {B e z n : Nat} {w : World} {v : Value} {xs : List Value} (h : OwnA B e z w v n xs) {p : Addr} (hp : p.block < B) (u : Value) : OwnA B e z (w.setCell p u) v n xs :=
  h.keep fun g _ hv _ => Below.heap_setCell w p u g (by have := (h.lt g hv).1; omega)
theorem OwnA.empty (B e z : Nat) (w : World) : OwnA B e z w (.slice none 0 0) 0 [] := ⟨by simp, .inl ⟨rfl, rfl⟩⟩
/-- A cell of it is written. -/
theorem OwnA.stored {B e z n : Nat} {w : World} {g o cap : Nat} {xs : List Value} (h : OwnA B e z w (.slice (some ⟨g, o, none⟩) n cap) n xs) (j : Nat) (u : Value) :
    OwnA B e z (w.setCell ⟨g, o + j, none⟩ u) (.slice (some ⟨g, o, none⟩) n cap) n (xs.set j u) ∧ w.grownBy (w.setCell ⟨g, o + j, none⟩ u) (some g) := by
  refine ⟨⟨by rw [List.length_set]; exact h.1, ?_⟩, ⟨rfl, rfl, rfl, by simp, fun i _ hne => Below.heap_setCell w _ _ i (fun e => hne (by rw [e]))⟩⟩
  rcases h.2 with ⟨hv, _⟩ | ⟨g', o', cap', cur, hv, hB, hh, hn, hm, hs, hc⟩
  · simp at hv
  · injection hv with e1 _ e3
    obtain ⟨rfl, rfl⟩ := addr_inj e1
    subst e3
    refine .inr ⟨g, o, cap, _, rfl, hB, heap_setCell_same w g (o + j) cur e u hh, hn, hm, by simpa using hs, fun i hi => ?_⟩
    rw [List.length_set] at hi
    rw [List.getElem_set]
    by_cases e : j = i
    · subst e
      rw [if_pos rfl, Array.getElem?_setIfInBounds_self_of_lt]
      have h1 := hc j hi
      by_cases hlt : o + j < cur.size
      · exact hlt
      · rw [Array.getElem?_eq_none (by omega)] at h1; cases h1
    · rw [if_neg e, Array.getElem?_setIfInBounds_ne (by omega)]
      exact hc i hi
theorem OwnA.soft {B e z n : Nat} {w : World} {g o cap : Nat} {xs : List Value} (h : OwnA B e z w (.slice (some ⟨g, o, none⟩) n cap) n xs) (j : Nat) : w.frozen? ⟨g, j, none⟩ = false := by
  rcases h.2 with ⟨hv, _⟩ | ⟨g', o', cap', cur, hv, hB, hh, _⟩
  · simp at hv
  · injection hv with e1 _ e3
    obtain ⟨rfl, rfl⟩ := addr_inj e1
    exact frozen_of_row w g j cur _ hh
theorem OwnA.cell {B e z n : Nat} {w : World} {g o cap : Nat} {xs : List Value} (h : OwnA B e z w (.slice (some ⟨g, o, none⟩) n cap) n xs) {j : Nat} {u : Value} (hj : xs[j]? = some u) : w.cell? ⟨g, o + j, none⟩ = some u := by
  rcases h.2 with ⟨hv, _⟩ | ⟨g', o', cap', cur, hv, hB, hh, _, _, _, hc⟩
  · simp at hv
  · injection hv with e1 _ e3
    obtain ⟨rfl, rfl⟩ := addr_inj e1
    obtain ⟨h1, h2⟩ := List.getElem?_eq_some_iff.1 hj
    rw [cell_of_row w g (o + j) cur _ (0, 0) hh, hc j h1, h2]
/-- Where it lies, if it has an element. -/
theorem OwnA.addr {B e z n : Nat} {w : World} {v : Value} {xs : List Value} (h : OwnA B e z w v n xs) (hn : 0 < n) : ∃ g o cap, v = .slice (some ⟨g, o, none⟩) n cap ∧ n ≤ cap ∧ cap ≤ maxLen ∧ g < w.heap.size ∧ B ≤ g := by
  rcases h.2 with ⟨_, h0⟩ | ⟨g, o, cap, cur, hv, hB, hh, h1, h2, _⟩
  · omega
  · exact ⟨g, o, cap, hv, h1, h2, lt_of_block hh, hB⟩
/-- Without its first ones. -/
theorem OwnA.cut {B e z n : Nat} {w : World} {a : Option Addr} {cap : Nat} {xs : List Value} (h : OwnA B e z w (.slice a n cap) n xs) (k : Nat) (hk : k ≤ n) :
    OwnA B e z w (.slice (if cap = k then a else a.map (·.add (k * z))) (n - k) (cap - k)) (n - k) (xs.drop (k * z)) := by
  have hlen : (xs.drop (k * z)).length = (n - k) * z := by rw [List.length_drop, h.1, Nat.sub_mul]
  refine ⟨hlen, ?_⟩
  rcases h.2 with ⟨hv, h0⟩ | ⟨g, o, cap', cur, hv, hB, hh, hn, hm, hs, hc⟩
  · injection hv with e1 e2 e3
    subst e1 e3
    obtain rfl : k = 0 := by omega
    exact .inl ⟨by simp [h0], by omega⟩
  · injection hv with e1 _ e3
    subst e1 e3
    by_cases e : cap = k
    · refine .inr ⟨g, o, 0, cur, ?_, hB, hh, by omega, by unfold maxLen; omega, by omega, fun j hj => ?_⟩
      · rw [if_pos e]; congr 1; omega
      · have h0 : n - k = 0 := by omega
        rw [hlen, h0] at hj; omega
    · have hks : k * z ≤ cap * z := Nat.mul_le_mul_right _ (by omega)
      refine .inr ⟨g, o + k * z, cap - k, cur, ?_, hB, hh, by omega, by omega, by rw [Nat.sub_mul]; omega, fun j hj => ?_⟩
      · rw [if_neg e, Option.map_some, add_addr]
      · rw [List.getElem_drop, Nat.add_assoc]
        exact hc _ _
/-- Cells that are written into a block, one behind the other. -/
theorem setCells_block (g : Nat) (e : TypeId) : ∀ (vs : List Value) (o : Nat) (w : World) (cur : Array Value), w.heap[g]? = some (.cells cur e (0, 0)) →
    ∃ cur', (w.setCells g o vs).heap[g]? = some (.cells cur' e (0, 0)) ∧ cur'.size = cur.size ∧ (∀ j (hj : j < vs.length), o + j < cur.size → cur'[o + j]? = some vs[j]) ∧ ∀ i, i < o → cur'[i]? = cur[i]?
  | [], o, w, cur, h => ⟨cur, h, rfl, fun j hj => by simp at hj, fun _ _ => rfl⟩
  | v :: vs, o, w, cur, h => by
    obtain ⟨cur', h1, h2, h3, h4⟩ := setCells_block g e vs (o + 1) (w.setCell ⟨g, o, none⟩ v) _ (heap_setCell_same w g o cur e v h)
    refine ⟨cur', h1, by rw [h2]; simp, fun j hj ho => ?_, fun i hi => ?_⟩
    · cases j with
      | zero => rw [Nat.add_zero, h4 o (by omega), Array.getElem?_setIfInBounds_self_of_lt (by omega)]; rfl
      | succ j =>
        have := h3 j (by simpa using hj) (by simp; omega)
        rw [show o + (j + 1) = o + 1 + j by omega, this]; rfl
    · rw [h4 i (by omega), Array.getElem?_setIfInBounds_ne (by omega)]
theorem setCells_frame (g : Nat) : ∀ (vs : List Value) (o : Nat) (w : World), (w.setCells g o vs).os = w.os ∧ (w.setCells g o vs).tape = w.tape ∧ (w.setCells g o vs).output = w.output ∧ (w.setCells g o vs).heap.size = w.heap.size ∧ ∀ i, i ≠ g → (w.setCells g o vs).heap[i]? = w.heap[i]?
  | [], _, _ => ⟨rfl, rfl, rfl, rfl, fun _ _ => rfl⟩
  | v :: vs, o, w => by
    obtain ⟨h1, h2, h3, h4, h5⟩ := setCells_frame g vs (o + 1) (w.setCell ⟨g, o, none⟩ v)
    exact ⟨h1, h2, h3, h4.trans (by simp), fun i hi => (h5 i hi).trans (Below.heap_setCell w ⟨g, o, none⟩ v i hi)⟩
/-- One put behind. -/
theorem OwnA.push {t e : TypeId} {zv : Value} {size bytes : Nat} (E : ElemG t e zv size bytes) {B n : Nat} {w : World} {v : Value} {xs : List Value} (h : OwnA B e size w v n xs) (y : Array Value) (hy : y.toList.length = size) (hone : ∀ u ∈ y.toList, u.oneCell' = true) (hl : n ≤ 1000000) (hB : B ≤ w.heap.size) (ty : TypeId) :
    ∃ v' w', (Builtin.append_ #[t, t] ty #[v, .slice (some ⟨w.heap.size, 0, none⟩) 1 1]).run Tryz.prog (w.alloc (.cells y e)) = .ok v' w' ∧ OwnA B e size w' v' (n + 1) (xs ++ y.toList) ∧ w.grownBy w' v.ownBlock ∧ (∀ b, v'.ownBlock = some b → v.ownBlock = some b ∨ w.heap.size ≤ b) := by
  obtain ⟨i0, hi, hz0, hz1, hz2⟩ := info_parts E.info
  have hpos := E.pos
  have hnews : ∀ j u, y.toList[j]? = some u → (w.alloc (.cells y e)).cell? ((⟨w.heap.size, 0, none⟩ : Addr).add j) = some u := by
    have := cells_new w y.toList e
    simpa using this
  rcases h.2 with ⟨hv, h0⟩ | ⟨g, o, cap, cur, hv, hg, hh, hn, hm, hs, hc⟩
  · subst h0
    have hxs : xs = [] := List.eq_nil_of_length_eq_zero (by rw [h.1]; omega)
    subst hxs hv
    have hown : (w.alloc (.cells y e)).ownsRow B e size (.slice none 0 0) 0 [] := ⟨by simp, .inl ⟨rfl, rfl⟩⟩
    obtain ⟨v', w', h1, h2, h3, _⟩ := run_append_own (P := Tryz.prog) (w.alloc (.cells y e)) B t ty e i0 zv size bytes E.under hi hz0 hz1 hz2 E.cells E.pos (.slice none 0 0) 0 [] hown ⟨w.heap.size, 0, none⟩ 1 1 y.toList (by rw [hy]; omega) hnews hone (by unfold maxLen; omega)
      (Nat.le_trans (Nat.mul_le_mul (by omega : 0 + 1 ≤ 1) E.small) (by decide)) (by simp; omega)
    refine ⟨v', w', h1, OwnA.of_own h2, ⟨h3.os, h3.tape, h3.output, Nat.le_trans (by simp) h3.size, fun k hk hne => (h3.block k (by simp; omega) hne).trans (Below.heap_alloc _ _ _ hk)⟩, fun b hb => .inr ?_⟩
    have hgrown := h3
    by_cases hlt : b < w.heap.size
    · exfalso
      rcases h2.2 with ⟨_, h0⟩ | ⟨g', cap', cur', hv', hB', hh', hn', hm', hs', ht'⟩
      · omega
      · obtain ⟨v2, w2, k1, k2, k3⟩ := run_append_own (P := Tryz.prog) (w.alloc (.cells y e)) (w.heap.size + 1) t ty e i0 zv size bytes E.under hi hz0 hz1 hz2 E.cells E.pos (.slice none 0 0) 0 [] ⟨by simp, .inl ⟨rfl, rfl⟩⟩ ⟨w.heap.size, 0, none⟩ 1 1 y.toList (by rw [hy]; omega) hnews hone (by unfold maxLen; omega)
          (Nat.le_trans (Nat.mul_le_mul (by omega : 0 + 1 ≤ 1) E.small) (by decide)) (by simp)
        rw [h1] at k1
        injection k1 with k1 _
        subst k1
        have := (k2.lt b hb).1
        omega
    · omega
  · subst hv
    have hgs := lt_of_block hh
    have hha : (w.alloc (.cells y e)).heap[g]? = some (.cells cur e (0, 0)) := (Below.heap_alloc w _ g hgs).trans hh
    by_cases hroom : n + 1 ≤ cap
    · have hnz : n * size + size ≤ cap * size := by rw [← Nat.succ_mul]; exact Nat.mul_le_mul_right _ hroom
      have hr := run_append_room_cells (P := Tryz.prog) (w.alloc (.cells y e)) t ty e i0 E.under hi g o n cap ⟨w.heap.size, 0, none⟩ 1 1 y.toList (by rw [hz1, hy]; omega) hnews hone hroom
        (fun j hj => by
          rw [hz1, cell_of_row _ g _ cur _ (0, 0) hha, Array.getElem?_eq_getElem (by omega)]; rfl)
        (fun j hj => frozen_of_row _ g _ cur _ hha)
      rw [hz1] at hr
      obtain ⟨cur', k1, k2, k3, k4⟩ := setCells_block g e y.toList (o + n * size) (w.alloc (.cells y e)) cur hha
      obtain ⟨f1, f2, f3, f4, f5⟩ := setCells_frame g y.toList (o + n * size) (w.alloc (.cells y e))
      refine ⟨_, _, hr, ⟨by rw [List.length_append, h.1, hy, Nat.succ_mul], .inr ⟨g, o, cap, cur', rfl, hg, k1, hroom, hm, by rw [k2]; exact hs, fun j hj => ?_⟩⟩, ⟨f1, f2, f3, by rw [f4]; simp, fun i hi hne => (f5 i (fun e => hne (by rw [e]; rfl))).trans (Below.heap_alloc w _ i hi)⟩, fun b hb => .inl hb⟩
      by_cases hjl : j < xs.length
      · rw [List.getElem_append_left hjl, k4 _ (by rw [h.1] at hjl; omega)]
        exact hc j hjl
      · rw [List.length_append] at hj
        have hx := h.1
        have e1 : o + n * size + (j - xs.length) = o + j := by omega
        have k := k3 (j - xs.length) (by omega) (by omega)
        rw [e1] at k
        rw [List.getElem_append_right (by omega), k]
    · obtain ⟨v', w', hr, hown, hgr⟩ := run_append_arg_grows (P := Tryz.prog) (w.alloc (.cells y e)) t ty e i0 zv size bytes E.under hi hz0 hz1 hz2 E.cells E.pos ⟨g, o, none⟩ n cap xs h.1
        (fun j u hj => by
          obtain ⟨hj1, hj2⟩ := List.getElem?_eq_some_iff.1 hj
          rw [add_addr, cell_of_row _ g _ cur _ (0, 0) hha, hc j hj1, hj2])
        ⟨w.heap.size, 0, none⟩ 1 1 y.toList (by rw [hy]; omega) hnews (by omega) (by unfold maxLen; omega) (Nat.le_trans (Nat.mul_le_mul (by omega : n + 1 ≤ 1000001) E.small) (by decide))
      refine ⟨v', w', hr, OwnA.base (OwnA.of_own hown) (by simp; omega), ⟨hgr.os, hgr.tape, hgr.output, Nat.le_trans (by simp) hgr.size, fun i hi hne => (hgr.block i (by simp; omega) (by simp)).trans (Below.heap_alloc w _ i hi)⟩, fun b hb => .inr ?_⟩
      have := (hown.lt b hb).1
      simp at this
      omega

/-- Traces of the call's own: their row, and their inputs, no two in one block. -/
def OwnT (B : Nat) (w : World) (v : Value) (sl : List Value) (l : List TrT) : Prop :=
  sl.length = l.length ∧ OwnA B 50 4 w v l.length (TC sl l) ∧ ListsS B w (sl.zip (l.map (·.2.1)))
theorem zip_getS {sl : List Value} {l : List TrT} {k : Nat} (h1 : k < sl.length) (h2 : k < l.length) : (sl[k], l[k].2.1) ∈ sl.zip (l.map (·.2.1)) := by
  rw [List.mem_iff_getElem]
  exact ⟨k, by simp; omega, by simp⟩
theorem OwnT.view {B : Nat} {w : World} {v : Value} {sl : List Value} {l : List TrT} (h : OwnT B w v sl l) : RowT w v l :=
  ⟨sl, h.1, h.2.1.row, fun _ h1 h2 => RowV.of_own (h.2.2.1 _ (zip_getS h1 h2))⟩
theorem OwnT.below {B : Nat} {w w' : World} {v : Value} {sl : List Value} {l : List TrT} (h : OwnT B w v sl l) (hb : Below w.heap.size w w') : OwnT B w' v sl l := ⟨h.1, h.2.1.below hb, h.2.2.below hb⟩
theorem OwnT.base {B B' : Nat} {w : World} {v : Value} {sl : List Value} {l : List TrT} (h : OwnT B w v sl l) (hB : B' ≤ B) : OwnT B' w v sl l := ⟨h.1, h.2.1.base hB, h.2.2.base hB⟩
theorem OwnT.set_below {B : Nat} {w : World} {v : Value} {sl : List Value} {l : List TrT} (h : OwnT B w v sl l) {p : Addr} (hp : p.block < B) (u : Value) : OwnT B (w.setCell p u) v sl l := ⟨h.1, h.2.1.set_below hp u, h.2.2.set hp u⟩
theorem OwnT.empty (B : Nat) (w : World) : OwnT B w (.slice none 0 0) [] [] := ⟨rfl, OwnA.empty B _ 4 w, by simp [ListsS]⟩
/-- Traces of the call's own, their inputs wherever they lie. -/
def OwnW (B : Nat) (w : World) (v : Value) (l : List TrT) : Prop :=
  ∃ sl : List Value, sl.length = l.length ∧ w.ownsRow B 50 4 v l.length (TC sl l) ∧ ∀ k (h1 : k < sl.length) (h2 : k < l.length), w.ownsRow 0 9 1 sl[k] l[k].2.1.length (S l[k].2.1)
theorem OwnW.view {B : Nat} {w : World} {v : Value} {l : List TrT} (h : OwnW B w v l) : RowT w v l := by
  obtain ⟨sl, h1, h2, h3⟩ := h
  exact ⟨sl, h1, RowG.of_own h2, fun k a b => RowV.of_own (h3 k a b)⟩
theorem OwnW.below {B : Nat} {w w' : World} {v : Value} {l : List TrT} (h : OwnW B w v l) (hb : Below w.heap.size w w') : OwnW B w' v l := by
  obtain ⟨sl, h1, h2, h3⟩ := h
  exact ⟨sl, h1, own_belowG h2 hb, fun k a b => own_below (h3 k a b) hb⟩
theorem OwnW.base {B B' : Nat} {w : World} {v : Value} {l : List TrT} (h : OwnW B w v l) (hB : B' ≤ B) : OwnW B' w v l := by
  obtain ⟨sl, h1, h2, h3⟩ := h
  exact ⟨sl, h1, own_baseG h2 hB, h3⟩
end Go.Proofs.YtngldlconipnnaaGreat

/- Walks: whether texts are too long, of both; with few texts beneath. -/
namespace Go.Proofs.YtngldlconipnnaaGreat
open Go.RowKit Pth

theorem long_any9 (l : List UInt8) (w : World) (_hl : l.length ≤ maxLen) : Calls Tryz.prog 86 #[.string ⟨l.toArray⟩] w fun e w' => e = .returned (.bool (decide (40 < l.length))) ∧ w' = w := by
  go_enter Tryz.func86, Tryz.ntmps86
  go_wp2
  go_ret
  refine ⟨?_, rfl⟩
  congr 2
  simp
  omega
theorem all_long9 {l : List (List UInt8)} {k : Nat} (h : k < l.length) (hx : 40 < l[k].length) : l.all (fun x => decide (x.length ≤ 40)) = false := by
  rw [List.all_eq_false]
  exact ⟨l[k], List.getElem_mem h, by simp; omega⟩
theorem take_next9 {l : List (List UInt8)} {k : Nat} (h : k < l.length) (ha : ∀ x ∈ l.take k, x.length ≤ 40) (hx : l[k].length ≤ 40) : ∀ x ∈ l.take (k + 1), x.length ≤ 40 := by
  intro x hm
  rw [List.take_succ_eq_append_getElem h, List.mem_append, List.mem_singleton] at hm
  rcases hm with h | h
  · exact ha x h
  · rw [h]; exact hx

set_option maxHeartbeats 1000000 in
theorem texts_any9 (l : List (List UInt8)) (v : Value) (w : World) (hrow : RowV w v (S l)) (hx : ∀ x ∈ l, x.length ≤ maxLen) :
    Calls Tryz.prog 76 #[v] w fun e w' => e = .returned (.bool (textsL l)) ∧ w = w' := by
  obtain ⟨a, cap, rfl, hc1, hc2, hat⟩ := hrow.texts
  clear hrow
  unfold maxLen at hc2 hx
  go_enter Tryz.func76, Tryz.ntmps76
  go_wp2_with fail
  go_loop [7] (fun i => ∃ k : Nat, k ≤ l.length ∧ i = .int .i64 k ∧ Hid (∀ x ∈ l.take k, x.length ≤ 40)) (fun i => l.length - (intOf i).toNat)
  case atStart => exact ⟨0, Nat.zero_le _, by go_num, by simp [Hid]⟩
  case round =>
    obtain ⟨k, hk, rfl, HO⟩ := hrel
    by_cases hlt : k < l.length
    · obtain ⟨g, o, rfl, hg, hcell⟩ := hat k hlt
      have hxl := hx l[k] (List.getElem_mem hlt)
      by_cases hy : (l[k]).length ≤ 40
      · have HS := Lib.hid (take_next9 hlt HO.out hy)
        generalize l[k] = x at hcell hxl hy
        have hyz : ¬ ((40 : Int) < (x.length : Int)) := by omega
        clear hat HO hx
        go_wp2_with fail
        go_round
        case rel => exact ⟨k + 1, by omega, by go_num, HS⟩
        case measure => simp [intOf]; omega
      · have HS := Lib.hid (all_long9 hlt (by omega))
        generalize l[k] = x at hcell hxl hy
        have hyz : ((40 : Int) < (x.length : Int)) := by omega
        clear hat HO hx
        go_wp2_with fail
        go_ret
        exact ⟨by rw [textsL, HS.out]; rfl, rfl⟩
    · have HS : Hid (l.all (fun x => decide (x.length ≤ 40)) = true) := by
        rw [Hid, List.all_eq_true]
        intro x hm
        have := HO.out x (by rw [List.take_of_length_le (by omega)]; exact hm)
        simpa using this
      have hltz : ¬ ((k : Int) < (l.length : Int)) := by omega
      clear hat HO hx
      go_wp2_with fail
      go_ret
      refine ⟨?_, rfl⟩
      rw [textsL, HS.out, Bool.true_and]
      show Ending.returned (.bool (decide ((l.length : Int) ≤ 10))) = _
      congr 2
      simp only [decide_eq_decide]
      omega

/-- Whether one is too long. -/
def longL9 (l : List (List UInt8)) : Bool := l.any (fun x => decide (40 < x.length))
theorem long_at9 {l : List (List UInt8)} {k : Nat} (h : k < l.length) (hx : 40 < l[k].length) : longL9 l = true := by
  rw [longL9, List.any_eq_true]
  exact ⟨l[k], List.getElem_mem h, by simpa using hx⟩
theorem long_none9 {l : List (List UInt8)} (h : ∀ x ∈ l, x.length ≤ 40) : longL9 l = false := by
  rw [longL9, List.any_eq_false]
  intro x hm
  have := h x hm
  simp; omega
/-- A place, or -1 where there is none. -/
def PlacePostO9 (b : Bool) (w : World) (e : Ending) (w' : World) : Prop := ∃ i : Int, e = .returned (.int .i64 i) ∧ (0 ≤ i ↔ b = true) ∧ w' = w

set_option maxRecDepth 20000 in
set_option maxHeartbeats 1000000 in
theorem index_anyO9 (l : List (List UInt8)) (v : Value) (w : World) (hrow : RowV w v (S l)) (hx : ∀ x ∈ l, x.length ≤ maxLen) :
    Calls Tryz.prog 95 #[v, .func (.func 86) #[] #[]] w (PlacePostO9 (longL9 l) w) := by
  obtain ⟨a, cap, rfl, hc1, hc2, hat⟩ := hrow.texts
  clear hrow
  have HL : Hid (∀ x ∈ l, ∀ W, Calls Tryz.prog 86 #[.string ⟨x.toArray⟩] W fun e w' => e = .returned (.bool (decide (40 < x.length))) ∧ w' = W) := fun x hm W => long_any9 x W (hx x hm)
  clear hx
  unfold maxLen at hc2
  go_enter Tryz.func95, Tryz.ntmps95
  go_wp2_with fail
  go_loop [8] (fun i => ∃ k : Nat, k ≤ l.length ∧ i = .int .i64 k ∧ Hid (∀ x ∈ l.take k, x.length ≤ 40)) (fun i => l.length - (intOf i).toNat)
  case atStart => exact ⟨0, Nat.zero_le _, by go_num, by simp [Hid]⟩
  case round =>
    obtain ⟨k, hk, rfl, HO⟩ := hrel
    by_cases hlt : k < l.length
    · obtain ⟨g, o, rfl, hg, hcell⟩ := hat k hlt
      have HC := Lib.hid (HL.out l[k] (List.getElem_mem hlt) w)
      have hltz : (k : Int) < (l.length : Int) := by omega
      by_cases hy : (l[k]).length ≤ 40
      · have HS := Lib.hid (take_next9 hlt HO.out hy)
        rw [show decide (40 < (l[k]).length) = false from decide_eq_false (by omega)] at HC
        generalize l[k] = x at hcell hy HC
        clear hat HO HL
        go_wp2_with (go_at_call 86; refine HC.out.mono ?_; rintro e w1 ⟨rfl, rfl⟩)
        go_round
        case rel => exact ⟨k + 1, by omega, by go_num, HS⟩
        case measure => simp [intOf]; omega
      · have HS := Lib.hid (long_at9 hlt (by omega))
        rw [show decide (40 < (l[k]).length) = true from decide_eq_true (by omega)] at HC
        generalize l[k] = x at hcell hy HC
        clear hat HO HL
        go_wp2_with (go_at_call 86; refine HC.out.mono ?_; rintro e w1 ⟨rfl, rfl⟩)
        go_ret
        exact ⟨(k : Int), rfl, by rw [HS.out]; simp, rfl⟩
    · have HS := Lib.hid (long_none9 (l := l) (fun x hm => HO.out x (by rw [List.take_of_length_le (by omega)]; exact hm)))
      have hltz : ¬ ((k : Int) < (l.length : Int)) := by omega
      clear hat HO HL
      go_wp2_with fail
      go_ret
      exact ⟨-1, rfl, by rw [HS.out]; simp, rfl⟩

set_option maxRecDepth 20000 in
set_option maxHeartbeats 1000000 in
theorem contains_anyO9 (l : List (List UInt8)) (v : Value) (w : World) (hrow : RowV w v (S l)) (hx : ∀ x ∈ l, x.length ≤ maxLen) :
    Calls Tryz.prog 85 #[v, .func (.func 86) #[] #[]] w fun e w' => e = .returned (.bool (longL9 l)) ∧ w' = w := by
  have HC := Lib.hid (index_anyO9 l v w hrow hx)
  clear hrow hx
  go_enter Tryz.func85, Tryz.ntmps85
  go_wp2_with fail
  refine HC.out.mono ?_
  rintro e w1 ⟨i, rfl, hi, rfl⟩
  have HI := Lib.hid hi
  clear hi HC
  go_wp2_with fail
  go_ret
  refine ⟨?_, rfl⟩
  show Ending.returned (.bool (decide (0 ≤ i))) = _
  congr 2
  rw [Bool.eq_iff_iff, decide_eq_true_eq]
  exact HI.out

end Go.Proofs.YtngldlconipnnaaGreat

/- Walks: what blocks a task, as it is told, of the reference and of the program. -/
namespace Go.Proofs.YtngldlconipnnaaGreat
open Go.RowKit Pth

theorem in_no {ls : List (List Int)} {l : List Int} {bs : List Bool} {rs : List (List OpT)} {m : List ResT} {t : Int} (h : bothA ls l bs rs m = false) : inA ls l bs rs m t = false := by unfold inA; rw [h]; rfl
theorem in_yes {ls : List (List Int)} {l : List Int} {bs : List Bool} {rs : List (List OpT)} {m : List ResT} {t : Int} (h : bothA ls l bs rs m = true) : inA ls l bs rs m t = (decide (0 ≤ t) && decide (t < (bs.length : Int))) := by unfold inA; rw [h]; rfl
theorem block_no {ls : List (List Int)} {l : List Int} {bs : List Bool} {rs : List (List OpT)} {m : List ResT} {t : Int} (h : inA ls l bs rs m t = false) : blockA ls l bs rs m t = (0, false) := by unfold blockA; rw [h]; rfl
theorem block_un {ls : List (List Int)} {l : List Int} {bs : List Bool} {rs : List (List OpT)} {m : List ResT} {t : Int} (h : (resAt m t).2 ≠ 2) : blockA ls l bs rs m t = (0, false) := by unfold blockA; rw [decide_eq_false h]; simp
theorem block_yes {ls : List (List Int)} {l : List Int} {bs : List Bool} {rs : List (List OpT)} {m : List ResT} {j : Nat} (h : inA ls l bs rs m (j : Int) = true) (h2 : (resAt m (j : Int)).2 = 2) (hj : j < ls.length) : blockA ls l bs rs m (j : Int) = firstL m ls[j] := by
  unfold blockA; rw [h, decide_eq_true h2, needsAt_get hj]; rfl
theorem ins_no {ls : List (List Int)} {l : List Int} {bs : List Bool} {rs : List (List OpT)} {m : List ResT} {t : Int} (h : inA ls l bs rs m t = false) : insA ls l bs rs m t = [] := by unfold insA; rw [h]; rfl
theorem ins_yes {ls : List (List Int)} {l : List Int} {bs : List Bool} {rs : List (List OpT)} {m : List ResT} {j : Nat} (h : inA ls l bs rs m (j : Int) = true) (hj : j < ls.length) : insA ls l bs rs m (j : Int) = bodiesL m ls[j] := by
  unfold insA; rw [h, needsAt_get hj]; rfl

set_option maxRecDepth 20000 in
set_option maxHeartbeats 1000000 in
theorem l7Task_b {ls : List (List Int)} {l : List Int} {bs : List Bool} {rs : List (List OpT)} {t : Int} {b : Bool} (h : (decide (0 ≤ t) && decide (t < (bs.length : Int))) = b) (v : Value) (w : World) (hp : PlanV w v ls l bs rs) :
    Calls Tryz.prog 75 #[v, .int .i64 t] w (BoolPost b w) := by
  obtain ⟨nv, ov, sv, rv, rfl, h1, h2, h3, h4⟩ := hp
  obtain ⟨as0, cs, rfl, hs1, hs2, _⟩ := h3.boolsW
  obtain ⟨an, cn, rfl, hn1, hn2, _⟩ := h1.lists
  obtain ⟨ao, co, rfl, ho1, ho2, _⟩ := h2.ints
  obtain ⟨ar, cr, rfl, hr1, hr2, _⟩ := h4.lists
  clear h1 h2 h3 h4
  unfold maxLen at hs2 hn2 ho2 hr2
  have HC := Lib.hid (fun W => l1In_task (w := W) h)
  have HB := Lib.hid ((Below.refl w.heap.size w).alloc (Nat.le_refl _) (.cells #[.slice an ls.length cn, .slice ao l.length co, .slice as0 bs.length cs, .slice ar rs.length cr] 45))
  clear h
  go_enter Tryz.func75, Tryz.ntmps75
  go_wp2_with fail
  refine (HC.out _).mono ?_
  rintro e w1 ⟨rfl, rfl⟩
  go_wp2_with fail
  go_ret
  exact ⟨rfl, HB.out⟩

end Go.Proofs.YtngldlconipnnaaGreat

/- Walks: the reference on one trace: its inputs, where it lies, whether it is one. -/
namespace Go.Proofs.YtngldlconipnnaaGreat
open Go.RowKit Pth

set_option maxRecDepth 20000 in
set_option maxHeartbeats 8000000 in
theorem specIns9_b (ls : List (List Int)) (l : List Int) (bs : List Bool) (rs : List (List OpT)) (t : Int) (ins : List (List UInt8)) {b : Bool} (hb : insOk ls bs t ins = b) (v x : Value) (w : World) (hp : PlanV w v ls l bs rs) (hr : RowV w x (S ins)) (hpl : planA ls l bs rs = true) (hx : ∀ y ∈ ins, y.length ≤ maxLen) :
    Calls Tryz.prog 54 #[v, .int .i64 t, x] w (BoolPost b w) := by
  have hbl := (plan_parts hpl).2.1
  have HV := Lib.hid hp
  obtain ⟨nv, ov, sv, rv, rfl, h1, h2, h3, h4⟩ := hp
  obtain ⟨as0, cs, rfl, hs1, hs2, hats⟩ := h3.boolsW
  obtain ⟨an, cn, rfl, hn1, hn2, hatn⟩ := h1.lists
  obtain ⟨ao, co, rfl, ho1, ho2, hato⟩ := h2.ints
  obtain ⟨ar, cr, rfl, hr1, hr2, hatr⟩ := h4.lists
  clear h1 h2 h3 h4
  unfold maxLen at hs2 hn2 ho2 hr2
  obtain ⟨wa, hwa⟩ : ∃ wa, wa = w.alloc (.cells #[.slice an ls.length cn, .slice ao l.length co, .slice as0 bs.length cs, .slice ar rs.length cr] 45) := ⟨_, rfl⟩
  have hsz : w.heap.size < wa.heap.size := by rw [hwa]; simp
  have P0 : Hid (Blk4 wa w.heap.size 45 (.slice an ls.length cn) (.slice ao l.length co) (.slice as0 bs.length cs) (.slice ar rs.length cr)) := by rw [hwa]; exact Blk4.new
  have HA : Hid (Below w.heap.size w wa) := by rw [hwa]; exact (Below.refl w.heap.size w).alloc (Nat.le_refl _) _
  have HWA : Hid (w.alloc (.cells #[.slice an ls.length cn, .slice ao l.length co, .slice as0 bs.length cs, .slice ar rs.length cr] 45) = wa) := by rw [hwa]; rfl
  have HVW : Hid (∀ W, Below wa.heap.size wa W → PlanV W (.agg #[.slice an ls.length cn, .slice ao l.length co, .slice as0 bs.length cs, .slice ar rs.length cr]) ls l bs rs) := fun W h => HV.out.below (bth HA.out h (Nat.le_refl _))
  clear hwa
  have HT := Lib.hid (fun W (h : Below wa.heap.size wa W) => texts_any9 ins x W (hr.below (bth HA.out h (Nat.le_refl _))) hx)
  obtain ⟨ai, ci, rfl, hi1, hi2, _⟩ := hr.texts
  unfold maxLen at hi2
  have HB := Lib.hid hb
  obtain ⟨c0, c1, c2, c3⟩ := P0.out.cells
  obtain ⟨d, hd⟩ : ∃ d, (decide (0 ≤ t) && decide (t < (bs.length : Int))) = d := ⟨_, rfl⟩
  have HCT := Lib.hid (l7Task_b hd _ wa (HVW.out wa (Below.refl _ _)))
  have HATS := Lib.hid hats
  have HATN := Lib.hid hatn
  clear hr hx hb hats hatn hato hatr
  rcases d with _ | _
  · have HE : Hid (b = false) := by
      rw [← HB.out]; show _ = _
      unfold insOk
      rw [hbl] at hd
      rw [hd]; simp
    clear hd HB hbl hpl
    go_enter Tryz.func54, Tryz.ntmps54
    go_wp2_with fail
    rw [HWA.out]
    refine HCT.out.mono ?_
    rintro e w1 ⟨rfl, hb1⟩
    have HB1 := Lib.hid (bth HA.out hb1 (Nat.le_refl _))
    clear hb1 c0 c1 c2 c3
    go_wp2_with fail
    go_ret
    exact ⟨by rw [HE.out] <;> rfl, HB1.out⟩
  obtain ⟨j, hj⟩ : ∃ j : Nat, t = j := ⟨t.toNat, by simp only [Bool.and_eq_true, decide_eq_true_eq] at hd; omega⟩
  subst hj
  have hjb : j < bs.length := by simp only [Bool.and_eq_true, decide_eq_true_eq] at hd; omega
  have hjl : j < ls.length := by omega
  have HE : Hid (b = (!bs[j] && (decide (ins.length = ls[j].length) && textsL ins))) := by
    rw [← HB.out]; show _ = _
    unfold insOk
    rw [Int.toNat_natCast, getD_at _ hjb, getD_at _ hjl, ← hbl, hd, Bool.true_and, Bool.and_assoc]
  obtain ⟨gs, os, rfl, hgs, hcs⟩ := HATS.out j hjb
  have hsc := (HA.out.cell (p := ⟨gs, os + j, none⟩) hgs).trans hcs
  have hjz : (j : Int) < (bs.length : Int) := by omega
  have hjn : (j : Int) < (ls.length : Int) := by omega
  obtain ⟨gn, on, a2, c2', rfl, hgn, hcn, hrn⟩ := HATN.out j hjl
  have hnc := (HA.out.cell (p := ⟨gn, on + j, none⟩) hgn).trans hcn
  have hgsa : gs < wa.heap.size := by omega
  have hgna : gn < wa.heap.size := by omega
  clear hd HB hcs hcn hrn HATS HATN hbl hpl
  generalize bs[j] = s at *
  generalize hnl : ls[j].length = nl at *
  rcases s with _ | _
  · by_cases hl : ins.length = nl
    · have hl1 : ((ins.length : Int) == (nl : Int)) = true := by simp [hl]
      have HE2 : Hid (b = textsL ins) := by rw [HE.out, decide_eq_true hl]; rfl
      clear HE hl
      generalize textsL ins = tb at *
      go_enter Tryz.func54, Tryz.ntmps54
      go_wp2_with fail
      rw [HWA.out]
      refine HCT.out.mono ?_
      rintro e w1 ⟨rfl, hb1⟩
      have K1 := Lib.hid hb1
      have s1 := (hb1.cell (p := ⟨gs, os + j, none⟩) hgsa).trans hsc
      have s2 := (hb1.cell (p := ⟨gn, on + j, none⟩) hgna).trans hnc
      clear hb1 c0 c1 c2 c3 hsc hnc
      obtain ⟨c0, c1, c2, c3⟩ := (P0.out.below K1.out hsz).cells
      go_wp2_with fail
      refine (HT.out w1 K1.out).mono ?_
      rintro e w2 ⟨rfl, rfl⟩
      go_wp2_with fail
      go_ret
      exact ⟨by rw [HE2.out] <;> rfl, bth HA.out K1.out (Nat.le_refl _)⟩
    · have hl1 : ((ins.length : Int) == (nl : Int)) = false := by simp; omega
      have HE2 : Hid (b = false) := by rw [HE.out, decide_eq_false hl]; rfl
      clear HE hl HT
      go_enter Tryz.func54, Tryz.ntmps54
      go_wp2_with fail
      rw [HWA.out]
      refine HCT.out.mono ?_
      rintro e w1 ⟨rfl, hb1⟩
      have K1 := Lib.hid hb1
      have s1 := (hb1.cell (p := ⟨gs, os + j, none⟩) hgsa).trans hsc
      have s2 := (hb1.cell (p := ⟨gn, on + j, none⟩) hgna).trans hnc
      clear hb1 c0 c1 c2 c3 hsc hnc
      obtain ⟨c0, c1, c2, c3⟩ := (P0.out.below K1.out hsz).cells
      go_wp2_with fail
      go_ret
      exact ⟨by rw [HE2.out] <;> rfl, bth HA.out K1.out (Nat.le_refl _)⟩
  · have HE2 : Hid (b = false) := by rw [HE.out]; rfl
    clear HE HT
    go_enter Tryz.func54, Tryz.ntmps54
    go_wp2_with fail
    rw [HWA.out]
    refine HCT.out.mono ?_
    rintro e w1 ⟨rfl, hb1⟩
    have K1 := Lib.hid hb1
    have s1 := (hb1.cell (p := ⟨gs, os + j, none⟩) hgsa).trans hsc
    clear hb1 c0 c1 c2 c3 hsc hnc
    obtain ⟨c0, c1, c2, c3⟩ := (P0.out.below K1.out hsz).cells
    go_wp2_with fail
    go_ret
    exact ⟨by rw [HE2.out] <;> rfl, bth HA.out K1.out (Nat.le_refl _)⟩

set_option maxRecDepth 20000 in
set_option maxHeartbeats 8000000 in
theorem specSame9_b {l m : List (List UInt8)} {b : Bool} (h : decide (l = m) = b) (v u : Value) (w : World) (hr1 : RowV w v (S l)) (hr2 : RowV w u (S m)) :
    Calls Tryz.prog 74 #[v, u] w (BoolPost b w) := by
  obtain ⟨a, cap, rfl, hc1, hc2, hat⟩ := hr1.texts
  obtain ⟨a2, cap2, rfl, hc3, hc4, hat2⟩ := hr2.texts
  clear hr1 hr2
  unfold maxLen at hc2 hc4
  have HAT := Lib.hid hat
  have HAT2 := Lib.hid hat2
  have HE : Hid (b = decide (l = m)) := h.symm
  clear hat hat2 h
  by_cases hlen : l.length = m.length
  · have hlen1 : ((l.length : Int) != (m.length : Int)) = false := by simp [hlen]
    have hle1 : l.length ≤ m.length := by omega
    have hle2 : m.length ≤ l.length := by omega
    clear hlen
    go_enter Tryz.func74, Tryz.ntmps74
    go_wp2_with fail
    go_loopw [13] (fun i wr => ∃ k : Nat, k ≤ l.length ∧ i = .int .i64 k ∧ Hid (l.take k = m.take k) ∧ Hid (Below w.heap.size w wr)) (fun i _ => l.length - (intOf i).toNat)
    case atStart => exact ⟨0, Nat.zero_le _, rfl, rfl, Below.refl _ _⟩
    case round =>
      obtain ⟨k, hk, rfl, HO, HB⟩ := hrel
      by_cases hlt : k < l.length
      · obtain ⟨g, o, rfl, hg, hcell0⟩ := HAT.out k hlt
        obtain ⟨g2, o2, rfl, hg2, hcell02⟩ := HAT2.out k (by omega)
        have s0 := (HB.out.cell (p := ⟨g, o + k, none⟩) hg).trans hcell0
        have t0 := (HB.out.cell (p := ⟨g2, o2 + k, none⟩) hg2).trans hcell02
        have hi1 : (k : Int) < (l.length : Int) := by omega
        have hi2 : (k : Int) < (m.length : Int) := by omega
        clear hcell0 hcell02
        by_cases he : l[k] = m[k]
        · have HS := Lib.hid (same_next HO.out hlt (by omega) he)
          have he1 : (l[k] != m[k]) = false := by simp [he]
          have he2 : (l[k] == m[k]) = true := by simp [he]
          generalize l[k] = x at s0 he1 he he2
          generalize m[k] = y at t0 he1 he he2
          clear HO
          go_wp2_with fail
          go_quiet (fail)
          go_wp2_with fail
          go_roundw
          case rel => exact ⟨k + 1, by omega, by go_num, HS, below_drewN HB.out _⟩
          case measure => simp [intOf]; omega
        · have HS : Hid (decide (l = m) = false) := decide_eq_false (same_not hlt (by omega) he)
          have he1 : (l[k] != m[k]) = true := by simp [he]
          have he2 : (l[k] == m[k]) = false := by simp [he]
          generalize l[k] = x at s0 he1 he he2
          generalize m[k] = y at t0 he1 he he2
          clear HO
          go_wp2_with fail
          go_quiet (fail)
          go_wp2_with fail
          go_ret
          exact ⟨ret_bool (by rw [HE.out, HS.out]), below_drewN HB.out _⟩
      · have HS : Hid (decide (l = m) = true) := decide_eq_true (same_all HO.out (by omega) (by omega))
        have hi1 : ¬ ((k : Int) < (l.length : Int)) := by omega
        clear HO HAT HAT2
        go_wp2_with fail
        go_ret
        exact ⟨ret_bool (by rw [HE.out, HS.out]), HB.out⟩
  · have hlen1 : ((l.length : Int) != (m.length : Int)) = true := by simp; omega
    have HS : Hid (decide (l = m) = false) := decide_eq_false (fun h => hlen (by rw [h]))
    clear HAT HAT2
    go_enter Tryz.func74, Tryz.ntmps74
    go_wp2_with fail
    go_ret
    exact ⟨ret_bool (by rw [HE.out, HS.out]), Below.refl _ _⟩

set_option maxRecDepth 20000 in
set_option maxHeartbeats 8000000 in
theorem specFind_any (T : List TrT) (t : Int) (ins : List (List UInt8)) (v x : Value) (w : World) (hT : RowT w v T) (hr : RowV w x (S ins)) :
    Calls Tryz.prog 53 #[v, .int .i64 t, x] w fun e w' => e = .returned (.int .i64 (findK T t ins)) ∧ Below w.heap.size w w' := by
  obtain ⟨a, cap, rfl, hc1, hc2, hat⟩ := hT.traces
  have HR := Lib.hid hr
  obtain ⟨ai, ci, rfl, hi1, hi2, _⟩ := hr.texts
  clear hT hr
  unfold maxLen at hc2 hi2
  have HAT := Lib.hid hat
  clear hat
  obtain ⟨R, hR⟩ : ∃ R, findK T t ins = R := ⟨_, rfl⟩
  have HRK : Hid (∀ k, findT T t ins = some k → R = (k : Int)) := fun k h => by rw [← hR]; unfold findK; rw [h]
  have HRN : Hid (findT T t ins = none → R = -1) := fun h => by rw [← hR]; unfold findK; rw [h]
  rw [hR]
  clear hR
  go_enter Tryz.func53, Tryz.ntmps53
  go_wp2_with fail
  go_loopw [11] (fun i wr => ∃ k : Nat, k ≤ T.length ∧ i = .int .i64 k ∧ Hid ((T.take k).any (isT t ins) = false) ∧ Hid (Below w.heap.size w wr)) (fun i _ => T.length - (intOf i).toNat)
  case atStart => exact ⟨0, Nat.zero_le _, rfl, by simp [Hid], Below.refl _ _⟩
  case round =>
    obtain ⟨k, hk, rfl, HO, HB⟩ := hrel
    by_cases hlt : k < T.length
    · obtain ⟨g, o, a2, c2, rfl, hg, ⟨k0, k1, k2, k3⟩, hrk⟩ := HAT.out k hlt
      have s0 := (HB.out.cell (p := ⟨g, o + k * 4, none⟩) hg).trans k0
      have s1 := (HB.out.cell (p := ⟨g, o + k * 4 + 1, none⟩) hg).trans k1
      have s2 := (HB.out.cell (p := ⟨g, o + k * 4 + 2, none⟩) hg).trans k2
      have s3 := (HB.out.cell (p := ⟨g, o + k * 4 + 3, none⟩) hg).trans k3
      have hltz : (k : Int) < (T.length : Int) := by omega
      have HN : Hid (isT t ins T[k] = false → ((T.take (k + 1)).any (isT t ins)) = false) := fun h => find_next hlt HO.out h
      have HF : Hid (isT t ins T[k] = true → findT T t ins = some k) := fun h => find_here hlt HO.out h
      have HIS : Hid (isT t ins T[k] = (decide (T[k].1 = t) && decide (T[k].2.1 = ins))) := rfl
      have HRR := Lib.hid hrk
      have hgw : g < wr.heap.size := by have := HB.out.size; omega
      clear k0 k1 k2 k3 hrk HO HAT
      generalize isT t ins T[k] = q at *
      generalize T[k] = z at *
      obtain ⟨z1, zi, z2, z3⟩ := z
      simp only at s0 s1 s2 s3 HIS HRR
      obtain ⟨wx, hwx⟩ : ∃ wx, wx = wr.alloc (.cells #[.int .i64 z1, .slice a2 zi.length c2, .string ⟨z2.toArray⟩, .int .i64 z3] 50) := ⟨_, rfl⟩
      have HXB : Hid (Below wr.heap.size wr wx) := by rw [hwx]; exact (Below.refl wr.heap.size wr).alloc (Nat.le_refl _) _
      have HWX : Hid (wr.alloc (.cells #[.int .i64 z1, .slice a2 zi.length c2, .string ⟨z2.toArray⟩, .int .i64 z3] 50) = wx) := by rw [hwx]; rfl
      obtain ⟨bi, hbi⟩ : ∃ bi, decide (zi = ins) = bi := ⟨_, rfl⟩
      have HW := Lib.hid (bth HB.out HXB.out (Nat.le_refl _))
      have HC := Lib.hid (specSame9_b hbi (.slice a2 zi.length c2) (.slice ai ins.length ci) wx (HRR.out.below HW.out) (HR.out.below HW.out))
      rw [hbi] at HIS
      clear hwx hbi HRR
      by_cases ht : z1 = t
      · have ht1 : (z1 == t) = true := by simp [ht]
        have HIS2 : Hid (q = bi) := by rw [HIS.out, decide_eq_true ht]; rfl
        clear HIS ht
        generalize zi.length = n at *
        go_wp2_with fail
        rw [HWX.out]
        refine HC.out.mono ?_
        rintro e w1 ⟨rfl, hb1⟩
        have HB1 := Lib.hid (bth HW.out hb1 (Nat.le_refl _))
        clear hb1 HC s0 s1 s2 s3
        rcases bi with _ | _
        · have HN2 := Lib.hid (HN.out HIS2.out)
          go_wp2_with fail
          go_roundw
          case rel => exact ⟨k + 1, by omega, by go_num, HN2, HB1⟩
          case measure => simp [intOf]; omega
        · have HF2 := Lib.hid (HF.out HIS2.out)
          go_wp2_with fail
          go_ret
          exact ⟨by rw [HRK.out k HF2.out] <;> rfl, HB1.out⟩
      · have ht1 : (z1 == t) = false := by simp [ht]
        have HIS2 : Hid (q = false) := by rw [HIS.out, decide_eq_false ht]; rfl
        have HN2 := Lib.hid (HN.out HIS2.out)
        clear HIS ht HC HF
        generalize zi.length = n at *
        go_wp2_with fail
        rw [HWX.out]
        go_roundw
        case rel => exact ⟨k + 1, by omega, by go_num, HN2, HW⟩
        case measure => simp [intOf]; omega
    · have hltz : ¬ ((k : Int) < (T.length : Int)) := by omega
      have HN2 : Hid (findT T t ins = none) := by have := HO.out; rw [List.take_of_length_le (by omega)] at this; exact find_none this
      clear HAT HO
      go_wp2_with fail
      go_ret
      exact ⟨by rw [HRN.out HN2.out] <;> rfl, HB.out⟩

end Go.Proofs.YtngldlconipnnaaGreat

/- Walks: copies of plans. -/
namespace Go.Proofs.YtngldlconipnnaaGreat
open Go.RowKit Pth

theorem results_cellP {fn : Func} {p : Tmp} {ty : TypeId} (h : fn.results = #[.cell p ty]) {tmps : Array Value} {w : World} {ad : Addr} {v : Value} (hp : tmps.getD p undef = .pointer (some ad)) (hl : (loadVar ty ad).run Tryz.prog w = .ok v w) :
    (results fn tmps).run Tryz.prog w = .ok v w := by
  have hp' : tmps[p]?.getD undef = .pointer (some ad) := by simpa using hp
  simp only [results, h]
  simp [hp', asAddr, hl]

set_option maxRecDepth 20000 in
set_option maxHeartbeats 4000000 in
theorem toPlan_any (ls : List (List Int)) (l : List Int) (bs : List Bool) (rs : List (List OpT)) (v : Value) (w : World) (hp : PlanV w v ls l bs rs) (hz : planZ ls l bs rs ≤ 2000000) :
    Calls Tryz.prog 8 #[v] w fun e w' => ∃ v', e = .returned v' ∧ PlanO w.heap.size w' v' ls l bs rs ∧ Below w.heap.size w w' := by
  obtain ⟨nv, ov, sv, rv, rfl, h1, h2, h3, h4⟩ := hp
  unfold planZ at hz
  have H1 := Lib.hid h1
  have H2 := Lib.hid h2
  have H3 := Lib.hid h3
  have H4 := Lib.hid h4
  obtain ⟨as0, cs, rfl, hs1, hs2, _⟩ := h3.boolsW
  obtain ⟨an, cn, rfl, hn1, hn2, _⟩ := h1.lists
  obtain ⟨ao, co, rfl, ho1, ho2, _⟩ := h2.ints
  obtain ⟨ar, cr, rfl, hr1, hr2, _⟩ := h4.lists
  clear h1 h2 h3 h4
  unfold maxLen at hs2 hn2 ho2 hr2
  obtain ⟨wp, hwp⟩ : ∃ wp, wp = w.alloc (.cells #[.slice an ls.length cn, .slice ao l.length co, .slice as0 bs.length cs, .slice ar rs.length cr] 29) := ⟨_, rfl⟩
  obtain ⟨wq, hwq⟩ : ∃ wq, wq = wp.alloc (.cells #[.slice none 0 0, .slice none 0 0, .slice none 0 0, .slice none 0 0] 45) := ⟨_, rfl⟩
  obtain ⟨wa, hwa⟩ : ∃ wa, wa = wq.alloc (.cells #[.slice none 0 0, .slice none 0 0, .slice none 0 0, .slice none 0 0] 45) := ⟨_, rfl⟩
  have ep : wp.heap.size = w.heap.size + 1 := by rw [hwp]; simp
  have eq : wq.heap.size = w.heap.size + 2 := by rw [hwq]; simp [ep]
  have eq' : wq.heap.size = w.heap.size + 1 + 1 := by omega
  have ea : wa.heap.size = w.heap.size + 3 := by rw [hwa]; simp [eq]
  have P0 : Hid (Blk4 wa w.heap.size 29 (.slice an ls.length cn) (.slice ao l.length co) (.slice as0 bs.length cs) (.slice ar rs.length cr)) := by
    rw [hwa, hwq, hwp]; exact (Blk4.new.old _).old _
  have R0 : Hid (Blk4 wa (w.heap.size + 1) 45 (.slice none 0 0) (.slice none 0 0) (.slice none 0 0) (.slice none 0 0)) := by
    rw [hwa, hwq, ← ep]; exact Blk4.new.old _
  have O0 : Hid (Blk4 wa (w.heap.size + 1 + 1) 45 (.slice none 0 0) (.slice none 0 0) (.slice none 0 0) (.slice none 0 0)) := by
    rw [hwa, ← eq']; exact Blk4.new
  have HA : Hid (Below w.heap.size w wa) := by
    rw [hwa, hwq, hwp]; exact (((Below.refl w.heap.size w).alloc (Nat.le_refl _) _).alloc (by simp) _).alloc (by simp; omega) _
  have HWA : Hid (((w.alloc (.cells #[.slice an ls.length cn, .slice ao l.length co, .slice as0 bs.length cs, .slice ar rs.length cr] 29)).alloc (.cells #[.slice none 0 0, .slice none 0 0, .slice none 0 0, .slice none 0 0] 45)).alloc (.cells #[.slice none 0 0, .slice none 0 0, .slice none 0 0, .slice none 0 0] 45) = wa) := by rw [hwa, hwq, hwp]; rfl
  have HG : Hid (GraphV wa (.agg #[.slice an ls.length cn, .slice ao l.length co]) ls l) := ⟨_, _, rfl, H1.out.below HA.out, H2.out.below HA.out⟩
  clear hwa hwq hwp ep eq eq'
  go_enter Tryz.func8, Tryz.ntmps8
  go_wp2_with fail
  rw [HWA.out]
  refine (toGraph_any ls l _ wa HG.out (by omega)).mono ?_
  rintro e w1 ⟨v1, rfl, hg1, hb1⟩
  obtain ⟨b1, d1, b2, d2, rfl⟩ := hg1.slices
  have P1 := Lib.hid (P0.out.below hb1 (by omega))
  have R1 := Lib.hid (R0.out.below hb1 (by omega))
  have O1 := O0.out.below hb1 (by omega)
  have HA1 := Lib.hid (HA.out.trans (hb1.mono HA.out.size))
  have hs1' := hb1.size
  have HG1 := Lib.hid hg1
  have c2 := P1.out.cells.2.2.1
  obtain ⟨o0, o1, _, _⟩ := O1.cells
  have f0 := O1.soft 0
  have f1 := O1.soft 1
  have O2 := Lib.hid ((O1.set0 (.slice b1 ls.length d1)).set1 (.slice b2 l.length d2))
  clear hb1 hg1 O1
  go_wp2_with fail
  clear o0 o1 f0 f1 c2
  -- the graph's two cells
  have n1 : w.heap.size + 1 + 1 < wa.heap.size := by omega
  have n0 : w.heap.size ≤ w.heap.size + 1 + 1 := by omega
  have n2 : w.heap.size ≠ w.heap.size + 1 + 1 := by omega
  have n3 : w.heap.size + 1 ≠ w.heap.size + 1 + 1 := by omega
  have HG2 := Lib.hid ((HG1.out.set (p := ⟨w.heap.size + 1 + 1, 0, none⟩) n1 (.slice b1 ls.length d1)).set (p := ⟨w.heap.size + 1 + 1, 1, none⟩) n1 (.slice b2 l.length d2))
  have HA2 := Lib.hid ((HA1.out.setCell (p := ⟨w.heap.size + 1 + 1, 0, none⟩) n0 (.slice b1 ls.length d1)).setCell (p := ⟨w.heap.size + 1 + 1, 1, none⟩) n0 (.slice b2 l.length d2))
  have P2 := Lib.hid ((P1.out.other (p := ⟨w.heap.size + 1 + 1, 0, none⟩) n2 (.slice b1 ls.length d1)).other (p := ⟨w.heap.size + 1 + 1, 1, none⟩) n2 (.slice b2 l.length d2))
  have R2 := Lib.hid ((R1.out.other (p := ⟨w.heap.size + 1 + 1, 0, none⟩) n3 (.slice b1 ls.length d1)).other (p := ⟨w.heap.size + 1 + 1, 1, none⟩) n3 (.slice b2 l.length d2))
  have hs2' : wa.heap.size ≤ ((w1.setCell ⟨w.heap.size + 1 + 1, 0, none⟩ (.slice b1 ls.length d1)).setCell ⟨w.heap.size + 1 + 1, 1, none⟩ (.slice b2 l.length d2)).heap.size := by simp; omega
  clear HG1 HA1 P1 R1
  generalize (w1.setCell ⟨w.heap.size + 1 + 1, 0, none⟩ (.slice b1 ls.length d1)).setCell ⟨w.heap.size + 1 + 1, 1, none⟩ (.slice b2 l.length d2) = x1 at *
  refine (toBoolS_any bs _ x1 (H3.out.below HA2.out) (by omega)).mono ?_
  rintro e w3 ⟨v3, rfl, hn3, hb3⟩
  obtain ⟨b3, d3, rfl⟩ := own_slice hn3
  have O3 := O2.out.below hb3 (by omega)
  have o2 := O3.cells.2.2.1
  have f2 := O3.soft 2
  have hs3 := hb3.size
  have c3 := (P2.out.below hb3 (by omega)).cells.2.2.2
  have HG3 := Lib.hid ((HG2.out.below hb3).set (p := ⟨w.heap.size + 1 + 1, 2, none⟩) n1 (.slice b3 bs.length d3))
  have HN3 := Lib.hid (own_setI (own_base hn3 hs2') (p := ⟨w.heap.size + 1 + 1, 2, none⟩) n1 (.slice b3 bs.length d3))
  have HA3 := Lib.hid ((HA2.out.trans (hb3.mono HA2.out.size)).setCell (p := ⟨w.heap.size + 1 + 1, 2, none⟩) n0 (.slice b3 bs.length d3))
  have P3 := Lib.hid ((P2.out.below hb3 (by omega)).other (p := ⟨w.heap.size + 1 + 1, 2, none⟩) n2 (.slice b3 bs.length d3))
  have R3 := Lib.hid ((R2.out.below hb3 (by omega)).other (p := ⟨w.heap.size + 1 + 1, 2, none⟩) n3 (.slice b3 bs.length d3))
  have Q3 := Lib.hid (O3.set2 (.slice b3 bs.length d3))
  have hs3' : wa.heap.size ≤ (w3.setCell ⟨w.heap.size + 1 + 1, 2, none⟩ (.slice b3 bs.length d3)).heap.size := by simp; omega
  clear hn3 hb3 O3 HG2 HA2 P2 R2 O2
  go_wp2_with fail
  clear o2 f2 c3
  generalize w3.setCell ⟨w.heap.size + 1 + 1, 2, none⟩ (.slice b3 bs.length d3) = x3 at *
  refine (toOpSS_any rs _ x3 (H4.out.below HA3.out) (by omega)).mono ?_
  rintro e w4 ⟨v4, so, rfl, hn4, hb4⟩
  obtain ⟨b4, d4, rfl⟩ := own_slice hn4.2.1
  have O4 := Q3.out.below hb4 (by omega)
  have o3 := O4.cells.2.2.2
  have f3 := O4.soft 3
  have hs4 := hb4.size
  have HG4 := Lib.hid ((HG3.out.below hb4).set (p := ⟨w.heap.size + 1 + 1, 3, none⟩) n1 (.slice b4 rs.length d4))
  have HN4 := Lib.hid (own_setI (own_below HN3.out hb4) (p := ⟨w.heap.size + 1 + 1, 3, none⟩) n1 (.slice b4 rs.length d4))
  have HR4 := Lib.hid ((hn4.base hs3').set (p := ⟨w.heap.size + 1 + 1, 3, none⟩) n1 (.slice b4 rs.length d4))
  have HA4 := Lib.hid ((HA3.out.trans (hb4.mono HA3.out.size)).setCell (p := ⟨w.heap.size + 1 + 1, 3, none⟩) n0 (.slice b4 rs.length d4))
  have R4 := Lib.hid ((R3.out.below hb4 (by omega)).other (p := ⟨w.heap.size + 1 + 1, 3, none⟩) n3 (.slice b4 rs.length d4))
  have Q4 := Lib.hid (O4.set3 (.slice b4 rs.length d4))
  obtain ⟨k0, k1, k2, k3⟩ := R4.out.cells
  have z0 := R4.out.soft 0
  have z1 := R4.out.soft 1
  have z2 := R4.out.soft 2
  have z3 := R4.out.soft 3
  obtain ⟨q0, q1, q2, q3⟩ := Q4.out.cells
  clear hn4 hb4 O4 HG3 HN3 HA3 P3 R3 Q3
  go_wp2_with fail
  have Z := (((R4.out.set0 (.slice b1 ls.length d1)).set1 (.slice b2 l.length d2)).set2 (.slice b3 bs.length d3)).set3 (.slice b4 rs.length d4)
  refine bodyPost_ret (results_cellP rfl rfl (load_plan Z)) rfl ?_
  have e1 : w.heap.size ≤ wa.heap.size := by omega
  have e2 : w.heap.size + 1 < wa.heap.size := by omega
  have e3 : w.heap.size ≤ w.heap.size + 1 := by omega
  refine ⟨_, rfl, ⟨_, _, _, _, so, rfl, ?_, ?_, ?_⟩, ?_⟩
  · exact ((((HG4.out.set (p := ⟨w.heap.size + 1, 0, none⟩) e2 _).set (p := ⟨w.heap.size + 1, 1, none⟩) e2 _).set (p := ⟨w.heap.size + 1, 2, none⟩) e2 _).set (p := ⟨w.heap.size + 1, 3, none⟩) e2 _).base e1
  · exact own_base (own_setI (own_setI (own_setI (own_setI HN4.out (p := ⟨w.heap.size + 1, 0, none⟩) e2 _) (p := ⟨w.heap.size + 1, 1, none⟩) e2 _) (p := ⟨w.heap.size + 1, 2, none⟩) e2 _) (p := ⟨w.heap.size + 1, 3, none⟩) e2 _) e1
  · exact ((((HR4.out.set (p := ⟨w.heap.size + 1, 0, none⟩) e2 _).set (p := ⟨w.heap.size + 1, 1, none⟩) e2 _).set (p := ⟨w.heap.size + 1, 2, none⟩) e2 _).set (p := ⟨w.heap.size + 1, 3, none⟩) e2 _).base e1
  · exact (((HA4.out.setCell (p := ⟨w.heap.size + 1, 0, none⟩) e3 _).setCell (p := ⟨w.heap.size + 1, 1, none⟩) e3 _).setCell (p := ⟨w.heap.size + 1, 2, none⟩) e3 _).setCell (p := ⟨w.heap.size + 1, 3, none⟩) e3 _

theorem PlanO.slices {B : Nat} {w : World} {v : Value} {ls : List (List Int)} {l : List Int} {bs : List Bool} {rs : List (List OpT)} (h : PlanO B w v ls l bs rs) :
    ∃ a c a2 c2 a3 c3 a4 c4, v = .agg #[.slice a ls.length c, .slice a2 l.length c2, .slice a3 bs.length c3, .slice a4 rs.length c4] := by
  obtain ⟨nv, ov, sv, rv, so, hv, h1, h2, h3⟩ := h
  obtain ⟨a, c, a2, c2, he⟩ := h1.slices
  simp only [Value.agg.injEq, Array.mk.injEq, List.cons.injEq, and_true] at he
  obtain ⟨rfl, rfl⟩ := he
  obtain ⟨a3, c3, rfl⟩ := own_slice h2
  obtain ⟨a4, c4, rfl⟩ := own_slice h3.2.1
  exact ⟨a, c, a2, c2, a3, c3, a4, c4, hv⟩
end Go.Proofs.YtngldlconipnnaaGreat

/- Walks: the laws' helpers on the answers of chapters 7 and 8. -/
namespace Go.Proofs.YtngldlconipnnaaGreat
open Go.RowKit Pth

/-- Results are told, and whether they stand. -/
def ResOk (R : List ResT) (ok : Bool) (w : World) (e : Ending) (w' : World) : Prop :=
  ∃ v, e = .returned (.tuple #[v, .bool ok]) ∧ w'.ownsRow w.heap.size 48 2 v R.length (RC R) ∧ Below w.heap.size w w'
/-- Results are told, a number, and whether they stand. -/
def ResNOk (R : List ResT) (n : Int) (ok : Bool) (w : World) (e : Ending) (w' : World) : Prop :=
  ∃ v, e = .returned (.tuple #[v, .int .i64 n, .bool ok]) ∧ w'.ownsRow w.heap.size 48 2 v R.length (RC R) ∧ Below w.heap.size w w'
/-- Numbers are told, and whether they stand. -/
def NumsOk (R : List Int) (ok : Bool) (w : World) (e : Ending) (w' : World) : Prop :=
  ∃ v, e = .returned (.tuple #[v, .bool ok]) ∧ w'.ownsRow w.heap.size 3 1 v R.length (I R) ∧ Below w.heap.size w w'
theorem marksR_at (k n j : Nat) (hj : j < (marksR k n).length) : (marksR k n)[j] = (markT (k + j * 2), ((k + j * 2 + 1 : Nat) : Int)) := by simp [marksR]
theorem heldRow_R {w : World} {B n : Nat} {v : Value} (h : w.ownsRow B 48 2 v n (RC (marksR 1 n))) : RowR w v (marksR 1 n) := RowR.of_own (by rw [marksR_len]; exact h)
theorem heldRow_I {w : World} {B n : Nat} {v : Value} (h : w.ownsRow B 3 1 v n (I (marks 1 n))) : RowV w v (I (marks 1 n)) := RowV.of_own h

set_option maxHeartbeats 1000000 in
theorem szStringS_le (l : List (List UInt8)) (left : Nat) (v : Value) (w : World) (hrow : RowV w v (S l)) (hx : ∀ x ∈ l, x.length ≤ maxLen) (hl : left ≤ 2000000) :
    Calls Tryz.prog 22 #[v, .int .i64 (left : Int)] w fun e w' => ∃ r : Int, e = .returned (.int .i64 r) ∧ r ≤ left ∧ (0 ≤ r → r + l.length ≤ left ∧ ∀ x ∈ l, x.length ≤ left) ∧ w = w' := by
  obtain ⟨a, cap, rfl, hc1, hc2, hat⟩ := hrow.texts
  clear hrow
  unfold maxLen at hc2 hx
  by_cases hlen : l.length ≤ left
  · have hlen1 : decide ((left : Int) - (l.length : Int) < 0) = false := by simp; omega
    go_enter Tryz.func22, Tryz.ntmps22
    go_wp2_with fail
    go_loop [1, 5] (fun q i => ∃ (k : Nat) (r : Int), k ≤ l.length ∧ 0 ≤ r ∧ r + l.length ≤ left ∧ q = .int .i64 r ∧ i = .int .i64 k ∧ Hid (∀ x ∈ l.take k, x.length ≤ left)) (fun _ i => l.length - (intOf i).toNat)
    case atStart => exact ⟨0, (left : Int) - (l.length : Int), Nat.zero_le _, by omega, by omega, rfl, rfl, by simp [Hid]⟩
    case round =>
      obtain ⟨k, r, hk, hr0, hr1, rfl, rfl, HO⟩ := hrel
      by_cases hlt : k < l.length
      · obtain ⟨g, o, rfl, hg, hcell⟩ := hat k hlt
        have hxl := hx l[k] (List.getElem_mem hlt)
        by_cases hy : ((l[k]).length : Int) ≤ r
        · have HS : Hid (∀ x ∈ l.take (k + 1), x.length ≤ left) := by
            intro x hxm
            rw [List.take_succ_eq_append_getElem hlt, List.mem_append, List.mem_singleton] at hxm
            rcases hxm with h | h
            · exact HO.out x h
            · rw [h]; omega
          have hy1 : decide (r - ((l[k]).length : Int) < 0) = false := by simp; omega
          generalize l[k] = x at hcell hxl hy hy1
          clear hat HO hx
          go_wp2_with fail
          go_round
          case rel => exact ⟨k + 1, r - (x.length : Int), by omega, by omega, by omega, rfl, by go_num, HS⟩
          case measure => simp [intOf]; omega
        · have hy1 : decide (r - ((l[k]).length : Int) < 0) = true := by simp; omega
          generalize l[k] = x at hcell hxl hy hy1
          clear hat HO hx
          go_wp2_with fail
          go_ret
          exact ⟨-1, rfl, by omega, fun h => by omega, rfl⟩
      · have HS : Hid (∀ x ∈ l, x.length ≤ left) := by have := HO.out; rw [List.take_of_length_le (by omega)] at this; exact this
        clear hat HO hx
        go_wp2_with fail
        go_ret
        exact ⟨r, rfl, by omega, fun _ => ⟨by omega, HS.out⟩, rfl⟩
  · have hlen1 : decide ((left : Int) - (l.length : Int) < 0) = true := by simp; omega
    clear hat hx
    go_enter Tryz.func22, Tryz.ntmps22
    go_wp2_with fail
    go_ret
    exact ⟨-1, rfl, by omega, fun h => by omega, rfl⟩


set_option maxHeartbeats 1000000 in
theorem markIntS_huge (l : List Int) (k : Nat) (B : Nat) (v : Value) (w : World) (hown : w.ownsRow B 3 1 v l.length (I l)) (hl : l.length ≤ 2000000) (hk : k ≤ 8000000) :
    Calls Tryz.prog 69 #[v, .int .i64 (k : Int)] w (Marked B v k l.length w) := by
  have HW := Lib.hid hown
  obtain ⟨a, cap, rfl⟩ := own_slice hown
  clear hown
  go_enter Tryz.func69, Tryz.ntmps69
  go_wp2_with fail
  go_loopw [1, 5] (fun q i wr => ∃ j : Nat, j ≤ l.length ∧ q = .int .i64 ((k : Int) + (j : Int)) ∧ i = .int .i64 j ∧ wr.ownsRow B 3 1 (.slice a l.length cap) l.length (I (marks k j) ++ (I l).drop j) ∧ w.grownBy wr (Value.slice a l.length cap).ownBlock) (fun _ i _ => l.length - (intOf i).toNat)
  case atStart => exact ⟨0, Nat.zero_le _, by simp, rfl, HW.out, grown_refl _ _⟩
  case round =>
    clear HW
    obtain ⟨j, hj, rfl, rfl, hown, hg⟩ := hrel
    by_cases hlt : j < l.length
    · obtain ⟨g, c2, hv⟩ : ∃ g c2, (Value.slice a l.length cap) = .slice (some ⟨g, 0, none⟩) l.length c2 := by
        rcases hown.2 with ⟨_, h0⟩ | ⟨g, c2, cur, hv, _⟩
        · omega
        · exact ⟨g, c2, hv⟩
      injection hv with hv1 hv2 hv3
      subst hv1
      have hfz := hown.frozenAt j
      have hcz : wr.cell? ⟨g, j, none⟩ = some (.int .i64 l[j]) := by rw [hown.cellAt j (by omega), mark_get k l j hlt]
      have hst := hown.stored j (.int .i64 ((k : Int) + (j : Int)))
      rw [mark_set k l j hlt] at hst
      have HN1 := Lib.hid hst.1
      have HG1 := Lib.hid (grown_trans hg hst.2)
      have hc4 : l.length ≤ cap := by
        rcases hown.2 with ⟨_, h0⟩ | ⟨g, c2, cur, hv, _, _, h5, _⟩
        · omega
        · injection hv with _ _ hv3; omega
      clear hown hg hst hv2 hv3
      generalize l[j] = x at hcz
      go_wp2_with fail
      go_roundw
      case rel => exact ⟨j + 1, by omega, by go_num, by go_num, HN1.out, HG1.out⟩
      case measure => simp [intOf]; omega
    · obtain rfl : j = l.length := by omega
      have e : (I l).drop l.length = [] := List.drop_of_length_le (by rw [I_len]; omega)
      rw [e, List.append_nil] at hown
      have HN := Lib.hid hown
      have HG := Lib.hid hg
      clear hown hg e
      go_wp2_with fail
      go_ret
      exact ⟨rfl, HN.out, HG.out⟩


end Go.Proofs.YtngldlconipnnaaGreat
