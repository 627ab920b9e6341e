/- Texts of one claim, joined in their order. -/
import Derived.Test.YtgolhfmmlanmlaaGreatDoorM15
import Derived.Test.YtgolhfmmlanmlaaGreatDoorM16
import Derived.Test.YtgolhfmmlanmlaaGreatDoorM14
import Derived.Test.YtgolhfmmlanmlaaGreatDoorM11
import Derived.Test.YtgolhfmmlanmlaaGreatDoorM9

/- Walks: a build with traces, of the program. -/
namespace Go.Proofs.YtgolhfmmlanmlaaGreatDoor
open Go.RowKit Pth

theorem Blk8.drewn {w : World} {b t : Nat} {x0 x1 x2 x3 x4 x5 x6 x7 : Value} (h : Blk8 w b t x0 x1 x2 x3 x4 x5 x6 x7) : Blk8 w.drew b t x0 x1 x2 x3 x4 x5 x6 x7 := h
/-- The eight cells of a tracing filled. -/
def fill8 (W : World) (b : Nat) (y0 y1 y2 y3 y4 y5 y6 y7 : Value) : World :=
  (((((((W.setCell ⟨b, 0, none⟩ y0).setCell ⟨b, 1, none⟩ y1).setCell ⟨b, 2, none⟩ y2).setCell ⟨b, 3, none⟩ y3).setCell ⟨b, 4, none⟩ y4).setCell ⟨b, 5, none⟩ y5).setCell ⟨b, 6, none⟩ y6).setCell ⟨b, 7, none⟩ y7
theorem fill8_all {W : World} {b B n : Nat} {x0 x1 x2 x3 x4 x5 x6 x7 u v : Value} {xs sl : List Value} {T : List TrT} {w0 : World} (h : Blk8 W b 87 x0 x1 x2 x3 x4 x5 x6 x7) (hR : W.ownsRow B 75 2 u n xs) (hT : OwnT B W v sl T) (hb : Below B w0 W) (hB : B ≤ b) (y0 y1 y2 y3 y4 y5 y6 y7 : Value) :
    Blk8 (fill8 W b y0 y1 y2 y3 y4 y5 y6 y7) b 87 y0 y1 y2 y3 y4 y5 y6 y7 ∧ (fill8 W b y0 y1 y2 y3 y4 y5 y6 y7).ownsRow B 75 2 u n xs ∧ OwnT B (fill8 W b y0 y1 y2 y3 y4 y5 y6 y7) v sl T ∧ Below B w0 (fill8 W b y0 y1 y2 y3 y4 y5 y6 y7) := by
  have step : ∀ {W1 : World} {z0 z1 z2 z3 z4 z5 z6 z7 : Value} (k : Nat) (y : Value) (cs : Array Value), Blk8 W1 b 87 z0 z1 z2 z3 z4 z5 z6 z7 → W1.ownsRow B 75 2 u n xs → OwnT B W1 v sl T → Below B w0 W1 → (#[z0, z1, z2, z3, z4, z5, z6, z7].setIfInBounds k y = cs) →
      (W1.setCell ⟨b, k, none⟩ y).heap[b]? = some (.cells cs 87 (0, 0)) ∧ (W1.setCell ⟨b, k, none⟩ y).ownsRow B 75 2 u n xs ∧ OwnT B (W1.setCell ⟨b, k, none⟩ y) v sl T ∧ Below B w0 (W1.setCell ⟨b, k, none⟩ y) := by
    intro W1 z0 z1 z2 z3 z4 z5 z6 z7 k y cs h1 h2 h3 h4 hc
    refine ⟨?_, own_keepT h2 (p := ⟨b, k, none⟩) h1 (by decide) y, h3.keepT (p := ⟨b, k, none⟩) h1 (by decide) (by decide) y, h4.setCell (p := ⟨b, k, none⟩) hB y⟩
    rw [← hc]
    exact heap_setCell_same W1 b k _ _ y h1
  obtain ⟨a1, a2, a3, a4⟩ := step 0 y0 #[y0, x1, x2, x3, x4, x5, x6, x7] h hR hT hb rfl
  obtain ⟨a1, a2, a3, a4⟩ := step 1 y1 #[y0, y1, x2, x3, x4, x5, x6, x7] a1 a2 a3 a4 rfl
  obtain ⟨a1, a2, a3, a4⟩ := step 2 y2 #[y0, y1, y2, x3, x4, x5, x6, x7] a1 a2 a3 a4 rfl
  obtain ⟨a1, a2, a3, a4⟩ := step 3 y3 #[y0, y1, y2, y3, x4, x5, x6, x7] a1 a2 a3 a4 rfl
  obtain ⟨a1, a2, a3, a4⟩ := step 4 y4 #[y0, y1, y2, y3, y4, x5, x6, x7] a1 a2 a3 a4 rfl
  obtain ⟨a1, a2, a3, a4⟩ := step 5 y5 #[y0, y1, y2, y3, y4, y5, x6, x7] a1 a2 a3 a4 rfl
  obtain ⟨a1, a2, a3, a4⟩ := step 6 y6 #[y0, y1, y2, y3, y4, y5, y6, x7] a1 a2 a3 a4 rfl
  obtain ⟨a1, a2, a3, a4⟩ := step 7 y7 #[y0, y1, y2, y3, y4, y5, y6, y7] a1 a2 a3 a4 rfl
  exact ⟨a1, a2, a3, a4⟩
/-- A result stored beside a tracing and its traces. -/
theorem built_row {w0 w5 : World} {b g m y : Nat} {x0 x1 x2 x3 x4 x5 x6 x7 v : Value} {sl : List Value} {T : List TrT} {M : List ResT} (h8 : Blk8 w5 b 87 x0 x1 x2 x3 x4 x5 x6 x7) (hr : w5.ownsRow w0.heap.size 75 2 (.slice (some ⟨g, 0, none⟩) m m) m (RC M)) (hT : OwnT w0.heap.size w5 v sl T) (hb : Below w0.heap.size w0 w5) (hy : y < M.length) (r : ResT) :
    Blk8 ((w5.setCell ⟨g, y * 2, none⟩ (.string ⟨r.1.toArray⟩)).setCell ⟨g, y * 2 + 1, none⟩ (.int .i64 r.2)) b 87 x0 x1 x2 x3 x4 x5 x6 x7 ∧ World.ownsRow ((w5.setCell ⟨g, y * 2, none⟩ (.string ⟨r.1.toArray⟩)).setCell ⟨g, y * 2 + 1, none⟩ (.int .i64 r.2)) w0.heap.size 75 2 (.slice (some ⟨g, 0, none⟩) m m) m (RC (M.set y r)) ∧
    OwnT w0.heap.size ((w5.setCell ⟨g, y * 2, none⟩ (.string ⟨r.1.toArray⟩)).setCell ⟨g, y * 2 + 1, none⟩ (.int .i64 r.2)) v sl T ∧ Below w0.heap.size w0 ((w5.setCell ⟨g, y * 2, none⟩ (.string ⟨r.1.toArray⟩)).setCell ⟨g, y * 2 + 1, none⟩ (.int .i64 r.2)) := by
  have hst := own_setR hr hy r
  exact ⟨h8.beside hst.2 ((OwnA.of_own hr).away h8 (by decide)), hst.1, hT.beside hr hst.2, hb.trans (only_below hst.2 (hr.lt g rfl).1 hb.size)⟩
/-- A tracing in a block of its own, its results and its traces. -/
def NewTr (w : World) (b g : Nat) (x0 x1 x2 x3 x4 : Value) (m : Nat) (v : Value) (sl : List Value) (T : List TrT) (wx : World) : Prop :=
  w.heap.size ≤ b ∧ Blk8 wx b 87 x0 x1 x2 x3 x4 (.slice (some ⟨g, 0, none⟩) m m) v (.int .i64 0) ∧ wx.ownsRow w.heap.size 75 2 (.slice (some ⟨g, 0, none⟩) m m) m (RC (List.replicate m noRes)) ∧ OwnT w.heap.size wx v sl T ∧ Below w.heap.size w wx

set_option maxRecDepth 20000 in
set_option maxHeartbeats 8000000 in
theorem implTraced_yes (ls : List (List Int)) (l : List Int) (bs : List Bool) (rs : List (List OpT)) (T : List TrT) (ts : List (List UInt8)) (v u x : Value) (w : World) (hp : PlanV w v ls l bs rs) (hT : RowT w u T) (hts : RowV w x (S ts)) (hx : ∀ l ∈ rs, ∀ f ∈ l, f.2.2.length ≤ maxLen) (hxT : ∀ t ∈ T, HeldT maxLen t) (hxx : ∀ x ∈ ts, x.length ≤ maxLen) (hgt : goodT ls l bs rs T = true) (hsrc : srcA ls l bs rs ts = true) :
    Calls Tryz.prog 13 #[v, u, x] w (TracedP (tracedM ls l bs rs T ts) true w) := by
  have hpl := (src_parts hsrc).1
  have htb := (src_parts hsrc).2.1
  have hbl := (plan_parts hpl).2.1
  have hG := (plan_parts hpl).1
  have hlo := hG.same
  have hhi := hG.high
  have hxt := src_len hsrc
  have HV := Lib.hid hp
  obtain ⟨nv, ov, sv, rv, rfl, h1, h2, h3, h4⟩ := hp
  obtain ⟨as0, cs, rfl, hs1, hs2, hats⟩ := h3.boolsW
  obtain ⟨an, cn, rfl, hn1, hn2, hatn⟩ := h1.lists
  obtain ⟨ao, co, rfl, ho1, ho2, hato⟩ := h2.ints
  obtain ⟨ar, cr, rfl, hr1, hr2, hatr⟩ := h4.lists
  clear h1 h2 h3 h4
  unfold maxLen at hs2 hn2 ho2 hr2
  obtain ⟨wa, hwa⟩ : ∃ wa, wa = w.alloc (.cells #[.slice an ls.length cn, .slice ao l.length co, .slice as0 bs.length cs, .slice ar rs.length cr] 42) := ⟨_, rfl⟩
  have hsz : w.heap.size < wa.heap.size := by rw [hwa]; simp
  have P0 : Hid (Blk4 wa w.heap.size 42 (.slice an ls.length cn) (.slice ao l.length co) (.slice as0 bs.length cs) (.slice ar rs.length cr)) := by rw [hwa]; exact Blk4.new
  have HA : Hid (Below w.heap.size w wa) := by rw [hwa]; exact (Below.refl w.heap.size w).alloc (Nat.le_refl _) _
  have HWA : Hid (w.alloc (.cells #[.slice an ls.length cn, .slice ao l.length co, .slice as0 bs.length cs, .slice ar rs.length cr] 42) = wa) := by rw [hwa]; rfl
  have HVW : Hid (∀ W, Below wa.heap.size wa W → PlanV W (.agg #[.slice an ls.length cn, .slice ao l.length co, .slice as0 bs.length cs, .slice ar rs.length cr]) ls l bs rs) := fun W h => HV.out.below (bth HA.out h (Nat.le_refl _))
  clear hwa
  have HTR := Lib.hid hT
  obtain ⟨au, cu, rfl, hu1, hu2, _⟩ := hT.traces
  have HT := Lib.hid hts
  obtain ⟨at0, ct, rfl, ht1, ht2, _⟩ := hts.texts
  unfold maxLen at hu2 ht2
  have HATO := Lib.hid hato
  have HIN : Hid (∀ k (hk : k < l.length), 0 ≤ l[k] ∧ l[k] < (ls.length : Int)) := fun k hk => by have := hG.tasks _ (List.getElem_mem hk); omega
  obtain ⟨MK, hMK⟩ : ∃ MK : Nat → List ResT × List TrT × Nat, MK = fun k => tracedL ls bs rs ts (l.take k) (List.replicate bs.length noRes, T, 0) := ⟨_, rfl⟩
  have HON : Hid (∀ k, OnWay ls bs (MK k)) := fun k => by
    rw [hMK]
    exact traced_way hpl hxt _ (fun j hj => by have := hG.tasks _ (List.mem_of_mem_take hj); omega) (onWay_start hgt)
  have HMN : Hid (∀ k (hk : k < l.length), MK (k + 1) = tracedS ls bs rs ts (MK k) l[k].toNat) := fun k hk => by rw [hMK]; exact traced_next ls bs rs ts hk _
  have HNL : Hid (∀ k, (MK k).2.2 ≤ k) := fun k => by
    rw [hMK]
    have := traced_runs (ls := ls) (bs := bs) (rs := rs) (ts := ts) (l.take k) (List.replicate bs.length noRes, T, 0)
    rw [List.length_take] at this
    simp only at this ⊢
    omega
  have HM0 : Hid (MK 0 = (List.replicate bs.length noRes, T, 0)) := by rw [hMK]; rfl
  have HMZ : Hid (MK l.length = tracedM ls l bs rs T ts) := by rw [hMK]; show _ = _; simp only [List.take_length]; rfl
  have HCG := Lib.hid (implGood9_b hgt _ _ wa (HV.out.below HA.out) (HTR.out.below HA.out) hx hxT)
  have HCS := Lib.hid (fun W (h : Below w.heap.size w W) => implSrc_any ls l bs rs ts _ _ W (HV.out.below h) (HT.out.below h) hx hxx)
  rw [hsrc] at HCS
  have HC1 := Lib.hid (fun W (h : Below w.heap.size w W) => ownTraces9_any T _ W (HTR.out.below h) (short_of (goodT_all hgt)) (by have := (goodT_parts hgt).2.1; omega))
  have HXT := Lib.hid hxt
  have HTB := Lib.hid htb
  have HBL := Lib.hid hbl
  have HG10 : Hid (l.length ≤ 10) := by show _ ≤ _; omega
  have HPL := Lib.hid hpl
  have hbn : bs.length ≤ 10 := by omega
  have hmk := make_allocR ts.length (by omega)
  obtain ⟨c0, c1, c2, c3⟩ := P0.out.cells
  clear hMK hG hlo hhi hxt hsrc hbl htb hato hats hT hts hx hxT hxx hgt hatn hatr
  go_enter Tryz.func13, Tryz.ntmps13
  go_wp2_with fail
  rw [HWA.out]
  refine HCG.out.mono ?_
  rintro e w1 ⟨rfl, hb1⟩
  have HW1 := Lib.hid (bth HA.out hb1 (Nat.le_refl _))
  have K1 := Lib.hid hb1
  clear hb1 c0 c1 c2 c3
  obtain ⟨c0, c1, c2, c3⟩ := (P0.out.below K1.out hsz).cells
  go_wp2_with fail
  refine (HCS.out w1 HW1.out).mono ?_
  rintro e w2 ⟨rfl, hb2⟩
  have HW2 := Lib.hid (bth HW1.out hb2 (Nat.le_refl _))
  have K2 := Lib.hid (bth K1.out hb2 (Nat.le_refl _))
  have hw2 : w.heap.size < w2.heap.size := by have := K2.out.size; omega
  have HKP : Hid (∀ W, Below w2.heap.size w2 W → W.cell? ⟨w.heap.size, 0, none⟩ = some (.slice an ls.length cn) ∧ W.cell? ⟨w.heap.size, 1, none⟩ = some (.slice ao l.length co) ∧ W.cell? ⟨w.heap.size, 2, none⟩ = some (.slice as0 bs.length cs) ∧ W.cell? ⟨w.heap.size, 3, none⟩ = some (.slice ar rs.length cr)) := fun W h => (P0.out.below (bth K2.out h (Nat.le_refl _)) hsz).cells
  have HC3 := Lib.hid (fun W (h : Below w2.heap.size w2 W) => HC1.out W (bth HW2.out h (Nat.le_refl _)))
  clear hb2 c0 c1 c2 c3 HCG HCS HC1
  go_upto_region 3 with fail
  obtain ⟨Inv, hInv⟩ : ∃ Inv : Array Bool → Act → World → Prop, Inv = fun (L : Array Bool) (a : Act) (W : World) => ∃ (b0 b1 b2 b3 b4 b5 b6 b7 b8 b9 : Bool) (t23 t24 t25 t26 t27 t28 t29 t30 t10 : Value) (g : Nat) (tl : Option Addr) (tc : Nat) (sl : List Value) (b : Nat), L = #[b0, b1, b2, b3, b4, b5, b6, b7, b8, b9] ∧ a = { tmps := #[.agg #[.slice an ls.length cn, .slice ao l.length co, .slice as0 bs.length cs, .slice ar rs.length cr], .slice au T.length cu, .slice at0 ts.length ct, .pointer (some ⟨w.heap.size, 0, none⟩), undef, undef, .slice none 0 0, .slice none 0 0, .int .i64 0, .bool false, t10, undef, undef, .agg #[.slice an ls.length cn, .slice ao l.length co, .slice as0 bs.length cs, .slice ar rs.length cr], .slice au T.length cu, .bool true, .bool false, .bool false, .agg #[.slice an ls.length cn, .slice ao l.length co, .slice as0 bs.length cs, .slice ar rs.length cr], .slice at0 ts.length ct, .bool true, .bool false, .bool false, t23, t24, t25, t26, t27, t28, t29, t30, undef, undef, undef, undef, undef, undef, undef, undef, undef, undef, undef, undef, undef, undef, undef, undef, undef, undef, undef, undef, undef], defers := [] } ∧ Below w2.heap.size w2 W ∧ (b0 = true → t23 = .agg #[.slice an ls.length cn, .slice ao l.length co, .slice as0 bs.length cs, .slice ar rs.length cr]) ∧ (b1 = true → t24 = .slice at0 ts.length ct) ∧ (b2 = true → t25 = .slice at0 ts.length ct) ∧ (b3 = true → t26 = .int .i64 (ts.length : Int)) ∧ (b4 = true → t27 = .slice (some ⟨g, 0, none⟩) ts.length ts.length ∧ w2.heap.size ≤ g ∧ W.ownsRow w2.heap.size 75 2 (.slice (some ⟨g, 0, none⟩) ts.length ts.length) ts.length (RC (List.replicate ts.length noRes))) ∧ (b5 = true → t28 = .slice au T.length cu) ∧ (b6 = true → t29 = .slice tl T.length tc ∧ OwnT w2.heap.size W (.slice tl T.length tc) sl T) ∧ (b7 = true → b4 = true ∧ b6 = true ∧ t30 = .agg #[.slice an ls.length cn, .slice ao l.length co, .slice as0 bs.length cs, .slice ar rs.length cr, .slice at0 ts.length ct, .slice (some ⟨g, 0, none⟩) ts.length ts.length, .slice tl T.length tc, .int .i64 0]) ∧ (b8 = true → t10 = .pointer (some ⟨b, 0, none⟩) ∧ w2.heap.size ≤ b ∧ (b9 = false → Blk8 W b 87 (.slice none 0 0) (.slice none 0 0) (.slice none 0 0) (.slice none 0 0) (.slice none 0 0) (.slice none 0 0) (.slice none 0 0) (.int .i64 0))) ∧ (b9 = true → b8 = true ∧ b7 = true ∧ Blk8 W b 87 (.slice an ls.length cn) (.slice ao l.length co) (.slice as0 bs.length cs) (.slice ar rs.length cr) (.slice at0 ts.length ct) (.slice (some ⟨g, 0, none⟩) ts.length ts.length) (.slice tl T.length tc) (.int .i64 0)) := ⟨_, rfl⟩
  have HInv := Lib.hid hInv
  clear hInv
  refine wp_region_inv (by kernel_rfl) Inv ?_ ?_ ?_
  · rw [HInv.out]
    exact ⟨false, false, false, false, false, false, false, false, false, false, undef, undef, undef, undef, undef, undef, undef, undef, undef, 0, none, 0, [], 0, rfl, rfl, Below.drew (Below.refl _ _), by simp, by simp, by simp, by simp, by simp, by simp, by simp, by simp, by simp, by simp⟩
  · intro L a W i hI hi
    rw [HInv.out] at hI
    obtain ⟨b0, b1, b2, b3, b4, b5, b6, b7, b8, b9, t23, t24, t25, t26, t27, t28, t29, t30, t10, g, tl, tc, sl, b, hL, hact, hD, g0, g1, g2, g3, g4, g5, g6, g7, g8, g9⟩ := hI
    subst hL hact
    obtain ⟨hi1, hi2⟩ := List.mem_filter.1 hi
    clear hi
    rw [Bool.and_eq_true] at hi2
    have hi3 : i < 10 := by simpa using hi1
    clear hi1
    rcases (by omega : i = 0 ∨ i = 1 ∨ i = 2 ∨ i = 3 ∨ i = 4 ∨ i = 5 ∨ i = 6 ∨ i = 7 ∨ i = 8 ∨ i = 9) with rfl | rfl | rfl | rfl | rfl | rfl | rfl | rfl | rfl | rfl
    · -- 0
      have ek : b0 = false := by simpa using hi2.1
      clear hi2
      obtain ⟨c0, c1, c2, c3⟩ := HKP.out W hD
      refine wpOp_last rfl (fun a w k => k) ?_
      go_wp2_with fail
      refine then_normal ?_
      rw [HInv.out]
      exact ⟨true, b1, b2, b3, b4, b5, b6, b7, b8, b9, _, _, _, _, _, _, _, _, _, g, tl, tc, sl, b, rfl, rfl, hD, (fun _ => rfl), g1, g2, g3, g4, g5, g6, g7, g8, g9⟩
    · -- 1
      have ek : b1 = false := by simpa using hi2.1
      clear hi2
      refine wpOp_last rfl (fun a w k => k) ?_
      go_wp2_with fail
      refine then_normal ?_
      rw [HInv.out]
      exact ⟨b0, true, b2, b3, b4, b5, b6, b7, b8, b9, _, _, _, _, _, _, _, _, _, g, tl, tc, sl, b, rfl, rfl, hD, g0, (fun _ => rfl), g2, g3, g4, g5, g6, g7, g8, g9⟩
    · -- 2
      have ek : b2 = false := by simpa using hi2.1
      clear hi2
      refine wpOp_last rfl (fun a w k => k) ?_
      go_wp2_with fail
      refine then_normal ?_
      rw [HInv.out]
      exact ⟨b0, b1, true, b3, b4, b5, b6, b7, b8, b9, _, _, _, _, _, _, _, _, _, g, tl, tc, sl, b, rfl, rfl, hD, g0, g1, (fun _ => rfl), g3, g4, g5, g6, g7, g8, g9⟩
    · -- 3
      have hdp := hi2.2
      simp [Region.binds] at hdp
      have d2 : b2 = true := by revert hdp; cases b2 <;> simp
      clear hdp
      have ek : b3 = false := by simpa using hi2.1
      clear hi2
      subst d2
      obtain rfl := g2 rfl
      refine wpOp_last rfl (fun a w k => k) ?_
      go_wp2_with fail
      refine then_normal ?_
      rw [HInv.out]
      exact ⟨b0, b1, true, true, b4, b5, b6, b7, b8, b9, _, _, _, _, _, _, _, _, _, g, tl, tc, sl, b, rfl, rfl, hD, g0, g1, (fun _ => rfl), (fun _ => rfl), g4, g5, g6, g7, g8, g9⟩
    · -- 4
      have hdp := hi2.2
      simp [Region.binds] at hdp
      have d3 : b3 = true := by revert hdp; cases b3 <;> simp
      clear hdp
      have ek : b4 = false := by simpa using hi2.1
      clear hi2
      subst d3
      obtain rfl := g3 rfl
      have hmkW := hmk W
      have hb : Below W.heap.size W (W.alloc (.cells (madeCells #[.string ByteArray.empty, .int .i64 0] (ts.length * 2)) 75)) := (Below.refl _ W).alloc (Nat.le_refl _) _
      refine wpOp_last rfl (fun a w k => k) ?_
      go_wp2_with fail
      refine then_normal ?_
      rw [HInv.out]
      exact ⟨b0, b1, b2, true, true, b5, b6, b7, b8, b9, _, _, _, _, _, _, _, _, _, W.heap.size, tl, tc, sl, b, rfl, rfl, (bth hD hb (Nat.le_refl _)), g0, g1, g2, (fun _ => rfl), (fun _ => ⟨rfl, hD.size, own_of_heapR (heap_alloc_new W _) hD.size (RC_zero _).symm (by simp) (by unfold maxLen; omega)⟩), g5, (fun h => by obtain ⟨e1, e2⟩ := g6 h; exact ⟨e1, e2.below hb⟩), (fun h => absurd (g7 h).1 (by rw [ek]; simp)), (fun h => by obtain ⟨e1, e2, e3⟩ := g8 h; exact ⟨e1, e2, fun h9 => (e3 h9).below hb (lt_of_block (e3 h9))⟩), (fun h => absurd (g7 (g9 h).2.1).1 (by rw [ek]; simp))⟩
    · -- 5
      have ek : b5 = false := by simpa using hi2.1
      clear hi2
      refine wpOp_last rfl (fun a w k => k) ?_
      go_wp2_with fail
      refine then_normal ?_
      rw [HInv.out]
      exact ⟨b0, b1, b2, b3, b4, true, b6, b7, b8, b9, _, _, _, _, _, _, _, _, _, g, tl, tc, sl, b, rfl, rfl, hD, g0, g1, g2, g3, g4, (fun _ => rfl), g6, g7, g8, g9⟩
    · -- 6
      have hdp := hi2.2
      simp [Region.binds] at hdp
      have d5 : b5 = true := by revert hdp; cases b5 <;> simp
      clear hdp
      have ek : b6 = false := by simpa using hi2.1
      clear hi2
      subst d5
      obtain rfl := g5 rfl
      refine wpOp_last rfl (fun a w k => k) ?_
      go_wp2_with fail
      refine (HC3.out W hD).mono ?_
      rintro e w5 ⟨v5, s5, rfl, hN5, hb⟩
      obtain ⟨tl', tc', hv5, _, _⟩ := hN5.2.1.slice
      subst hv5
      go_wp2_with fail
      refine then_normal ?_
      rw [HInv.out]
      exact ⟨b0, b1, b2, b3, b4, true, true, b7, b8, b9, _, _, _, _, _, _, _, _, _, g, tl', tc', s5, b, rfl, rfl, (bth hD hb (Nat.le_refl _)), g0, g1, g2, g3, (fun h => by obtain ⟨e1, e2, e3⟩ := g4 h; exact ⟨e1, e2, own_belowG e3 hb⟩), (fun _ => rfl), (fun _ => ⟨rfl, hN5.base hD.size⟩), (fun h => absurd (g7 h).2.1 (by rw [ek]; simp)), (fun h => by obtain ⟨e1, e2, e3⟩ := g8 h; exact ⟨e1, e2, fun h9 => (e3 h9).below hb (lt_of_block (e3 h9))⟩), (fun h => absurd (g7 (g9 h).2.1).2.1 (by rw [ek]; simp))⟩
    · -- 7
      have hdp := hi2.2
      simp [Region.binds] at hdp
      have d0 : b0 = true := by revert hdp; cases b0 <;> simp
      have d1 : b1 = true := by revert hdp; cases b1 <;> simp
      have d4 : b4 = true := by revert hdp; cases b4 <;> simp
      have d6 : b6 = true := by revert hdp; cases b6 <;> simp
      clear hdp
      have ek : b7 = false := by simpa using hi2.1
      clear hi2
      subst d0 d1 d4 d6
      obtain rfl := g0 rfl
      obtain rfl := g1 rfl
      obtain ⟨rfl, h41, h42⟩ := g4 rfl
      obtain ⟨rfl, h61⟩ := g6 rfl
      refine wpOp_last rfl (fun a w k => k) ?_
      go_wp2_with fail
      refine then_normal ?_
      rw [HInv.out]
      exact ⟨true, true, b2, b3, true, b5, true, true, b8, b9, _, _, _, _, _, _, _, _, _, g, tl, tc, sl, b, rfl, rfl, hD, (fun _ => rfl), (fun _ => rfl), g2, g3, (fun _ => ⟨rfl, h41, h42⟩), g5, (fun _ => ⟨rfl, h61⟩), (fun _ => ⟨rfl, rfl, rfl⟩), g8, (fun h => ⟨(g9 h).1, rfl, (g9 h).2.2⟩)⟩
    · -- 8
      have ek : b8 = false := by simpa using hi2.1
      clear hi2
      have hb : Below W.heap.size W (W.alloc (.cells #[.slice none 0 0, .slice none 0 0, .slice none 0 0, .slice none 0 0, .slice none 0 0, .slice none 0 0, .slice none 0 0, .int .i64 0] 87)) := (Below.refl _ W).alloc (Nat.le_refl _) _
      refine wpOp_last rfl (fun a w k => k) ?_
      go_wp2_with fail
      refine then_normal ?_
      rw [HInv.out]
      exact ⟨b0, b1, b2, b3, b4, b5, b6, b7, true, b9, _, _, _, _, _, _, _, _, _, g, tl, tc, sl, W.heap.size, rfl, rfl, (bth hD hb (Nat.le_refl _)), g0, g1, g2, g3, (fun h => by obtain ⟨e1, e2, e3⟩ := g4 h; exact ⟨e1, e2, own_belowG e3 hb⟩), g5, (fun h => by obtain ⟨e1, e2⟩ := g6 h; exact ⟨e1, e2.below hb⟩), g7, (fun _ => ⟨rfl, hD.size, fun _ => Blk8.new⟩), (fun h => absurd (g9 h).1 (by rw [ek]; simp))⟩
    · -- 9
      have hdp := hi2.2
      simp [Region.binds] at hdp
      have d8 : b8 = true := by revert hdp; cases b8 <;> simp
      have d7 : b7 = true := by revert hdp; cases b7 <;> simp
      clear hdp
      have ek : b9 = false := by simpa using hi2.1
      clear hi2
      subst d8 d7
      obtain ⟨rfl, h81, h82⟩ := g8 rfl
      obtain ⟨d4, d6, rfl⟩ := g7 rfl
      subst d4
      subst d6
      obtain ⟨rfl, h41, h42⟩ := g4 rfl
      obtain ⟨rfl, h61⟩ := g6 rfl
      have hZ := h82 ek
      obtain ⟨f0, f1, f2, f3, f4, f5, f6, f7⟩ := hZ.cells
      have s0 := hZ.soft 0
      have s1 := hZ.soft 1
      have s2 := hZ.soft 2
      have s3 := hZ.soft 3
      have s4 := hZ.soft 4
      have s5 := hZ.soft 5
      have s6 := hZ.soft 6
      have s7 := hZ.soft 7
      obtain ⟨q1, q2, q3, q4⟩ := fill8_all hZ h42 h61 hD h81 (.slice an ls.length cn) (.slice ao l.length co) (.slice as0 bs.length cs) (.slice ar rs.length cr) (.slice at0 ts.length ct) (.slice (some ⟨g, 0, none⟩) ts.length ts.length) (.slice tl T.length tc) (.int .i64 0)
      refine wpOp_last rfl (fun a w k => k) ?_
      go_wp2_with fail
      refine then_normal ?_
      rw [HInv.out]
      exact ⟨b0, b1, b2, b3, true, b5, true, true, true, true, _, _, _, _, _, _, _, _, _, g, tl, tc, sl, b, rfl, rfl, q4, g0, g1, g2, g3, (fun _ => ⟨rfl, h41, q2⟩), g5, (fun _ => ⟨rfl, q3⟩), (fun _ => ⟨rfl, rfl, rfl⟩), (fun _ => ⟨rfl, h81, fun h => by simp at h⟩), (fun _ => ⟨rfl, rfl, q1⟩)⟩
  · intro L a W hI hdn
    rw [HInv.out] at hI
    obtain ⟨b0, b1, b2, b3, b4, b5, b6, b7, b8, b9, t23, t24, t25, t26, t27, t28, t29, t30, t10, g, tl, tc, sl, b, hL, hact, hD, g0, g1, g2, g3, g4, g5, g6, g7, g8, g9⟩ := hI
    subst hL hact
    have hall := List.filter_eq_nil_iff.1 hdn
    clear hdn
    have e0 : b0 = true := by have hq := hall 0 (by simp); revert hq; cases b0 <;> simp [Region.binds]
    subst e0
    have e1 : b1 = true := by have hq := hall 1 (by simp); revert hq; cases b1 <;> simp [Region.binds]
    subst e1
    have e2 : b2 = true := by have hq := hall 2 (by simp); revert hq; cases b2 <;> simp [Region.binds]
    subst e2
    have e3 : b3 = true := by have hq := hall 3 (by simp); revert hq; cases b3 <;> simp [Region.binds]
    subst e3
    have e4 : b4 = true := by have hq := hall 4 (by simp); revert hq; cases b4 <;> simp [Region.binds]
    subst e4
    have e5 : b5 = true := by have hq := hall 5 (by simp); revert hq; cases b5 <;> simp [Region.binds]
    subst e5
    have e6 : b6 = true := by have hq := hall 6 (by simp); revert hq; cases b6 <;> simp [Region.binds]
    subst e6
    have e7 : b7 = true := by have hq := hall 7 (by simp); revert hq; cases b7 <;> simp [Region.binds]
    subst e7
    have e8 : b8 = true := by have hq := hall 8 (by simp); revert hq; cases b8 <;> simp [Region.binds]
    subst e8
    have e9 : b9 = true := by have hq := hall 9 (by simp); revert hq; cases b9 <;> simp [Region.binds]
    subst e9
    clear hall
    clear Inv HInv
    obtain rfl := g0 rfl
    obtain rfl := g1 rfl
    obtain rfl := g2 rfl
    obtain rfl := g3 rfl
    obtain ⟨rfl, hgl, hown⟩ := g4 rfl
    obtain rfl := g5 rfl
    obtain ⟨rfl, hOT⟩ := g6 rfl
    obtain ⟨_, _, rfl⟩ := g7 rfl
    obtain ⟨rfl, hbl, _⟩ := g8 rfl
    obtain ⟨_, _, hB8⟩ := g9 rfl
    clear g0 g1 g2 g3 g4 g5 g6 g7 g8 g9
    have hrow : (Value.slice (some ⟨g, 0, none⟩) ts.length ts.length) = .slice (some ⟨g, 0, none⟩) bs.length bs.length := by rw [HTB.out]
    rw [hrow] at hB8 hown
    rw [HTB.out] at hown
    have HD := Lib.hid hD
    have HB8 := Lib.hid hB8
    have HOW := Lib.hid hown
    have HOT := Lib.hid hOT
    have HPV : Hid (∀ W', Below w2.heap.size w2 W' → PlanV W' (.agg #[.slice an ls.length cn, .slice ao l.length co, .slice as0 bs.length cs, .slice ar rs.length cr]) ls l bs rs) := fun W' h => HV.out.below (bth HW2.out h (Nat.le_refl _))
    have HTV : Hid (∀ W', Below w2.heap.size w2 W' → RowV W' (.slice at0 ts.length ct) (S ts)) := fun W' h => HT.out.below (bth HW2.out h (Nat.le_refl _))
    obtain ⟨c0, c1, c2, c3⟩ := HKP.out W hD
    clear hB8 hown hOT hD hrow HKP HC3 hmk
    go_wp2_with fail
    go_loopw [35] (fun i wr => ∃ (k : Nat) (slr : List Value) (tlr : Option Addr) (tcr : Nat), k ≤ l.length ∧ i = .int .i64 (k : Int) ∧ Hid (Below w2.heap.size w2 wr) ∧ Hid (Blk8 wr b 87 (.slice an ls.length cn) (.slice ao l.length co) (.slice as0 bs.length cs) (.slice ar rs.length cr) (.slice at0 ts.length ct) (.slice (some ⟨g, 0, none⟩) bs.length bs.length) (.slice tlr (MK k).2.1.length tcr) (.int .i64 ((MK k).2.2 : Int))) ∧ Hid (wr.ownsRow w2.heap.size 75 2 (.slice (some ⟨g, 0, none⟩) bs.length bs.length) bs.length (RC (MK k).1)) ∧ Hid (OwnT w2.heap.size wr (.slice tlr (MK k).2.1.length tcr) slr (MK k).2.1)) (fun i _ => l.length - (intOf i).toNat)
    case atStart => exact ⟨0, sl, tl, tc, Nat.zero_le _, rfl, HD, by rw [HM0.out]; exact HB8, by rw [HM0.out]; exact HOW, by rw [HM0.out]; exact HOT⟩
    case round =>
      clear HD HB8 HOW HOT c0 c1 c2 c3
      obtain ⟨k, slr, tlr, tcr, hk, rfl, HB, H8, HN, HQ⟩ := hrel
      have HBW := Lib.hid (bth HW2.out HB.out (Nat.le_refl _))
      by_cases hlt : k < l.length
      · obtain ⟨ga, oa, rfl, hg, hcell0⟩ := HATO.out k hlt
        have hcell := (HBW.out.cell (p := ⟨ga, oa + k, none⟩) hg).trans hcell0
        obtain ⟨hx0, hx1⟩ := HIN.out k hlt
        have hnext := HMN.out k hlt
        obtain ⟨y, hy⟩ : ∃ y : Nat, l[k] = y := ⟨(l[k]).toNat, by omega⟩
        have hyl : y < ls.length := by omega
        have hyb : y < bs.length := by have := HBL.out; omega
        rw [hy, Int.toNat_natCast] at hnext
        rw [hy] at hcell
        have hon := HON.out k
        have hnl := HNL.out k
        have HNX := Lib.hid hnext
        have hll := HG10.out
        clear hcell0 hx0 hx1 hy HATO HIN HMN hnext HNL HON HM0 HMZ
        have hyz : (y : Int) < (bs.length : Int) := by omega
        generalize hS : MK k = s at *
        obtain ⟨M, TT, n⟩ := s
        simp only at hnl H8 HN HQ
        have hml := hon.len
        simp only at hml
        have hgd : y < M.length := by omega
        have hn2 : n ≤ 1000 := by omega
        have HDW : Hid (Below w2.heap.size w2 wr.drew) := HB.out.drew
        have HCB := Lib.hid (build_any ls l bs rs ts M TT n y b w2.heap.size slr an (some ⟨ga, oa, none⟩) as0 ar at0 tlr cn co cs cr ct tcr g wr.drew H8.out.drewn hbl HDW.out.size (fun W' h => HPV.out W' (HDW.out.trans h)) (fun W' h => HTV.out W' (HDW.out.trans h)) HN.out HQ.out HPL.out HTB.out hon hyl HXT.out hn2)
        have ks : wr.drew.cell? ⟨b, 5, none⟩ = some (.slice (some ⟨g, 0, none⟩) bs.length bs.length) := H8.out.cells.2.2.2.2.2.1
        clear hS hon hnl hn2
        go_wp2_with fail
        go_region_held3 (fun w' => w'.cell? ⟨b, 5, none⟩ = some (.slice (some ⟨g, 0, none⟩) bs.length bs.length)) (first | exact ks | exact Q8.out.cells.2.2.2.2.2.1)
          (first
            | (go_at_call 51
               refine HCB.out.mono ?_
               rintro e w5 ⟨⟨r1, r2⟩, T5, n5, a5, k5, sl5, rfl, htr, h5, hn5, hq5, hb5, -⟩
               have ks : w5.cell? ⟨b, 5, none⟩ = some (.slice (some ⟨g, 0, none⟩) bs.length bs.length) := h5.cells.2.2.2.2.2.1
               obtain ⟨d0, d1, f0, f1⟩ := own_atR hn5 hml hgd
               obtain ⟨q8, qn, qt, qb⟩ := built_row h5 hn5 hq5 (HDW.out.trans hb5) hgd (r1, r2)
               have HNX2 := Lib.hid (HNX.out.trans htr)
               have Q8 := Lib.hid q8
               have QN := Lib.hid qn
               have QT := Lib.hid qt
               have QB := Lib.hid qb
               unfold resV
               simp only
               clear htr h5 hn5 hq5 hb5 q8 qn qt qb HCB))
        all_goals
          clear ks
          go_wp2_with fail
          go_roundw
          case rel => exact ⟨k + 1, sl5, a5, k5, by omega, by go_num, QB, by rw [HNX2.out]; exact Q8, by rw [HNX2.out]; exact QN, by rw [HNX2.out]; exact QT⟩
          case measure => simp [intOf]; omega
      · obtain rfl : k = l.length := by omega
        have hon := HON.out l.length
        rw [HMZ.out] at hon H8 HN HQ
        have HML := Lib.hid hon.len
        clear HATO HIN HMN HNL HM0 HMZ hon HON
        obtain ⟨e0, e1, e2, e3, e4, e5, e6, e7⟩ := H8.out.cells
        go_wp2_with fail
        go_quiet (fail)
        all_goals
          go_wp2_with fail
          (try simp only [Exit.inBlock, Exit.then])
          refine bodyPost_ret (results_tmp4 rfl _ _ _) rfl ?_
          exact ⟨_, _, slr, rfl, by rw [HML.out]; exact own_baseG HN.out (Nat.le_of_lt hw2), HQ.out.base (Nat.le_of_lt hw2), by first | exact below_drewN HBW.out _ | exact HBW.out.drew⟩

theorem implTraced_any (ls : List (List Int)) (l : List Int) (bs : List Bool) (rs : List (List OpT)) (T : List TrT) (ts : List (List UInt8)) (v u x : Value) (w : World) (hp : PlanV w v ls l bs rs) (hT : RowT w u T) (hts : RowV w x (S ts)) (hx : ∀ l ∈ rs, ∀ f ∈ l, f.2.2.length ≤ maxLen) (hxT : ∀ t ∈ T, HeldT maxLen t) (hxx : ∀ x ∈ ts, x.length ≤ maxLen) :
    Calls Tryz.prog 13 #[v, u, x] w (TracedP (tracedA ls l bs rs T ts) (goodT ls l bs rs T && srcA ls l bs rs ts) w) := by
  unfold tracedA
  rcases h : (goodT ls l bs rs T && srcA ls l bs rs ts) with _ | _
  · exact implTraced_no ls l bs rs T ts v u x w hp hT hts hx hxT hxx h
  · rw [Bool.and_eq_true] at h
    exact implTraced_yes ls l bs rs T ts v u x w hp hT hts hx hxT hxx h.1 h.2

end Go.Proofs.YtgolhfmmlanmlaaGreatDoor

/- Walks: the laws' marks in traces, and whether they are held. -/
namespace Go.Proofs.YtgolhfmmlanmlaaGreatDoor
open Go.RowKit Pth

/-- The marks in a trace with n inputs, from k on. -/
def mark1 (k n : Nat) : TrT := ((k : Int), marksT (k + 1) n, (markT (k + 1 + n), ((k + n + 2 : Nat) : Int)))
def marksTr : Nat → List TrT → List TrT
  | _, [] => []
  | k, t :: r => mark1 k t.2.1.length :: marksTr (k + t.2.1.length + 3) r
/-- How many marks traces take. -/
def markN (l : List TrT) : Nat := 3 * l.length + totT l
theorem marksTr_len (k : Nat) (l : List TrT) : (marksTr k l).length = l.length := by
  induction l generalizing k with
  | nil => rfl
  | cons t r ih => rw [marksTr, List.length_cons, List.length_cons, ih]
theorem markN_cons (t : TrT) (l : List TrT) : markN (t :: l) = t.2.1.length + 3 + markN l := by
  simp only [markN, totT, List.length_cons, List.map_cons, List.sum_cons]; omega
theorem markN_next {l : List TrT} {j : Nat} (hj : j < l.length) : markN (l.take (j + 1)) = markN (l.take j) + l[j].2.1.length + 3 := by
  unfold markN
  rw [totT_next hj, List.length_take, List.length_take]; omega
theorem markN_le {l : List TrT} {j : Nat} : markN (l.take j) ≤ markN l := by
  have := totT_le (l := l) (k := j)
  unfold markN
  rw [List.length_take]; omega
theorem marksTr_snoc (k : Nat) (l : List TrT) (t : TrT) : marksTr k (l ++ [t]) = marksTr k l ++ [mark1 (k + markN l) t.2.1.length] := by
  induction l generalizing k with
  | nil => simp [marksTr, markN, totT]
  | cons x r ih =>
    rw [List.cons_append, marksTr, marksTr, ih, List.cons_append, markN_cons]
    rw [show k + x.2.1.length + 3 + markN r = k + (x.2.1.length + 3 + markN r) by omega]
theorem marksTr_next {k : Nat} {l : List TrT} {j : Nat} (hj : j < l.length) : marksTr k (l.take (j + 1)) = marksTr k (l.take j) ++ [mark1 (k + markN (l.take j)) l[j].2.1.length] := by
  rw [List.take_succ_eq_append_getElem hj, marksTr_snoc]
theorem marksTr_at {k : Nat} {l : List TrT} {j : Nat} (hj : j < l.length) : (marksTr k l)[j]'(by rw [marksTr_len]; exact hj) = mark1 (k + markN (l.take j)) l[j].2.1.length := by
  induction l generalizing k j with
  | nil => simp at hj
  | cons x r ih =>
    cases j with
    | zero => simp [marksTr, markN, totT]
    | succ j =>
      simp only [marksTr, List.getElem_cons_succ, List.take_succ_cons]
      rw [ih (by simpa using hj), markN_cons, show k + x.2.1.length + 3 + markN (r.take j) = k + (x.2.1.length + 3 + markN (r.take j)) by omega]

theorem zipT_split {β : Type} {sl : List Value} {M ls : List β} {j : Nat} (hs : sl.length = ls.length) (hM : M.length = j) (hj : j < ls.length) :
    sl.zip (M ++ ls.drop j) = (sl.take j).zip M ++ (sl[j]'(by omega), ls[j]) :: (sl.drop (j + 1)).zip (ls.drop (j + 1)) := by
  have e : sl = sl.take j ++ sl[j]'(by omega) :: sl.drop (j + 1) := by rw [← List.drop_eq_getElem_cons (by omega), List.take_append_drop]
  conv => lhs; rw [e, List.drop_eq_getElem_cons hj]
  rw [List.zip_append (by rw [List.length_take]; omega), List.zip_cons_cons]
theorem zipT_join {β : Type} {sl : List Value} {M ls : List β} {j : Nat} {x : β} (hs : sl.length = ls.length) (hM : M.length = j) (hj : j < ls.length) :
    (sl.take j).zip M ++ (sl[j]'(by omega), x) :: (sl.drop (j + 1)).zip (ls.drop (j + 1)) = sl.zip ((M ++ [x]) ++ ls.drop (j + 1)) := by
  have e : sl = sl.take j ++ sl[j]'(by omega) :: sl.drop (j + 1) := by rw [← List.drop_eq_getElem_cons (by omega), List.take_append_drop]
  conv => rhs; rw [e]
  rw [List.append_assoc, List.zip_append (by rw [List.length_take]; omega), List.singleton_append, List.zip_cons_cons]

theorem markStringS_at {l : List (List UInt8)} {k B : Nat} {i r : Int} {v : Value} {w : World} (hi : (k : Int) = i) (hr : r = (k : Int) + (l.length : Int)) (hown : w.ownsRow B 9 1 v l.length (S l)) (hl : l.length ≤ 2000000) (hk : k ≤ 4000000) (hk1 : 1 ≤ k) :
    Calls Tryz.prog 20 #[v, .int .i64 i] w fun e w' => e = .returned (.int .i64 r) ∧ w'.ownsRow B 9 1 v l.length (S (marksT k l.length)) ∧ w.grownBy w' v.ownBlock := by
  subst hi hr
  exact markStringS_any l k B v w hown hl hk hk1
theorem heldStringS_at {k n : Nat} {i r : Int} {v : Value} {w : World} (hi : (k : Int) = i) (hr : r = (k : Int) + (n : Int)) (hrow : RowV w v (S (marksT k n))) (hn : n ≤ 2000000) (hk : k ≤ 4000000) (hk1 : 1 ≤ k) :
    Calls Tryz.prog 61 #[v, .int .i64 i] w fun e w' => e = .returned (.int .i64 r) ∧ Below w.heap.size w w' := by
  subst hi hr
  exact heldStringS_any k n v w hrow hn hk hk1
theorem set_at {α : Type} (M : List α) (l : List α) (j : Nat) (hM : M.length = j) (hj : j < l.length) (x : α) : (M ++ l.drop j).set j x = (M ++ [x]) ++ l.drop (j + 1) := by
  rw [List.set_append_right _ _ (by omega), hM, Nat.sub_self, List.drop_eq_getElem_cons hj, List.set_cons_zero, List.append_assoc]
  rfl

/-- Blocks that hold neither traces nor texts are kept. -/
def KeepT (w w' : World) : Prop := ∀ (i : Nat) (cur : Array Value) (t : TypeId), t ≠ 80 → t ≠ 9 → w.heap[i]? = some (.cells cur t (0, 0)) → w'.heap[i]? = w.heap[i]?
theorem KeepT.refl (w : World) : KeepT w w := fun _ _ _ _ _ _ => rfl
theorem KeepT.trans {a b c : World} (h : KeepT a b) (k : KeepT b c) : KeepT a c := fun i cur t h1 h2 h3 => by
  have e := h i cur t h1 h2 h3
  exact (k i cur t h1 h2 (e.trans h3)).trans e
theorem KeepT.of_below {w w' : World} (h : Below w.heap.size w w') : KeepT w w' := fun i _ _ _ _ h3 => h.block i (lt_of_block h3)
theorem KeepT.of_grown {w w' : World} {r : Option Nat} {e : TypeId} (h : w.grownBy w' r) (he : e = 80 ∨ e = 9) (hr : ∀ i, r = some i → ∃ cs, w.heap[i]? = some (.cells cs e (0, 0))) : KeepT w w' := fun i cur t h1 h2 h3 => by
  refine h.block i (lt_of_block h3) fun e' => ?_
  obtain ⟨cs, hc⟩ := hr i e'.symm
  rw [h3] at hc
  injection hc with hc
  injection hc with _ h4 _
  rcases he with he | he
  · exact h1 (h4.trans he)
  · exact h2 (h4.trans he)
theorem OwnA.typed {B e z n : Nat} {w : World} {v : Value} {xs : List Value} (h : OwnA B e z w v n xs) : ∀ i, v.ownBlock = some i → ∃ cs, w.heap[i]? = some (.cells cs e (0, 0)) := by
  intro i hi
  obtain ⟨_, hn | ⟨g, o, cap, cur, hv, _, hg, _⟩⟩ := h
  · rw [hn.1] at hi; exact absurd hi (by simp [Value.ownBlock])
  · rw [hv] at hi
    have hgi : g = i := Option.some.inj hi
    subst hgi
    exact ⟨_, hg⟩
theorem KeepT.own {w w' : World} (k : KeepT w w') {B e n z : Nat} {v : Value} {xs : List Value} (h : w.ownsRow B e z v n xs) (h1 : e ≠ 80) (h2 : e ≠ 9) : w'.ownsRow B e z v n xs := by
  refine ⟨h.1, ?_⟩
  rcases h.2 with h0 | ⟨g, cap, cur, hv, hg, hc, r⟩
  · exact .inl h0
  · exact .inr ⟨g, cap, cur, hv, hg, (k g _ _ h1 h2 hc).trans hc, r⟩
/-- The traces hold the marks, and only blocks between two have turned. -/
def MarkedTr (B C : Nat) (v : Value) (sl : List Value) (l : List TrT) (k : Nat) (w : World) (e : Ending) (w' : World) : Prop :=
  e = .returned (.int .i64 ((k + markN l : Nat) : Int)) ∧ OwnT B w' v sl (marksTr k l) ∧ OnlyB B C w w' ∧ KeepT w w'

set_option maxRecDepth 20000 in
set_option maxHeartbeats 4000000 in
theorem markTraceS_C (l : List TrT) (k B C : Nat) (v : Value) (sl : List Value) (w : World) (h0 : OwnT B w v sl l) (hlt : ∀ b, v.ownBlock = some b → B ≤ b ∧ b < C) (hli : ∀ p ∈ sl.zip (l.map (·.2.1)), ∀ b, p.1.ownBlock = some b → B ≤ b ∧ b < C) (hB : B ≤ w.heap.size) (hz : l.length + totT l ≤ 1100000) (hk : k + markN l ≤ 4000000) (_hk1 : 1 ≤ k) :
    Calls Tryz.prog 19 #[v, .int .i64 (k : Int)] w (MarkedTr B C v sl l k w) := by
  obtain ⟨hs, hA, hL⟩ := h0
  have HLT := Lib.hid hlt
  have HLI := Lib.hid hli
  have HA0 := Lib.hid hA
  have HL0 := Lib.hid hL
  have HS := Lib.hid hs
  obtain ⟨a, cap, rfl, hc1, hc2⟩ := hA.slice
  unfold maxLen at hc2
  clear hA hL hs hlt hli
  go_enter Tryz.func19, Tryz.ntmps19
  go_wp2_with fail
  go_loopw [1, 5] (fun q i wr => ∃ j : Nat, j ≤ l.length ∧ q = .int .i64 ((k + markN (l.take j) : Nat) : Int) ∧ i = .int .i64 j ∧ Hid (OwnA B 80 4 wr (.slice a l.length cap) l.length (TC sl (marksTr k (l.take j) ++ l.drop j))) ∧ Hid (ListsS B wr (sl.zip ((marksTr k (l.take j)).map (·.2.1) ++ (l.map (·.2.1)).drop j))) ∧ Hid (OnlyB B C w wr) ∧ Hid (KeepT w wr)) (fun _ i _ => l.length - (intOf i).toNat)
  case atStart => exact ⟨0, Nat.zero_le _, by simp [markN, totT], rfl, by simpa [marksTr] using HA0, by simpa [marksTr, Hid] using HL0.out, ⟨Below.refl _ _, fun _ _ _ => rfl⟩, KeepT.refl _⟩
  case round =>
    clear HA0 HL0
    obtain ⟨j, hj, rfl, rfl, HN, HL, HG, HKP⟩ := hrel
    by_cases hlt : j < l.length
    · obtain ⟨g, o, cap', hv, _, _, hgs, hgB⟩ := HN.out.addr (by omega)
      injection hv with hv1 hv2 hv3
      subst hv1 hv3
      have hM : (marksTr k (l.take j)).length = j := by rw [marksTr_len, List.length_take]; omega
      have hMm : ((marksTr k (l.take j)).map (·.2.1)).length = j := by rw [List.length_map]; exact hM
      have hlen : sl.length = (marksTr k (l.take j) ++ l.drop j).length := by rw [List.length_append, hM, List.length_drop]; have := HS.out; omega
      have hjl : j < (marksTr k (l.take j) ++ l.drop j).length := by rw [List.length_append, hM, List.length_drop]; omega
      have hjs : j < sl.length := by have := HS.out; omega
      have hel : (marksTr k (l.take j) ++ l.drop j)[j] = l[j] := by
        rw [List.getElem_append_right (by omega)]
        simp [hM]
      obtain ⟨q0, q1, q2, q3⟩ := HN.out.atT hlen hjl
      rw [hel] at q0 q2 q3
      have f0 := HN.out.soft (o + j * 4)
      have f2 := HN.out.soft (o + j * 4 + 2)
      have f3 := HN.out.soft (o + j * 4 + 3)
      have hgC : B ≤ g ∧ g < C := HLT.out g rfl
      have hmapl : (l.map (·.2.1)).length = l.length := List.length_map _
      have hL := HL.out
      rw [zipT_split (by rw [hmapl]; exact HS.out) hMm (by rw [hmapl]; exact hlt)] at hL
      have hone0 : wr.ownsRow B 9 1 sl[j] l[j].2.1.length (S l[j].2.1) := by
        have := hL.1 (sl[j], (l.map (·.2.1))[j]'(by rw [hmapl]; exact hlt)) (by simp)
        rw [List.getElem_map] at this
        exact this
      obtain ⟨a2, c2, hsv⟩ := own_slice hone0
      have hmem : (sl[j], l[j].2.1) ∈ sl.zip (l.map (·.2.1)) := zip_getS hjs hlt
      have HIN := Lib.hid (fun b h => HLI.out _ hmem b h)
      have ht1 := totT_at hlt
      have ht2 := markN_le (l := l) (j := j + 1)
      have ht3 := markN_next hlt
      generalize hkq : k + markN (l.take j) = kq at *
      have hk4 : kq + l[j].2.1.length + 3 ≤ 4000000 := by omega
      -- the first store
      have hst0 := HN.out.stored (j * 4) (.int .i64 (kq : Int))
      obtain ⟨w1, hw1⟩ : ∃ w1, w1 = wr.setCell ⟨g, o + j * 4, none⟩ (.int .i64 (kq : Int)) := ⟨_, rfl⟩
      have HST0 : Hid (OwnA B 80 4 w1 (.slice (some ⟨g, o, none⟩) l.length cap) l.length ((TC sl (marksTr k (l.take j) ++ l.drop j)).set (j * 4) (.int .i64 (kq : Int))) ∧ wr.grownBy w1 (some g)) := by rw [hw1]; exact hst0
      have HL1 : Hid (ListsS B w1 ((sl.take j).zip ((marksTr k (l.take j)).map (·.2.1)) ++ (sl[j], l[j].2.1) :: (sl.drop (j + 1)).zip ((l.map (·.2.1)).drop (j + 1)))) := by
        have := hL.grownA HN.out (by decide) HST0.out.2
        rw [List.getElem_map] at this
        exact this
      have hone1 := HL1.out.1 (sl[j], l[j].2.1) (by simp)
      simp only at hone1
      have ei : ((kq + 1 : Nat) : Int) = (kq : Int) + 1 := by omega
      have HC1 := Lib.hid (markStringS_at (l := l[j].2.1) (k := kq + 1) (i := (kq : Int) + 1) (r := (kq : Int) + 1 + (l[j].2.1.length : Int)) (by omega) (by omega) hone1 (by omega) (by omega) (by omega))
      have HC2 := Lib.hid (fun W => mark_r (kq + 1 + l[j].2.1.length) ((kq : Int) + 1 + (l[j].2.1.length : Int)) (by omega) (by omega) (by omega) W)
      have HFIN : Hid (∀ w2 w3, w2.ownsRow B 9 1 sl[j] l[j].2.1.length (S (marksT (kq + 1) l[j].2.1.length)) → w1.grownBy w2 (sl[j]).ownBlock → Below w2.heap.size w2 w3 →
          OwnA B 80 4 w3 (.slice (some ⟨g, o, none⟩) l.length cap) l.length ((TC sl (marksTr k (l.take j) ++ l.drop j)).set (j * 4) (.int .i64 (kq : Int))) ∧
          ListsS B w3 (sl.zip ((marksTr k (l.take (j + 1))).map (·.2.1) ++ (l.map (·.2.1)).drop (j + 1))) ∧ OnlyB B C w w3 ∧ KeepT w w3) := by
        intro w2 w3 h1 h2 h3
        have hk3 : KeepT w w3 := (HKP.out.trans (KeepT.of_grown HST0.out.2 (.inl rfl) (fun i hi => HN.out.typed i hi))).trans ((KeepT.of_grown h2 (.inr rfl) (fun i hi => (OwnA.of_own hone1).typed i hi)).trans (KeepT.of_below h3))
        have hN2 := HST0.out.1.other hone1 (by decide) h2
        have hL2 := HL1.out.turn (v' := sl[j]) (l' := marksT (kq + 1) l[j].2.1.length) h2 (by rw [marksT_len]; exact h1) (fun b hb => .inl hb)
        rw [zipT_join (by rw [hmapl]; exact HS.out) hMm (by rw [hmapl]; exact hlt)] at hL2
        have em : (marksTr k (l.take (j + 1))).map (·.2.1) = (marksTr k (l.take j)).map (·.2.1) ++ [marksT (kq + 1) l[j].2.1.length] := by
          rw [marksTr_next hlt, List.map_append, hkq]; rfl
        rw [← em] at hL2
        have hw1s : wr.heap.size ≤ w1.heap.size := HST0.out.2.size
        refine ⟨hN2.below h3, hL2.below h3, (HG.out.trans (OnlyB.of_grown HST0.out.2 (fun i hi => by injection hi with hi; subst hi; exact hgC) (Nat.le_trans hB HG.out.below.size))).trans ((OnlyB.of_grown h2 (fun i hi => HIN.out i hi) ?_).trans (OnlyB.of_below h3 ?_)), hk3⟩
        · exact Nat.le_trans hB (Nat.le_trans HG.out.below.size hw1s)
        · exact Nat.le_trans hB (Nat.le_trans HG.out.below.size (Nat.le_trans hw1s h2.size))
      have HSET : Hid (((((TC sl (marksTr k (l.take j) ++ l.drop j)).set (j * 4) (.int .i64 (kq : Int)))).set (j * 4 + 2) (.string ⟨(markT (kq + 1 + l[j].2.1.length)).toArray⟩)).set (j * 4 + 3) (.int .i64 ((kq : Int) + 1 + (l[j].2.1.length : Int) + 1)) = TC sl (marksTr k (l.take (j + 1)) ++ l.drop (j + 1))) := by
        have h1 := TC_set hlen hjl (sl[j]'hjs) (mark1 kq l[j].2.1.length)
        have h2 : ((TC sl (marksTr k (l.take j) ++ l.drop j)).set (j * 4) (.int .i64 (kq : Int)))[j * 4 + 1]? = some (sl[j]'hjs) := by
          rw [List.getElem?_set_ne (by omega)]
          exact (TC_at hlen hjl).2.1
        have h3 : ((TC sl (marksTr k (l.take j) ++ l.drop j)).set (j * 4) (.int .i64 (kq : Int))).set (j * 4 + 1) (sl[j]'hjs) = (TC sl (marksTr k (l.take j) ++ l.drop j)).set (j * 4) (.int .i64 (kq : Int)) := by
          obtain ⟨hb, he⟩ := List.getElem?_eq_some_iff.1 h2
          rw [← he, List.set_getElem_self]
        have h4 : sl.set j (sl[j]'hjs) = sl := List.set_getElem_self _
        simp only [mark1] at h1
        rw [h3, h4] at h1
        rw [show (kq : Int) + 1 + (l[j].2.1.length : Int) + 1 = ((kq + l[j].2.1.length + 2 : Nat) : Int) by omega]
        show _ = _
        rw [h1, marksTr_next hlt, set_at _ l j hM hlt, hkq]; rfl
      have HKN : Hid ((((k + markN (l.take (j + 1)) : Nat)) : Int) = (kq : Int) + 1 + (l[j].2.1.length : Int) + 1 + 1) := by show _ = _; omega
      rw [hsv] at q1 HC1 HFIN
      have HW1 := Lib.hid hw1
      clear hw1 hst0 hone0 hone1 hL hM hMm hlen hjl hel hmem ht1 ht2 ht3 hmapl hkq HN HL HG HKP HL1 HIN hv2 ei
      generalize l[j].1 = z1 at *
      generalize l[j].2.2.1 = z2 at *
      generalize l[j].2.2.2 = z3 at *
      generalize markT (kq + 1 + l[j].2.1.length) = tx at *
      generalize l[j].2.1.length = n at *
      go_wp2_with fail
      rw [← HW1.out]
      refine HC1.out.mono ?_
      rintro e w2 ⟨rfl, h1, h2⟩
      have H1 := Lib.hid h1
      have H2 := Lib.hid h2
      clear h1 h2 HC1 q0 q1 q2 q3 f0 f2 f3
      go_wp2_with fail
      refine (HC2.out _).mono ?_
      rintro e w3 ⟨rfl, hb3⟩
      obtain ⟨hN3, hL3, hG3, hP3⟩ := HFIN.out w2 w3 H1.out H2.out hb3
      have HN3 := Lib.hid hN3
      have HL3 := Lib.hid hL3
      have HG3 := Lib.hid hG3
      have hlen3 : j * 4 + 3 < ((TC sl (marksTr k (l.take j) ++ l.drop j)).set (j * 4) (.int .i64 (kq : Int))).length := by have := hN3.1; omega
      obtain ⟨y2, ey2⟩ : ∃ y2, ((TC sl (marksTr k (l.take j) ++ l.drop j)).set (j * 4) (.int .i64 (kq : Int)))[j * 4 + 2]? = some y2 := ⟨_, List.getElem?_eq_getElem (by omega)⟩
      obtain ⟨y3, ey3⟩ : ∃ y3, ((TC sl (marksTr k (l.take j) ++ l.drop j)).set (j * 4) (.int .i64 (kq : Int)))[j * 4 + 3]? = some y3 := ⟨_, List.getElem?_eq_getElem hlen3⟩
      have q2 := HN3.out.cell ey2
      have q3 := HN3.out.cell ey3
      have f2 := HN3.out.soft (o + (j * 4 + 2))
      have f3 := HN3.out.soft (o + (j * 4 + 3))
      rw [← Nat.add_assoc] at q2 q3 f2 f3
      have hst2 := HN3.out.stored (j * 4 + 2) (.string ⟨tx.toArray⟩)
      have hst3 := hst2.1.stored (j * 4 + 3) (.int .i64 ((kq : Int) + 1 + (n : Int) + 1))
      rw [HSET.out] at hst3
      have HN4 := Lib.hid hst3.1
      have hgg := grown_trans hst2.2 hst3.2
      have HP4 := Lib.hid (hP3.trans (KeepT.of_grown hgg (.inl rfl) (fun i hi => HN3.out.typed i hi)))
      have HL4 := Lib.hid (HL3.out.grownA HN3.out (by decide) hgg)
      have HG4 := Lib.hid (HG3.out.trans (OnlyB.of_grown hgg (fun i hi => by injection hi with hi; subst hi; exact hgC) (Nat.le_trans hB HG3.out.below.size)))
      clear hN3 hL3 hG3 hP3 hb3 HC2 HFIN hst2 hst3 hgg HSET H1 H2 HW1 HL3 HG3 HST0 hlen3 ey2 ey3 HN3
      go_wp2_with fail
      go_roundw
      case rel => exact ⟨j + 1, by omega, by rw [HKN.out], by go_num, HN4, HL4, HG4, HP4⟩
      case measure => simp [intOf]; omega
    · have hjl : j = l.length := by omega
      rw [hjl, List.take_length, List.drop_length, List.append_nil] at HN
      rw [hjl, List.take_length, List.drop_of_length_le (by rw [List.length_map]; omega), List.append_nil] at HL
      have HF : Hid (OwnT B wr (.slice a l.length cap) sl (marksTr k l)) := ⟨by rw [marksTr_len]; exact HS.out, by rw [marksTr_len]; exact HN.out, HL.out⟩
      rw [hjl, List.take_length]
      clear HN HL
      go_wp2_with fail
      go_ret
      exact ⟨rfl, HF.out, HG.out, HKP.out⟩

set_option maxRecDepth 20000 in
set_option maxHeartbeats 4000000 in
theorem heldTraceS_any (l : List TrT) (k : Nat) (v : Value) (w : World) (hrow : RowT w v (marksTr k l)) (hz : l.length + totT l ≤ 1100000) (hk : k + markN l ≤ 4000000) (hk1 : 1 ≤ k) :
    Calls Tryz.prog 23 #[v, .int .i64 (k : Int)] w fun e w' => e = .returned (.int .i64 ((k + markN l : Nat) : Int)) ∧ Below w.heap.size w w' := by
  obtain ⟨a, cap, rfl, hc1, hc2, hat⟩ := hrow.traces
  rw [marksTr_len] at hc1 ⊢
  clear hrow
  unfold maxLen at hc2
  have HAT := Lib.hid hat
  clear hat
  go_enter Tryz.func23, Tryz.ntmps23
  go_wp2_with fail
  go_loopw [1, 5] (fun q i wr => ∃ j : Nat, j ≤ l.length ∧ q = .int .i64 ((k + markN (l.take j) : Nat) : Int) ∧ i = .int .i64 j ∧ Hid (Below w.heap.size w wr)) (fun _ i _ => l.length - (intOf i).toNat)
  case atStart => exact ⟨0, Nat.zero_le _, by simp [markN, totT], rfl, Below.refl _ _⟩
  case round =>
    obtain ⟨j, hj, rfl, rfl, HB⟩ := hrel
    by_cases hlt : j < l.length
    · obtain ⟨g, o, a2, c2, rfl, hg, ⟨k0, k1, k2, k3⟩, hrk⟩ := HAT.out j (by rw [marksTr_len]; exact hlt)
      rw [marksTr_at hlt] at k0 k1 k2 k3 hrk
      have s0 := (HB.out.cell (p := ⟨g, o + j * 4, none⟩) hg).trans k0
      have s1 := (HB.out.cell (p := ⟨g, o + j * 4 + 1, none⟩) hg).trans k1
      have s2 := (HB.out.cell (p := ⟨g, o + j * 4 + 2, none⟩) hg).trans k2
      have s3 := (HB.out.cell (p := ⟨g, o + j * 4 + 3, none⟩) hg).trans k3
      have ht1 := totT_at hlt
      have ht2 := markN_le (l := l) (j := j + 1)
      have ht3 := markN_next hlt
      have HKN : Hid ((((k + markN (l.take (j + 1)) : Nat)) : Int) = ((k + markN (l.take j) : Nat) : Int) + 1 + (l[j].2.1.length : Int) + 1 + 1) := by show _ = _; omega
      have hk4 : k + markN (l.take j) + l[j].2.1.length + 3 ≤ 4000000 := by omega
      have hkq1 : 1 ≤ k + markN (l.take j) := by omega
      generalize k + markN (l.take j) = kq at *
      generalize hn : l[j].2.1.length = n at *
      unfold mark1 at s0 s1 s2 s3 hrk
      simp only [marksT_len] at s0 s1 s2 s3 hrk
      rw [show ((kq + n + 2 : Nat) : Int) = (kq : Int) + 1 + (n : Int) + 1 by omega] at s3
      have HC1 := Lib.hid (heldStringS_at (k := kq + 1) (n := n) (i := (kq : Int) + 1) (r := (kq : Int) + 1 + (n : Int)) (by omega) (by omega) (hrk.below HB.out) (by omega) (by omega) (by omega))
      have HC2 := Lib.hid (fun W => mark_r (kq + 1 + n) ((kq : Int) + 1 + (n : Int)) (by omega) (by omega) (by omega) W)
      have hgw : g < wr.heap.size := by have := HB.out.size; omega
      have hj1 : (j : Int) < (l.length : Int) := by omega
      have hnn : decide ((kq : Int) + 1 + (n : Int) < 0) = false := by simp; omega
      clear k0 k1 k2 k3 hrk ht1 ht2 ht3 hn
      generalize markT (kq + 1 + n) = tx at *
      go_wp2_with fail
      refine HC1.out.mono ?_
      rintro e w1 ⟨rfl, hb1⟩
      have HB1 := Lib.hid (bth HB.out hb1 (Nat.le_refl _))
      have hgw1 : g < w1.heap.size := by have := hb1.size; omega
      have r2 := (hb1.cell (p := ⟨g, o + j * 4 + 2, none⟩) hgw).trans s2
      have r3 := (hb1.cell (p := ⟨g, o + j * 4 + 3, none⟩) hgw).trans s3
      clear hb1 HC1 s0 s1 s2 s3
      have ks := And.intro r2 r3
      go_wp2_with fail
      go_region_held3 (fun w' => w'.cell? ⟨g, o + j * 4 + 2, none⟩ = some (.string ⟨tx.toArray⟩) ∧ w'.cell? ⟨g, o + j * 4 + 3, none⟩ = some (.int .i64 ((kq : Int) + 1 + (n : Int) + 1))) (first | exact ks | exact k0)
        (first | (go_at_call 60; refine (HC2.out _).mono ?_; rintro e w5 ⟨rfl, hb5⟩; have k0 := And.intro ((hb5.cell (p := ⟨g, o + j * 4 + 2, none⟩) hgw1).trans ks.1) ((hb5.cell (p := ⟨g, o + j * 4 + 3, none⟩) hgw1).trans ks.2)))
      have s3 := k0.2
      have HB5 := Lib.hid ((Below.drew HB1.out).trans (hb5.mono HB1.out.size))
      clear hb5 k0 ks r2 r3
      go_wp2_with fail
      go_roundw
      case rel => exact ⟨j + 1, by omega, by rw [HKN.out], by go_num, HB5⟩
      case measure => simp [intOf]; omega
    · have hjl : j = l.length := by omega
      rw [hjl, List.take_length]
      clear HAT
      go_wp2_with fail
      go_ret
      exact ⟨rfl, HB.out⟩

/-- What lies above is kept. -/
theorem OnlyB.ownA {B C D e n z : Nat} {w w' : World} {v : Value} {xs : List Value} (hg : OnlyB B C w w') (h : OwnA D e z w v n xs) (hD : C ≤ D) : OwnA D e z w' v n xs :=
  h.keep fun g _ hg' hh => hg.above g (Nat.le_trans hD (h.lt g hg').1) (lt_of_block hh)
theorem OnlyB.ownT {B C D : Nat} {w w' : World} {v : Value} {sl : List Value} {l : List TrT} (hg : OnlyB B C w w') (h : OwnT D w v sl l) (hD : C ≤ D) : OwnT D w' v sl l :=
  ⟨h.1, hg.ownA h.2.1 hD, fun p hp => hg.own (h.2.2.1 p hp) hD, h.2.2.2⟩
end Go.Proofs.YtgolhfmmlanmlaaGreatDoor

/- Walks: whether two lists of traces are the same. -/
namespace Go.Proofs.YtgolhfmmlanmlaaGreatDoor
open Go.RowKit Pth

set_option maxRecDepth 20000 in
set_option maxHeartbeats 4000000 in
theorem eqTraceS_any (l m : List TrT) (v u : Value) (w : World) (hr1 : RowT w v l) (hr2 : RowT w u m) (hl : l.length + totT l ≤ 2000000) :
    Calls Tryz.prog 15 #[v, u] w (BoolPost (decide (l = m)) w) := by
  obtain ⟨a, cap, rfl, hc1, hc2, hat⟩ := hr1.traces
  obtain ⟨a2, cap2, rfl, hc3, hc4, hat2⟩ := hr2.traces
  clear hr1 hr2
  unfold maxLen at hc2 hc4
  have HAT := Lib.hid hat
  have HAT2 := Lib.hid hat2
  clear hat hat2
  by_cases hlen : l.length = m.length
  · have hlen1 : ((l.length : Int) != (m.length : Int)) = false := by simp [hlen]
    have hle1 : l.length ≤ m.length := by omega
    have hle2 : m.length ≤ l.length := by omega
    clear hlen
    go_enter Tryz.func15, Tryz.ntmps15
    go_wp2_with fail
    go_loopw [5] (fun i wr => ∃ k : Nat, k ≤ l.length ∧ i = .int .i64 k ∧ Hid (l.take k = m.take k) ∧ Hid (Below w.heap.size w wr)) (fun i _ => l.length - (intOf i).toNat)
    case atStart => exact ⟨0, Nat.zero_le _, rfl, rfl, Below.refl _ _⟩
    case round =>
      obtain ⟨k, hk, rfl, HO, HB⟩ := hrel
      by_cases hlt : k < l.length
      · obtain ⟨g, o, b2, d2, rfl, hg, ⟨k0, k1, k2, k3⟩, hrk⟩ := HAT.out k hlt
        obtain ⟨g2, o2, b3, d3, rfl, hg2, ⟨m0, m1, m2, m3⟩, hrk2⟩ := HAT2.out k (by omega)
        have s0 := (HB.out.cell (p := ⟨g, o + k * 4, none⟩) hg).trans k0
        have s1 := (HB.out.cell (p := ⟨g, o + k * 4 + 1, none⟩) hg).trans k1
        have s2 := (HB.out.cell (p := ⟨g, o + k * 4 + 2, none⟩) hg).trans k2
        have s3 := (HB.out.cell (p := ⟨g, o + k * 4 + 3, none⟩) hg).trans k3
        have t0 := (HB.out.cell (p := ⟨g2, o2 + k * 4, none⟩) hg2).trans m0
        have t1 := (HB.out.cell (p := ⟨g2, o2 + k * 4 + 1, none⟩) hg2).trans m1
        have t2 := (HB.out.cell (p := ⟨g2, o2 + k * 4 + 2, none⟩) hg2).trans m2
        have t3 := (HB.out.cell (p := ⟨g2, o2 + k * 4 + 3, none⟩) hg2).trans m3
        have hi1 : (k : Int) < (l.length : Int) := by omega
        have hi2 : (k : Int) < (m.length : Int) := by omega
        have hbs := HB.out.size
        have hgw : g < wr.heap.size := by omega
        have hgw2 : g2 < wr.heap.size := by omega
        obtain ⟨b, hbE⟩ : ∃ b, decide (l[k] = m[k]) = b := ⟨_, rfl⟩
        have HC := Lib.hid (fun W (h : Below w.heap.size w W) => eqTrace_b ⟨b2, d2, rfl, hrk.below h⟩ ⟨b3, d3, rfl, hrk2.below h⟩ (by have := totT_at hlt; omega) hbE)
        have HS : Hid (if b then l.take (k + 1) = m.take (k + 1) else decide (l = m) = false) := by
          unfold Hid
          subst hbE
          by_cases he : l[k] = m[k]
          · simp only [he, decide_true, if_true]; exact same_next HO.out hlt (by omega) he
          · simp only [he, decide_false]; exact decide_eq_false (same_not hlt (by omega) he)
        clear HO hbE k0 k1 k2 k3 m0 m1 m2 m3 hrk hrk2
        generalize l[k] = x at *
        generalize m[k] = y at *
        obtain ⟨x1, xi, x2, x3⟩ := x
        obtain ⟨y1, yi, y2, y3⟩ := y
        unfold trV at HC
        simp only at s0 s1 s2 s3 t0 t1 t2 t3 HC
        generalize xi.length = n1 at *
        generalize yi.length = n2 at *
        have ks := And.intro (And.intro s0 (And.intro s1 (And.intro s2 s3))) (And.intro t0 (And.intro t1 (And.intro t2 t3)))
        go_wp2_with fail
        go_region_held3 (fun w' => (w'.cell? ⟨g, o + k * 4, none⟩ = some (.int .i64 x1) ∧ w'.cell? ⟨g, o + k * 4 + 1, none⟩ = some (.slice b2 n1 d2) ∧ w'.cell? ⟨g, o + k * 4 + 2, none⟩ = some (.string ⟨x2.toArray⟩) ∧ w'.cell? ⟨g, o + k * 4 + 3, none⟩ = some (.int .i64 x3)) ∧
            (w'.cell? ⟨g2, o2 + k * 4, none⟩ = some (.int .i64 y1) ∧ w'.cell? ⟨g2, o2 + k * 4 + 1, none⟩ = some (.slice b3 n2 d3) ∧ w'.cell? ⟨g2, o2 + k * 4 + 2, none⟩ = some (.string ⟨y2.toArray⟩) ∧ w'.cell? ⟨g2, o2 + k * 4 + 3, none⟩ = some (.int .i64 y3))) (first | exact ks | exact k0)
          (first | (go_at_call 53; refine (HC.out _ (Below.drew HB.out)).mono ?_; rintro e w5 ⟨rfl, hb5⟩
                    have k0 := And.intro (And.intro ((hb5.cell (p := ⟨g, o + k * 4, none⟩) hgw).trans s0) (And.intro ((hb5.cell (p := ⟨g, o + k * 4 + 1, none⟩) hgw).trans s1) (And.intro ((hb5.cell (p := ⟨g, o + k * 4 + 2, none⟩) hgw).trans s2) ((hb5.cell (p := ⟨g, o + k * 4 + 3, none⟩) hgw).trans s3))))
                      (And.intro ((hb5.cell (p := ⟨g2, o2 + k * 4, none⟩) hgw2).trans t0) (And.intro ((hb5.cell (p := ⟨g2, o2 + k * 4 + 1, none⟩) hgw2).trans t1) (And.intro ((hb5.cell (p := ⟨g2, o2 + k * 4 + 2, none⟩) hgw2).trans t2) ((hb5.cell (p := ⟨g2, o2 + k * 4 + 3, none⟩) hgw2).trans t3))))))
        have HB5 := Lib.hid (bth (Below.drew HB.out) hb5 (Nat.le_refl _))
        clear hb5 k0 ks
        rcases b with _ | _
        · go_wp2_with fail
          go_ret
          exact ⟨ret_bool (by have := HS.out; simpa using this.symm), HB5.out⟩
        · go_wp2_with fail
          go_roundw
          case rel => exact ⟨k + 1, by omega, by go_num, HS.out, HB5⟩
          case measure => simp [intOf]; omega
      · have HS : Hid (decide (l = m) = true) := decide_eq_true (same_all HO.out (by omega) (by omega))
        clear HO HAT HAT2
        go_wp2_with fail
        go_ret
        exact ⟨ret_bool HS.out.symm, HB.out⟩
  · have hlen1 : ((l.length : Int) != (m.length : Int)) = true := by simp; omega
    have HS : Hid (decide (l = m) = false) := decide_eq_false (fun h => hlen (by rw [h]))
    clear HAT HAT2
    go_enter Tryz.func15, Tryz.ntmps15
    go_wp2_with fail
    go_ret
    exact ⟨ret_bool HS.out.symm, Below.refl _ _⟩
end Go.Proofs.YtgolhfmmlanmlaaGreatDoor

/- Walks: the law that a build with traces is told alike, given contracts of both programs. -/
namespace Go.Proofs.YtgolhfmmlanmlaaGreatDoor
open Go.RowKit Pth

set_option maxRecDepth 20000 in
set_option maxHeartbeats 16000000 in
theorem exactBuildTraced_of (ls : List (List Int)) (l : List Int) (bs : List Bool) (rs : List (List OpT)) (T : List TrT) (ts : List (List UInt8)) (R : List ResT) (N : List TrT) (n : Nat) (ok : Bool) (v u y : Value) (w : World) (hst : PlanV w v ls l bs rs) (hx : ∀ l ∈ rs, ∀ f ∈ l, f.2.2.length ≤ maxLen)
    (hT : RowT w u T) (hxT : ∀ t ∈ T, HeldT maxLen t) (ht : RowV w y (S ts)) (hxt : ∀ x ∈ ts, x.length ≤ maxLen) (hL : R.length ≤ 1000) (hL2 : N.length + totT N ≤ 1000) (hn : n ≤ 1000)
    (hsp : (∀ W u x y, PlanV W u ls l bs rs → RowT W x T → RowV W y (S ts) → Calls Tryz.prog 9 #[u, x, y] W (TracedP (R, N, n) ok W))) (him : (∀ W u x y, PlanV W u ls l bs rs → RowT W x T → RowV W y (S ts) → Calls Tryz.prog 13 #[u, x, y] W (TracedP (R, N, n) ok W))) :
    Calls Tryz.prog 3 #[v, u, y] w (YesW w) := by
  have HST := Lib.hid hst
  have HTT := Lib.hid hT
  have HTS := Lib.hid ht
  have HSP := Lib.hid hsp
  have HIM := Lib.hid him
  clear hsp him
  obtain ⟨nv, ov, sv, rv, rfl, h1, h2, h3, h4⟩ := hst
  obtain ⟨as0, cs, rfl, hs1, hs2, _⟩ := h3.boolsW
  obtain ⟨an, cn, rfl, hn1, hn2, _⟩ := h1.lists
  obtain ⟨ao, co, rfl, ho1, ho2, _⟩ := h2.ints
  obtain ⟨ar, cr, rfl, hr1, hr2, _⟩ := h4.lists
  clear h1 h2 h3 h4
  obtain ⟨au, cu, rfl, hu1, hu2, _⟩ := hT.traces
  obtain ⟨at0, ct, rfl, ht1, ht2, _⟩ := ht.texts
  unfold maxLen at hs2 hn2 ho2 hr2 hu2 ht2
  obtain ⟨wa, hwa⟩ : ∃ wa, wa = w.alloc (.cells #[.slice an ls.length cn, .slice ao l.length co, .slice as0 bs.length cs, .slice ar rs.length cr] 29) := ⟨_, rfl⟩
  have hsz : wa.heap.size = w.heap.size + 1 := by rw [hwa]; simp
  have P0 : Hid (Blk4 wa w.heap.size 29 (.slice an ls.length cn) (.slice ao l.length co) (.slice as0 bs.length cs) (.slice ar rs.length cr)) := by rw [hwa]; exact Blk4.new
  have HA : Hid (Below w.heap.size w wa) := by rw [hwa]; exact (Below.refl w.heap.size w).alloc (Nat.le_refl _) _
  have HWA : Hid (w.alloc (.cells #[.slice an ls.length cn, .slice ao l.length co, .slice as0 bs.length cs, .slice ar rs.length cr] 29) = wa) := by rw [hwa]; rfl
  have hlt0 : w.heap.size < wa.heap.size := by omega
  have HPV : Hid (∀ W, Below wa.heap.size wa W → PlanV W (.agg #[.slice an ls.length cn, .slice ao l.length co, .slice as0 bs.length cs, .slice ar rs.length cr]) ls l bs rs) := fun W h => HST.out.below (bth HA.out h (Nat.le_refl _))
  have HMV : Hid (∀ W, Below wa.heap.size wa W → RowT W (.slice au T.length cu) T) := fun W h => HTT.out.below (bth HA.out h (Nat.le_refl _))
  have HXV : Hid (∀ W, Below wa.heap.size wa W → RowV W (.slice at0 ts.length ct) (S ts)) := fun W h => HTS.out.below (bth HA.out h (Nat.le_refl _))
  have HS := Lib.hid (szPlan_any ls l bs rs 1048576 _ wa (HST.out.below HA.out) hx (by omega))
  have HSX := Lib.hid (fun (left : Nat) W (h : Below wa.heap.size wa W) hl => szTraceS_any T left _ W (HMV.out W h) hxT hl)
  have HSY := Lib.hid (fun (left : Nat) W (h : Below wa.heap.size wa W) hl => szStringS_le ts left _ W (HXV.out W h) hxt hl)
  obtain ⟨c0, c1, c2, c3⟩ := P0.out.cells
  clear hwa hx hT hxT hxt ht hsz
  go_enter Tryz.func3, Tryz.ntmps3
  go_wp2_with fail
  rw [HWA.out]
  refine HS.out.mono ?_
  rintro e w1 ⟨r0, rfl, hle0, hr0, hb1⟩
  have K0 := Lib.hid hb1
  clear hb1 HS c0 c1 c2 c3
  by_cases h0 : r0 < 0
  · clear hr0 hle0
    go_wp2_with fail
    go_ret
    exact ⟨rfl, bth HA.out K0.out (Nat.le_refl _)⟩
  have hz : planZ ls l bs rs ≤ 1100000 := by have := hr0 (by omega); omega
  have hz2 : planZ ls l bs rs ≤ 2000000 := by omega
  obtain ⟨n0, rfl⟩ : ∃ n0 : Nat, r0 = n0 := ⟨r0.toNat, by omega⟩
  have hn0 : n0 ≤ 2000000 := by omega
  have HR0 : Hid (n0 + planZ ls l bs rs ≤ 1048576) := by have := hr0 (by omega); show _ ≤ _; omega
  clear hr0
  go_wp2_with fail
  refine (HSX.out n0 w1 K0.out hn0).mono ?_
  rintro e x1 ⟨r1, rfl, hle1, hr1', hb1⟩
  have KX1 := Lib.hid (bth K0.out hb1 (Nat.le_refl _))
  clear hb1
  by_cases hc1' : r1 < 0
  · clear hr1'
    go_wp2_with fail
    go_ret
    exact ⟨rfl, bth HA.out KX1.out (Nat.le_refl _)⟩
  have hml : T.length + totT T ≤ 1100000 := by have := (hr1' (by omega)).1; omega
  obtain ⟨n1, rfl⟩ : ∃ n1 : Nat, r1 = n1 := ⟨r1.toNat, by omega⟩
  have hn1' : n1 ≤ 2000000 := by omega
  have HR1 : Hid (n1 + (planZ ls l bs rs + (T.length + totT T)) ≤ 1048576) := by have := (hr1' (by omega)).1; have := HR0.out; show _ ≤ _; omega
  clear hr1'
  go_wp2_with fail
  refine (HSY.out n1 x1 KX1.out hn1').mono ?_
  rintro e x2 ⟨r2, rfl, hle2, hr2', hw2⟩
  obtain rfl := hw2
  by_cases hc2' : r2 < 0
  · clear hr2'
    go_wp2_with fail
    go_ret
    exact ⟨rfl, bth HA.out KX1.out (Nat.le_refl _)⟩
  have HR2 : Hid (planZ ls l bs rs + (T.length + totT T) + ts.length ≤ 1048576) := by have := (hr2' (by omega)).1; have := HR1.out; show _ ≤ _; omega
  have hil : ts.length ≤ 1100000 := by have := HR2.out; omega
  clear hr2' HSX HSY
  obtain ⟨c0, c1, c2, c3⟩ := (P0.out.below KX1.out hlt0).cells
  have HTO := Lib.hid (fun W (hb : PlanV W _ ls l bs rs) => toPlan_any ls l bs rs (.agg #[.slice an ls.length cn, .slice ao l.length co, .slice as0 bs.length cs, .slice ar rs.length cr]) W hb hz2)
  have HTI := Lib.hid (fun W (hb : RowT W _ T) => toTraceS_any T (.slice au T.length cu) W hb (by omega))
  have HTX := Lib.hid (fun W (hb : RowV W _ (S ts)) => toStringS_any ts (.slice at0 ts.length ct) W hb (by omega))
  have HE : Hid (∀ W x y, PlanV W x ls l bs rs → PlanV W y ls l bs rs → Calls Tryz.prog 16 #[x, y] W fun e w' => e = .returned (.bool true) ∧ Below W.heap.size W w') := fun W x y h1 h2 => eqPlan_same ls l bs rs x y W h1 h2 hz2
  have HEI : Hid (∀ W x y, RowT W x T → RowT W y T → Calls Tryz.prog 15 #[x, y] W fun e w' => e = .returned (.bool true) ∧ Below W.heap.size W w') := fun W x y h1 h2 => by
    have := eqTraceS_any T T x y W h1 h2 (by omega)
    rwa [decide_eq_true (rfl : T = T)] at this
  have HEX : Hid (∀ W x y, RowV W x (S ts) → RowV W y (S ts) → Calls Tryz.prog 17 #[x, y] W fun e w' => e = .returned (.bool true) ∧ Below W.heap.size W w') := fun W x y h1 h2 => by
    have := eqStringS_any ts ts x y W h1 h2 (by omega)
    rwa [decide_eq_true (rfl : ts = ts)] at this
  have HEQ : Hid (∀ W x y, RowR W x R → RowR W y R → Calls Tryz.prog 14 #[x, y] W fun e w' => e = .returned (.bool true) ∧ Below W.heap.size W w') := fun W x y h1 h2 => by
    have := eqResultS_any R R x y W h1 h2 (by omega)
    rwa [decide_eq_true (rfl : R = R)] at this
  have HEN : Hid (∀ W x y, RowT W x N → RowT W y N → Calls Tryz.prog 15 #[x, y] W fun e w' => e = .returned (.bool true) ∧ Below W.heap.size W w') := fun W x y h1 h2 => by
    have := eqTraceS_any N N x y W h1 h2 (by omega)
    rwa [decide_eq_true (rfl : N = N)] at this
  have hne : (ok != ok) = false := by cases ok <;> rfl
  have hnn : ((n : Int) != (n : Int)) = false := by simp
  have hz4 : planZ ls l bs rs ≤ 1048576 := by have := HR0.out; omega
  have HMG := Lib.hid (fun B u (W0 W : World) (h : PlanO B W0 u ls l bs rs) (hb : Below W0.heap.size W0 W) (hB : B ≤ W0.heap.size) => markPlan_any ls l bs rs B u W0 W h hb hB hz4)
  have hkk0 : (1 + markZ ls l bs rs) + 3 * (T.length + totT T) + ts.length ≤ 3700000 := by have := HR2.out; unfold markZ totalG; unfold planZ at this; omega
  generalize hkz : 1 + markZ ls l bs rs = k0 at HMG hkk0
  have hkz1 : 1 ≤ k0 := by omega
  have hmt : markN T ≤ 3 * (T.length + totT T) := by unfold markN; omega
  have HMT := Lib.hid (fun B C v sl (W : World) (h : OwnT B W v sl T) h1 h2 h3 => markTraceS_C T k0 B C v sl W h h1 h2 h3 hml (by omega) hkz1)
  obtain ⟨k1, hk1⟩ : ∃ k1 : Nat, k1 = k0 + markN T := ⟨_, rfl⟩
  have HMX := Lib.hid (fun B v (W : World) h => markStringS_any ts k1 B v W h (by omega) (by omega) (by omega))
  have hkd : decide ((k1 : Int) + (ts.length : Int) < 0) = false := decide_eq_false (by omega)
  have hmr : markN N ≤ 3000 := by unfold markN; omega
  have HMI : Hid (∀ B u W, World.ownsRow W B 75 2 u R.length (RC R) → Calls Tryz.prog 21 #[u, .int .i64 1] W fun e w' => e = .returned (.int .i64 ((1 : Int) + (R.length : Int) * 2)) ∧ w'.ownsRow B 75 2 u R.length (RC (marksR 1 R.length)) ∧ W.grownBy w' u.ownBlock) := fun B u W h => markResultS_any R 1 B u W h (by omega) (by omega) (by omega)
  have HHI : Hid (∀ u W, RowR W u (marksR 1 R.length) → Calls Tryz.prog 22 #[u, .int .i64 1] W fun e w' => e = .returned (.int .i64 ((1 : Int) + (R.length : Int) * 2)) ∧ Below W.heap.size W w') := fun u W h => heldResultS_any 1 R.length u W h (by omega) (by omega) (by omega)
  obtain ⟨kr, hkr⟩ : ∃ kr : Nat, kr = 1 + R.length * 2 := ⟨_, rfl⟩
  have HKR : Hid ((1 : Int) + (R.length : Int) * 2 = (kr : Int)) := by show _ = _; omega
  rw [HKR.out] at HMI HHI
  have HMN := Lib.hid (fun B C v sl (W : World) (h : OwnT B W v sl N) h1 h2 h3 => markTraceS_C N kr B C v sl W h h1 h2 h3 (by omega) (by omega) (by omega))
  have HHN := Lib.hid (fun v W (h : RowT W v (marksTr kr N)) => heldTraceS_any N kr v W h (by omega) (by omega) (by omega))
  obtain ⟨km, hkm⟩ : ∃ km : Nat, km = kr + markN N := ⟨_, rfl⟩
  unfold MarkedTr at HMT HMN
  rw [← hkm] at HMN HHN
  rw [← hk1] at HMT
  have hk2 : decide ((km : Int) < 0) = false := decide_eq_false (by omega)
  have hk3 : decide ((kr : Int) < 0) = false := decide_eq_false (by omega)
  have hqq : ((km : Int) != (km : Int)) = false := by simp
  clear hkz hz4 hk1 hkm hmt hmr hkk0 hkr HKR
  -- the reference's answer
  go_wp2_with fail
  refine (HTO.out x1 (HPV.out x1 KX1.out)).mono ?_
  rintro e w2 ⟨v2, rfl, ho2', hb2⟩
  have K2 := Lib.hid (bth KX1.out hb2 (Nat.le_refl _))
  have HG2 := Lib.hid ho2'.view
  clear hb2 ho2' c0 c1 c2 c3
  go_wp2_with fail
  refine (HTI.out w2 (HMV.out w2 K2.out)).mono ?_
  rintro e p1 ⟨y1, sy1, rfl, hoy1, hbp1⟩
  have KP1 := Lib.hid (bth K2.out hbp1 (Nat.le_refl _))
  have HGP1 := Lib.hid (HG2.out.below hbp1)
  have HY1 := Lib.hid hoy1.view
  clear hoy1 hbp1
  go_wp2_with fail
  refine (HTX.out p1 (HXV.out p1 KP1.out)).mono ?_
  rintro e p2 ⟨y2, rfl, hoy2, hbp2⟩
  have KP2 := Lib.hid (bth KP1.out hbp2 (Nat.le_refl _))
  have HGP2 := Lib.hid (HGP1.out.below hbp2)
  have HY1_2 := Lib.hid (HY1.out.below hbp2)
  have HY2 := Lib.hid (RowV.of_own hoy2)
  clear hoy2 hbp2
  go_wp2_with fail
  refine (HSP.out p2 v2 y1 y2 HGP2.out HY1_2.out HY2.out).mono ?_
  rintro e w3 ⟨v3, t3, s3l, rfl, hw3, hv3, hb3⟩
  have K3 := Lib.hid (bth KP2.out hb3 (Nat.le_refl _))
  have HW : Hid (RowR w3 v3 R) := RowR.of_own hw3
  have HWT : Hid (RowT w3 t3 N) := hv3.view
  have sa3 := K3.out.size
  obtain ⟨g3, e3, rfl⟩ := own_sliceG hw3
  obtain ⟨i3, j3, rfl, _, _⟩ := hv3.2.1.slice
  clear hb3 hw3 hv3
  obtain ⟨c0, c1, c2, c3⟩ := (P0.out.below K3.out hlt0).cells
  -- copies of the arguments
  go_wp2_with fail
  refine (HTO.out w3 (HPV.out w3 K3.out)).mono ?_
  rintro e w4 ⟨v4, rfl, ho4, hb4⟩
  have s34 := hb4.size
  have HO4 := Lib.hid ho4
  obtain ⟨bn, dn, bo, do', bb, db, br, dr, rfl⟩ := ho4.slices
  obtain ⟨wb, hwb⟩ : ∃ wb, wb = w4.alloc (.cells #[.slice bn ls.length dn, .slice bo l.length do', .slice bb bs.length db, .slice br rs.length dr] 42) := ⟨_, rfl⟩
  have X4 : Hid (Blk4 wb w4.heap.size 42 (.slice bn ls.length dn) (.slice bo l.length do') (.slice bb bs.length db) (.slice br rs.length dr)) := by rw [hwb]; exact Blk4.new
  have hAB : Below w4.heap.size w4 wb := by rw [hwb]; exact (Below.refl w4.heap.size w4).alloc (Nat.le_refl _) _
  have hsb : wb.heap.size = w4.heap.size + 1 := by rw [hwb]; simp
  have A4 := Lib.hid (bth hb4 hAB (Nat.le_refl _))
  have E4 := Lib.hid hAB
  have KW4 := Lib.hid (bth (bth K3.out hb4 (Nat.le_refl _)) hAB (Nat.le_refl _))
  have HWB := Lib.hid hwb
  clear hb4 ho4 c0 c1 c2 c3 hwb hAB
  go_wp2_with fail
  rw [← HWB.out]
  refine (HTI.out wb (HMV.out wb KW4.out)).mono ?_
  rintro e q1 ⟨x1v, sx, rfl, hox1, hbq1⟩
  have sq1 := hbq1.size
  have EQ1 := Lib.hid (bth E4.out hbq1 (Nat.le_refl _))
  have AQ1 := Lib.hid (bth A4.out hbq1 (Nat.le_refl _))
  have KQ1 := Lib.hid (bth KW4.out hbq1 (Nat.le_refl _))
  have HXL : Hid (∀ b, x1v.ownBlock = some b → wb.heap.size ≤ b ∧ b < q1.heap.size) := fun b h => hox1.2.1.lt b h
  have HXI : Hid (∀ p ∈ sx.zip (T.map (·.2.1)), ∀ b, p.1.ownBlock = some b → wb.heap.size ≤ b ∧ b < q1.heap.size) := fun p hp b h => (hox1.2.2.1 p hp).lt b h
  have HX1 := Lib.hid hox1
  have DQ1 := Lib.hid hbq1
  clear hox1 hbq1
  go_wp2_with fail
  refine (HTX.out q1 (HXV.out q1 KQ1.out)).mono ?_
  rintro e q2 ⟨x2v, rfl, hox2, hbq2⟩
  have sq2 := hbq2.size
  have EQ := Lib.hid (bth EQ1.out hbq2 (Nat.le_refl _))
  have DQ := Lib.hid (bth DQ1.out hbq2 (Nat.le_refl _))
  have AQ := Lib.hid (bth AQ1.out hbq2 (Nat.le_refl _))
  have KQ := Lib.hid (bth KQ1.out hbq2 (Nat.le_refl _))
  have HXQ := Lib.hid (HX1.out.below hbq2)
  have HYL : Hid (∀ b, x2v.ownBlock = some b → q1.heap.size ≤ b ∧ b < q2.heap.size) := fun b h => hox2.lt b h
  have HYQ := Lib.hid hox2
  obtain ⟨x00, x01, x02, x03⟩ := (X4.out.below DQ.out (by omega)).cells
  clear hbq2 hox2 HX1
  -- the program's answer
  go_wp2_with fail
  refine (HIM.out q2 _ x1v x2v (HO4.out.view.below EQ.out) HXQ.out.view (RowV.of_own HYQ.out)).mono ?_
  rintro e w6 ⟨v6, t6, sg, rfl, hg6, ht6, hb6⟩
  have s6 := hb6.size
  have E6 := Lib.hid (bth EQ.out hb6 (Nat.le_refl _))
  have D6 := Lib.hid (bth DQ.out hb6 (Nat.le_refl _))
  have A6 := Lib.hid (bth AQ.out hb6 (Nat.le_refl _))
  have K6 := Lib.hid (bth KQ.out hb6 (Nat.le_refl _))
  have HX6 := Lib.hid (HXQ.out.below hb6)
  have HY6 := Lib.hid (own_below HYQ.out hb6)
  have HG6 := Lib.hid hg6
  have HT6 := Lib.hid ht6
  obtain ⟨g1, e1, rfl⟩ := own_sliceG hg6
  obtain ⟨i1, j1, rfl, _, _⟩ := ht6.2.1.slice
  clear hb6 x00 x01 x02 x03 hg6 ht6 HXQ HYQ EQ1 DQ1 AQ1 KQ1 EQ DQ AQ KQ
  go_wp2_with fail
  refine (HEQ.out w6 _ _ (RowR.of_own HG6.out) (HW.out.below A6.out)).mono ?_
  rintro e w7 ⟨rfl, hb7⟩
  have K7 := Lib.hid (bth K6.out hb7 (Nat.le_refl _))
  have E7 := Lib.hid (bth E6.out hb7 (Nat.le_refl _))
  have D7 := Lib.hid (bth D6.out hb7 (Nat.le_refl _))
  have A7 := Lib.hid (bth A6.out hb7 (Nat.le_refl _))
  have HG7 := Lib.hid (own_belowG HG6.out hb7)
  have HT7 := Lib.hid (HT6.out.below hb7)
  have HX7 := Lib.hid (HX6.out.below hb7)
  have HY7 := Lib.hid (own_below HY6.out hb7)
  have s7 := hb7.size
  clear hb7
  go_wp2_with fail
  refine (HEN.out w7 _ _ HT7.out.view (HWT.out.below A7.out)).mono ?_
  rintro e w8 ⟨rfl, hb8⟩
  have K8 := Lib.hid (bth K7.out hb8 (Nat.le_refl _))
  have E8 := Lib.hid (bth E7.out hb8 (Nat.le_refl _))
  have D8 := Lib.hid (bth D7.out hb8 (Nat.le_refl _))
  have A8 := Lib.hid (bth A7.out hb8 (Nat.le_refl _))
  have HG8 := Lib.hid (own_belowG HG7.out hb8)
  have HT8 := Lib.hid (HT7.out.below hb8)
  have HX8 := Lib.hid (HX7.out.below hb8)
  have HY8 := Lib.hid (own_below HY7.out hb8)
  have s8 := hb8.size
  clear hb8
  have hlt7 : w.heap.size < w8.heap.size := by omega
  have hlt8 : w4.heap.size < w8.heap.size := by omega
  have PD : Hid (Blk4 w8.drew w.heap.size 29 (.slice an ls.length cn) (.slice ao l.length co) (.slice as0 bs.length cs) (.slice ar rs.length cr)) := P0.out.below (Below.drew K8.out) hlt0
  have XD : Hid (Blk4 w8.drew w4.heap.size 42 (.slice bn ls.length dn) (.slice bo l.length do') (.slice bb bs.length db) (.slice br rs.length dr)) := X4.out.below (Below.drew D8.out) (by omega)
  have ks := And.intro PD.out.cells XD.out.cells
  have HX7d : Hid (PlanV w8.drew (.agg #[.slice bn ls.length dn, .slice bo l.length do', .slice bb bs.length db, .slice br rs.length dr]) ls l bs rs) := HO4.out.view.below (Below.drew E8.out)
  have HST7 : Hid (PlanV w8.drew (.agg #[.slice an ls.length cn, .slice ao l.length co, .slice as0 bs.length cs, .slice ar rs.length cr]) ls l bs rs) := HPV.out w8.drew (Below.drew K8.out)
  go_wp2_with fail
  -- the copies are as they were
  go_region_held3 (fun w' => (w'.cell? ⟨w.heap.size, 0, none⟩ = some (.slice an ls.length cn) ∧ w'.cell? ⟨w.heap.size, 1, none⟩ = some (.slice ao l.length co) ∧ w'.cell? ⟨w.heap.size, 2, none⟩ = some (.slice as0 bs.length cs) ∧ w'.cell? ⟨w.heap.size, 3, none⟩ = some (.slice ar rs.length cr)) ∧ (w'.cell? ⟨w4.heap.size, 0, none⟩ = some (.slice bn ls.length dn) ∧ w'.cell? ⟨w4.heap.size, 1, none⟩ = some (.slice bo l.length do') ∧ w'.cell? ⟨w4.heap.size, 2, none⟩ = some (.slice bb bs.length db) ∧ w'.cell? ⟨w4.heap.size, 3, none⟩ = some (.slice br rs.length dr))) (first | exact ks)
    (first
      | (go_at_call 10; refine (HTO.out _ (by exact HST7.out)).mono ?_; rintro e w7b ⟨v7, rfl, ho7, hb7⟩
         have ks := And.intro (PD.out.below hb7 hlt7).cells (XD.out.below hb7 hlt8).cells
         have HO7 := Lib.hid ho7.view
         have HXB := Lib.hid (PlanV.below (by exact HX7d.out) hb7)
         have C7 := Lib.hid hb7
         clear ho7 hb7)
      | (go_at_call 16; refine (HE.out _ _ _ (by exact HXB.out) (by exact HO7.out)).mono ?_; rintro e w9 ⟨rfl, hb8⟩
         have C8 := Lib.hid (bth C7.out hb8 (Nat.le_refl _))
         have ks := And.intro (PD.out.below C8.out hlt7).cells (XD.out.below C8.out hlt8).cells
         clear hb8))
  all_goals
    have hb9 : Below w8.heap.size w8 w9 := bth (Below.drew (Below.refl _ _)) C8.out (Nat.le_refl _)
    have K9 := Lib.hid (bth K8.out hb9 (Nat.le_refl _))
    have E9 := Lib.hid (bth E8.out hb9 (Nat.le_refl _))
    have D9 := Lib.hid (bth D8.out hb9 (Nat.le_refl _))
    have A9 := Lib.hid (bth A8.out hb9 (Nat.le_refl _))
    have HG9 := Lib.hid (own_belowG HG8.out hb9)
    have HT9 := Lib.hid (HT8.out.below hb9)
    have HX9 := Lib.hid (HX8.out.below hb9)
    have HY9 := Lib.hid (own_below HY8.out hb9)
    have s9 := hb9.size
    clear hb9
    clear ks PD XD HX7d HST7 HO7 HXB C7 C8
    go_wp2_with fail
    refine (HTI.out w9 (HMV.out w9 K9.out)).mono ?_
    rintro e r1w ⟨z1, sz1, rfl, hoz1, hbr1⟩
    have HZ1 := Lib.hid hoz1.view
    have hb10 := hbr1
    clear hoz1 hbr1
    have K10 := Lib.hid (bth K9.out hb10 (Nat.le_refl _))
    have E10 := Lib.hid (bth E9.out hb10 (Nat.le_refl _))
    have D10 := Lib.hid (bth D9.out hb10 (Nat.le_refl _))
    have A10 := Lib.hid (bth A9.out hb10 (Nat.le_refl _))
    have HG10 := Lib.hid (own_belowG HG9.out hb10)
    have HT10 := Lib.hid (HT9.out.below hb10)
    have HX10 := Lib.hid (HX9.out.below hb10)
    have HY10 := Lib.hid (own_below HY9.out hb10)
    have s10 := hb10.size
    clear hb10
    go_wp2_with fail
    refine (HEI.out r1w _ _ HX10.out.view HZ1.out).mono ?_
    rintro e w11 ⟨rfl, hb11⟩
    have K11 := Lib.hid (bth K10.out hb11 (Nat.le_refl _))
    have E11 := Lib.hid (bth E10.out hb11 (Nat.le_refl _))
    have D11 := Lib.hid (bth D10.out hb11 (Nat.le_refl _))
    have A11 := Lib.hid (bth A10.out hb11 (Nat.le_refl _))
    have HG11 := Lib.hid (own_belowG HG10.out hb11)
    have HT11 := Lib.hid (HT10.out.below hb11)
    have HX11 := Lib.hid (HX10.out.below hb11)
    have HY11 := Lib.hid (own_below HY10.out hb11)
    have s11 := hb11.size
    clear hb11
    go_wp2_with fail
    refine (HTX.out w11 (HXV.out w11 K11.out)).mono ?_
    rintro e r2w ⟨z2, rfl, hoz2, hb12⟩
    have HZ2 := Lib.hid (RowV.of_own hoz2)
    clear hoz2
    have K12 := Lib.hid (bth K11.out hb12 (Nat.le_refl _))
    have E12 := Lib.hid (bth E11.out hb12 (Nat.le_refl _))
    have D12 := Lib.hid (bth D11.out hb12 (Nat.le_refl _))
    have A12 := Lib.hid (bth A11.out hb12 (Nat.le_refl _))
    have HG12 := Lib.hid (own_belowG HG11.out hb12)
    have HT12 := Lib.hid (HT11.out.below hb12)
    have HX12 := Lib.hid (HX11.out.below hb12)
    have HY12 := Lib.hid (own_below HY11.out hb12)
    have s12 := hb12.size
    clear hb12
    go_wp2_with fail
    refine (HEX.out r2w _ _ (RowV.of_own HY12.out) HZ2.out).mono ?_
    rintro e w13 ⟨rfl, hb13⟩
    have K13 := Lib.hid (bth K12.out hb13 (Nat.le_refl _))
    have E13 := Lib.hid (bth E12.out hb13 (Nat.le_refl _))
    have D13 := Lib.hid (bth D12.out hb13 (Nat.le_refl _))
    have A13 := Lib.hid (bth A12.out hb13 (Nat.le_refl _))
    have HG13 := Lib.hid (own_belowG HG12.out hb13)
    have HT13 := Lib.hid (HT12.out.below hb13)
    have HX13 := Lib.hid (HX12.out.below hb13)
    have HY13 := Lib.hid (own_below HY12.out hb13)
    have s13 := hb13.size
    clear hb13
    clear HZ1 HZ2
    obtain ⟨x00, x01, x02, x03⟩ := (X4.out.below D13.out (by omega)).cells
    -- marks in the copies
    go_wp2_with fail
    refine (HMG.out w3.heap.size _ w4 w13 HO4.out E13.out s34).mono ?_
    rintro e w14 ⟨rfl, hg14⟩
    have s14 := hg14.below.size
    have A14 := Lib.hid (A13.out.trans hg14.below)
    have K14 := Lib.hid (K13.out.trans (hg14.below.mono sa3))
    have HG14 := Lib.hid (hg14.own HG13.out (by omega))
    have HT14 := Lib.hid (hg14.ownT HT13.out (by omega))
    have HX14 := Lib.hid (hg14.ownT HX13.out (by omega))
    have HY14 := Lib.hid (hg14.own HY13.out (by omega))
    clear hg14 x00 x01 x02 x03
    go_wp2_with fail
    refine (HMT.out wb.heap.size q1.heap.size _ _ w14 HX14.out HXL.out HXI.out (by omega)).mono ?_
    rintro e w15 ⟨rfl, _, hg15, _⟩
    have s15 := hg15.below.size
    have A15 := Lib.hid (A14.out.trans (hg15.below.mono (by omega)))
    have K15 := Lib.hid (K14.out.trans (hg15.below.mono (by omega)))
    have HG15 := Lib.hid (hg15.own HG14.out (by omega))
    have HT15 := Lib.hid (hg15.ownT HT14.out (by omega))
    have HY15 := Lib.hid (hg15.own HY14.out (by omega))
    clear hg15
    go_wp2_with fail
    refine (HMX.out q1.heap.size _ w15 HY15.out).mono ?_
    rintro e w16 ⟨rfl, _, hgy⟩
    have hg16 := OnlyB.of_grown (B := q1.heap.size) (C := q2.heap.size) hgy (fun i hi => HYL.out i hi) (by omega)
    have s16 := hg16.below.size
    have A16 := Lib.hid (A15.out.trans (hg16.below.mono (by omega)))
    have K16 := Lib.hid (K15.out.trans (hg16.below.mono (by omega)))
    have HG16 := Lib.hid (hg16.own HG15.out (by omega))
    have HT16 := Lib.hid (hg16.ownT HT15.out (by omega))
    clear hg16 hgy
    go_wp2_with fail
    refine (HEQ.out w16 _ _ (RowR.of_own HG16.out) (HW.out.below A16.out)).mono ?_
    rintro e w17 ⟨rfl, hb17⟩
    have s17 := hb17.size
    have A17 := Lib.hid (bth A16.out hb17 (Nat.le_refl _))
    have K17 := Lib.hid (bth K16.out hb17 (Nat.le_refl _))
    have HG17 := Lib.hid (own_belowG HG16.out hb17)
    have HT17 := Lib.hid (HT16.out.below hb17)
    clear hb17
    go_wp2_with fail
    refine (HEN.out w17 _ _ HT17.out.view (HWT.out.below A17.out)).mono ?_
    rintro e w18 ⟨rfl, hb18⟩
    have s18 := hb18.size
    have A18 := Lib.hid (bth A17.out hb18 (Nat.le_refl _))
    have K18 := Lib.hid (bth K17.out hb18 (Nat.le_refl _))
    have HG18 := Lib.hid (own_belowG HG17.out hb18)
    have HT18 := Lib.hid (HT17.out.below hb18)
    clear hb18
    -- marks in the answers
    go_wp2_with fail
    refine (HMI.out q2.heap.size _ w18 HG18.out).mono ?_
    rintro e w19 ⟨rfl, ho19, hg19⟩
    have hbb := below_ownG HG18.out hg19 (by omega)
    have s19 := hg19.size
    have A19 := Lib.hid (A18.out.trans (hbb.mono (by omega)))
    have K19 := Lib.hid (K18.out.trans (hbb.mono (by omega)))
    have HM19 := Lib.hid ho19
    have HT19 := Lib.hid (HT18.out.beside HG18.out hg19)
    clear ho19 hg19 hbb
    go_wp2_with fail
    refine (HMN.out q2.heap.size w19.heap.size _ _ w19 HT19.out (fun b h => HT19.out.2.1.lt b h) (fun p hp b h => (HT19.out.2.2.1 p hp).lt b h) (by omega)).mono ?_
    rintro e w20 ⟨rfl, ho20, hg20, hk20⟩
    have A20 := Lib.hid (A19.out.trans (hg20.below.mono (by omega)))
    have K20 := Lib.hid (K19.out.trans (hg20.below.mono (by omega)))
    have HM20 := Lib.hid (hk20.own HM19.out (by decide) (by decide))
    have HN20 := Lib.hid ho20.view
    clear ho20 hg20 hk20
    go_wp2_with fail
    refine (HHI.out _ w20 (by exact heldRow_R HM20.out)).mono ?_
    rintro e w21 ⟨rfl, hb21⟩
    have A21 := Lib.hid (bth A20.out hb21 (Nat.le_refl _))
    have K21 := Lib.hid (bth K20.out hb21 (Nat.le_refl _))
    have HM21 := Lib.hid (own_belowG HM20.out hb21)
    have HN21 := Lib.hid (HN20.out.below hb21)
    clear hb21
    go_wp2_with fail
    refine (HHN.out _ w21 HN21.out).mono ?_
    rintro e w22 ⟨rfl, hb22⟩
    have A22 := Lib.hid (bth A21.out hb22 (Nat.le_refl _))
    have K22 := Lib.hid (bth K21.out hb22 (Nat.le_refl _))
    have HM22 := Lib.hid (own_belowG HM21.out hb22)
    have HN22 := Lib.hid (HN21.out.below hb22)
    clear hb22
    obtain ⟨c0, c1, c2, c3⟩ := (P0.out.below K22.out hlt0).cells
    -- asked again
    go_wp2_with fail
    refine (HTO.out w22 (HPV.out w22 K22.out)).mono ?_
    rintro e w23 ⟨v23, rfl, ho23, hb23⟩
    have HGZ0 := Lib.hid ho23.view
    have hbz0 := hb23
    have A23 := Lib.hid (bth A22.out hb23 (Nat.le_refl _))
    have K23 := Lib.hid (bth K22.out hb23 (Nat.le_refl _))
    have HM23 := Lib.hid (own_belowG HM22.out hb23)
    have HN23 := Lib.hid (HN22.out.below hb23)
    clear hb23
    clear ho23 hbz0 c0 c1 c2 c3
    go_wp2_with fail
    refine (HTI.out w23 (HMV.out w23 K23.out)).mono ?_
    rintro e w24 ⟨y24, s24, rfl, ho24, hb24⟩
    have HGZ1 := Lib.hid (HGZ0.out.below hb24)
    have HYZ1 := Lib.hid ho24.view
    have A24 := Lib.hid (bth A23.out hb24 (Nat.le_refl _))
    have K24 := Lib.hid (bth K23.out hb24 (Nat.le_refl _))
    have HM24 := Lib.hid (own_belowG HM23.out hb24)
    have HN24 := Lib.hid (HN23.out.below hb24)
    clear hb24
    clear ho24
    go_wp2_with fail
    refine (HTX.out w24 (HXV.out w24 K24.out)).mono ?_
    rintro e w25 ⟨y25, rfl, ho25, hb25⟩
    have HGZ2 := Lib.hid (HGZ1.out.below hb25)
    have HYZ2 := Lib.hid (HYZ1.out.below hb25)
    have HYY := Lib.hid (RowV.of_own ho25)
    have A25 := Lib.hid (bth A24.out hb25 (Nat.le_refl _))
    have K25 := Lib.hid (bth K24.out hb25 (Nat.le_refl _))
    have HM25 := Lib.hid (own_belowG HM24.out hb25)
    have HN25 := Lib.hid (HN24.out.below hb25)
    clear hb25
    clear ho25
    go_wp2_with fail
    refine (HIM.out w25 _ _ _ HGZ2.out HYZ2.out HYY.out).mono ?_
    rintro e w26 ⟨v26, t26, s26, rfl, ho26, ht26, hb26⟩
    have HV26 : Hid (RowR w26 v26 R) := RowR.of_own ho26
    have HT26 : Hid (RowT w26 t26 N) := ht26.view
    obtain ⟨g26, e26, rfl⟩ := own_sliceG ho26
    obtain ⟨i26, j26, rfl, _, _⟩ := ht26.2.1.slice
    have A26 := Lib.hid (bth A25.out hb26 (Nat.le_refl _))
    have K26 := Lib.hid (bth K25.out hb26 (Nat.le_refl _))
    have HM26 := Lib.hid (own_belowG HM25.out hb26)
    have HN26 := Lib.hid (HN25.out.below hb26)
    clear hb26
    clear ho26 ht26
    go_wp2_with fail
    refine (HEQ.out w26 _ _ HV26.out (HW.out.below A26.out)).mono ?_
    rintro e w27 ⟨rfl, hb27⟩
    have HT27 := Lib.hid (HT26.out.below hb27)
    have A27 := Lib.hid (bth A26.out hb27 (Nat.le_refl _))
    have K27 := Lib.hid (bth K26.out hb27 (Nat.le_refl _))
    have HM27 := Lib.hid (own_belowG HM26.out hb27)
    have HN27 := Lib.hid (HN26.out.below hb27)
    clear hb27
    go_wp2_with fail
    refine (HEN.out w27 _ _ HT27.out (HWT.out.below A27.out)).mono ?_
    rintro e w28 ⟨rfl, hb28⟩
    have A28 := Lib.hid (bth A27.out hb28 (Nat.le_refl _))
    have K28 := Lib.hid (bth K27.out hb28 (Nat.le_refl _))
    have HM28 := Lib.hid (own_belowG HM27.out hb28)
    have HN28 := Lib.hid (HN27.out.below hb28)
    clear hb28
    go_wp2_with fail
    refine (HHI.out _ w28 (by exact heldRow_R HM28.out)).mono ?_
    rintro e w29 ⟨rfl, hb29⟩
    have A29 := Lib.hid (bth A28.out hb29 (Nat.le_refl _))
    have K29 := Lib.hid (bth K28.out hb29 (Nat.le_refl _))
    have HM29 := Lib.hid (own_belowG HM28.out hb29)
    have HN29 := Lib.hid (HN28.out.below hb29)
    clear hb29
    go_wp2_with fail
    refine (HHN.out _ w29 HN29.out).mono ?_
    rintro e w30 ⟨rfl, hb30⟩
    have K30 := Lib.hid (bth K29.out hb30 (Nat.le_refl _))
    clear hb30
    go_wp2_with fail
    go_ret
    exact ⟨rfl, bth HA.out K30.out (Nat.le_refl _)⟩

end Go.Proofs.YtgolhfmmlanmlaaGreatDoor
