/- Texts of one claim, joined in their order. -/
import Derived.Test.YtngldlconipnnaaGreatM9
import Derived.Test.YtngldlconipnnaaGreatM10
import Derived.Test.YtngldlconipnnaaGreatM7

/- Walks: whether two lists of traces are the same. -/
namespace Go.Proofs.YtngldlconipnnaaGreat
open Go.RowKit Pth

set_option maxRecDepth 20000 in
set_option maxHeartbeats 4000000 in
theorem eqTraceS_any (l m : List TrT) (v u : Value) (w : World) (hr1 : RowT w v l) (hr2 : RowT w u m) (hl : l.length + totT l ≤ 2000000) :
    Calls Tryz.prog 12 #[v, u] w (BoolPost (decide (l = m)) w) := by
  obtain ⟨a, cap, rfl, hc1, hc2, hat⟩ := hr1.traces
  obtain ⟨a2, cap2, rfl, hc3, hc4, hat2⟩ := hr2.traces
  clear hr1 hr2
  unfold maxLen at hc2 hc4
  have HAT := Lib.hid hat
  have HAT2 := Lib.hid hat2
  clear hat hat2
  by_cases hlen : l.length = m.length
  · have hlen1 : ((l.length : Int) != (m.length : Int)) = false := by simp [hlen]
    have hle1 : l.length ≤ m.length := by omega
    have hle2 : m.length ≤ l.length := by omega
    clear hlen
    go_enter Tryz.func12, Tryz.ntmps12
    go_wp2_with fail
    go_loopw [5] (fun i wr => ∃ k : Nat, k ≤ l.length ∧ i = .int .i64 k ∧ Hid (l.take k = m.take k) ∧ Hid (Below w.heap.size w wr)) (fun i _ => l.length - (intOf i).toNat)
    case atStart => exact ⟨0, Nat.zero_le _, rfl, rfl, Below.refl _ _⟩
    case round =>
      obtain ⟨k, hk, rfl, HO, HB⟩ := hrel
      by_cases hlt : k < l.length
      · obtain ⟨g, o, b2, d2, rfl, hg, ⟨k0, k1, k2, k3⟩, hrk⟩ := HAT.out k hlt
        obtain ⟨g2, o2, b3, d3, rfl, hg2, ⟨m0, m1, m2, m3⟩, hrk2⟩ := HAT2.out k (by omega)
        have s0 := (HB.out.cell (p := ⟨g, o + k * 4, none⟩) hg).trans k0
        have s1 := (HB.out.cell (p := ⟨g, o + k * 4 + 1, none⟩) hg).trans k1
        have s2 := (HB.out.cell (p := ⟨g, o + k * 4 + 2, none⟩) hg).trans k2
        have s3 := (HB.out.cell (p := ⟨g, o + k * 4 + 3, none⟩) hg).trans k3
        have t0 := (HB.out.cell (p := ⟨g2, o2 + k * 4, none⟩) hg2).trans m0
        have t1 := (HB.out.cell (p := ⟨g2, o2 + k * 4 + 1, none⟩) hg2).trans m1
        have t2 := (HB.out.cell (p := ⟨g2, o2 + k * 4 + 2, none⟩) hg2).trans m2
        have t3 := (HB.out.cell (p := ⟨g2, o2 + k * 4 + 3, none⟩) hg2).trans m3
        have hi1 : (k : Int) < (l.length : Int) := by omega
        have hi2 : (k : Int) < (m.length : Int) := by omega
        have hbs := HB.out.size
        have hgw : g < wr.heap.size := by omega
        have hgw2 : g2 < wr.heap.size := by omega
        obtain ⟨b, hbE⟩ : ∃ b, decide (l[k] = m[k]) = b := ⟨_, rfl⟩
        have HC := Lib.hid (fun W (h : Below w.heap.size w W) => eqTrace_b ⟨b2, d2, rfl, hrk.below h⟩ ⟨b3, d3, rfl, hrk2.below h⟩ (by have := totT_at hlt; omega) hbE)
        have HS : Hid (if b then l.take (k + 1) = m.take (k + 1) else decide (l = m) = false) := by
          unfold Hid
          subst hbE
          by_cases he : l[k] = m[k]
          · simp only [he, decide_true, if_true]; exact same_next HO.out hlt (by omega) he
          · simp only [he, decide_false]; exact decide_eq_false (same_not hlt (by omega) he)
        clear HO hbE k0 k1 k2 k3 m0 m1 m2 m3 hrk hrk2
        generalize l[k] = x at *
        generalize m[k] = y at *
        obtain ⟨x1, xi, x2, x3⟩ := x
        obtain ⟨y1, yi, y2, y3⟩ := y
        unfold trV at HC
        simp only at s0 s1 s2 s3 t0 t1 t2 t3 HC
        generalize xi.length = n1 at *
        generalize yi.length = n2 at *
        have ks := And.intro (And.intro s0 (And.intro s1 (And.intro s2 s3))) (And.intro t0 (And.intro t1 (And.intro t2 t3)))
        go_wp2_with fail
        go_region_held3 (fun w' => (w'.cell? ⟨g, o + k * 4, none⟩ = some (.int .i64 x1) ∧ w'.cell? ⟨g, o + k * 4 + 1, none⟩ = some (.slice b2 n1 d2) ∧ w'.cell? ⟨g, o + k * 4 + 2, none⟩ = some (.string ⟨x2.toArray⟩) ∧ w'.cell? ⟨g, o + k * 4 + 3, none⟩ = some (.int .i64 x3)) ∧
            (w'.cell? ⟨g2, o2 + k * 4, none⟩ = some (.int .i64 y1) ∧ w'.cell? ⟨g2, o2 + k * 4 + 1, none⟩ = some (.slice b3 n2 d3) ∧ w'.cell? ⟨g2, o2 + k * 4 + 2, none⟩ = some (.string ⟨y2.toArray⟩) ∧ w'.cell? ⟨g2, o2 + k * 4 + 3, none⟩ = some (.int .i64 y3))) (first | exact ks | exact k0)
          (first | (go_at_call 14; refine (HC.out _ (Below.drew HB.out)).mono ?_; rintro e w5 ⟨rfl, hb5⟩
                    have k0 := And.intro (And.intro ((hb5.cell (p := ⟨g, o + k * 4, none⟩) hgw).trans s0) (And.intro ((hb5.cell (p := ⟨g, o + k * 4 + 1, none⟩) hgw).trans s1) (And.intro ((hb5.cell (p := ⟨g, o + k * 4 + 2, none⟩) hgw).trans s2) ((hb5.cell (p := ⟨g, o + k * 4 + 3, none⟩) hgw).trans s3))))
                      (And.intro ((hb5.cell (p := ⟨g2, o2 + k * 4, none⟩) hgw2).trans t0) (And.intro ((hb5.cell (p := ⟨g2, o2 + k * 4 + 1, none⟩) hgw2).trans t1) (And.intro ((hb5.cell (p := ⟨g2, o2 + k * 4 + 2, none⟩) hgw2).trans t2) ((hb5.cell (p := ⟨g2, o2 + k * 4 + 3, none⟩) hgw2).trans t3))))))
        have HB5 := Lib.hid (bth (Below.drew HB.out) hb5 (Nat.le_refl _))
        clear hb5 k0 ks
        rcases b with _ | _
        · go_wp2_with fail
          go_ret
          exact ⟨ret_bool (by have := HS.out; simpa using this.symm), HB5.out⟩
        · go_wp2_with fail
          go_roundw
          case rel => exact ⟨k + 1, by omega, by go_num, HS.out, HB5⟩
          case measure => simp [intOf]; omega
      · have HS : Hid (decide (l = m) = true) := decide_eq_true (same_all HO.out (by omega) (by omega))
        clear HO HAT HAT2
        go_wp2_with fail
        go_ret
        exact ⟨ret_bool HS.out.symm, HB.out⟩
  · have hlen1 : ((l.length : Int) != (m.length : Int)) = true := by simp; omega
    have HS : Hid (decide (l = m) = false) := decide_eq_false (fun h => hlen (by rw [h]))
    clear HAT HAT2
    go_enter Tryz.func12, Tryz.ntmps12
    go_wp2_with fail
    go_ret
    exact ⟨ret_bool HS.out.symm, Below.refl _ _⟩
end Go.Proofs.YtngldlconipnnaaGreat

/- Walks: the law that a noted trace is told alike, given contracts of both programs. -/
namespace Go.Proofs.YtngldlconipnnaaGreat
open Go.RowKit Pth

set_option maxRecDepth 20000 in
set_option maxHeartbeats 16000000 in
theorem exactNoteTrace_of (ls : List (List Int)) (l : List Int) (bs : List Bool) (rs : List (List OpT)) (T R : List TrT) (t : TrT) (ok : Bool) (v u y : Value) (w : World) (hst : PlanV w v ls l bs rs) (hx : ∀ l ∈ rs, ∀ f ∈ l, f.2.2.length ≤ maxLen)
    (hT : RowT w u T) (hxT : ∀ t ∈ T, HeldT maxLen t) (ht : TrV w y t) (hxt : HeldT maxLen t) (hL : R.length + totT R ≤ 1000000)
    (hsp : (∀ W u x a c, PlanV W u ls l bs rs → RowT W x T → W.ownsRow 0 9 1 (.slice a t.2.1.length c) t.2.1.length (S t.2.1) → Calls Tryz.prog 7 #[u, x, trV (.slice a t.2.1.length c) t] W (NoteP R ok W))) (him : (∀ W u x a c, PlanV W u ls l bs rs → RowT W x T → W.ownsRow 0 9 1 (.slice a t.2.1.length c) t.2.1.length (S t.2.1) → Calls Tryz.prog 11 #[u, x, trV (.slice a t.2.1.length c) t] W (NoteP R ok W))) :
    Calls Tryz.prog 3 #[v, u, y] w (YesW w) := by
  have HST := Lib.hid hst
  have HTT := Lib.hid hT
  have HSP := Lib.hid hsp
  have HIM := Lib.hid him
  clear hsp him
  obtain ⟨nv, ov, sv, rv, rfl, h1, h2, h3, h4⟩ := hst
  obtain ⟨as0, cs, rfl, hs1, hs2, _⟩ := h3.boolsW
  obtain ⟨an, cn, rfl, hn1, hn2, _⟩ := h1.lists
  obtain ⟨ao, co, rfl, ho1, ho2, _⟩ := h2.ints
  obtain ⟨ar, cr, rfl, hr1, hr2, _⟩ := h4.lists
  clear h1 h2 h3 h4
  obtain ⟨au, cu, rfl, hu1, hu2, _⟩ := hT.traces
  obtain ⟨t1, ins, o1, o2⟩ := t
  obtain ⟨a, c, rfl, hrt⟩ := ht
  have HRT := Lib.hid hrt
  unfold trV at *
  simp only at HRT HSP HIM hrt ⊢
  obtain ⟨_, _, he, hc1, hc2, _⟩ := hrt.texts
  injection he with ea _ ec
  subst ea ec
  unfold maxLen at hs2 hn2 ho2 hr2 hu2 hc2
  obtain ⟨wp, hwp⟩ : ∃ wp, wp = w.alloc (.cells #[.slice an ls.length cn, .slice ao l.length co, .slice as0 bs.length cs, .slice ar rs.length cr] 29) := ⟨_, rfl⟩
  obtain ⟨wa, hwa⟩ : ∃ wa, wa = wp.alloc (.cells #[.int .i64 t1, .slice a ins.length c, .string ⟨o1.toArray⟩, .int .i64 o2] 35) := ⟨_, rfl⟩
  have hsp1 : wp.heap.size = w.heap.size + 1 := by rw [hwp]; simp
  have hsz : wa.heap.size = w.heap.size + 2 := by rw [hwa]; simp [hsp1]
  have P0 : Hid (Blk4 wa w.heap.size 29 (.slice an ls.length cn) (.slice ao l.length co) (.slice as0 bs.length cs) (.slice ar rs.length cr)) := by rw [hwa, hwp]; exact Blk4.new.old _
  have Q0 : Hid (Blk4 wa (w.heap.size + 1) 35 (.int .i64 t1) (.slice a ins.length c) (.string ⟨o1.toArray⟩) (.int .i64 o2)) := by rw [hwa, ← hsp1]; exact Blk4.new
  have HA : Hid (Below w.heap.size w wa) := by rw [hwa, hwp]; exact ((Below.refl w.heap.size w).alloc (Nat.le_refl _) _).alloc (by simp) _
  have HWA : Hid ((w.alloc (.cells #[.slice an ls.length cn, .slice ao l.length co, .slice as0 bs.length cs, .slice ar rs.length cr] 29)).alloc (.cells #[.int .i64 t1, .slice a ins.length c, .string ⟨o1.toArray⟩, .int .i64 o2] 35) = wa) := by rw [hwa, hwp]; rfl
  have hlt0 : w.heap.size < wa.heap.size := by omega
  have hlt1 : w.heap.size + 1 < wa.heap.size := by omega
  have HKB : Hid (∀ W, Below wa.heap.size wa W → (W.cell? ⟨w.heap.size, 0, none⟩ = some (.slice an ls.length cn) ∧ W.cell? ⟨w.heap.size, 1, none⟩ = some (.slice ao l.length co) ∧ W.cell? ⟨w.heap.size, 2, none⟩ = some (.slice as0 bs.length cs) ∧ W.cell? ⟨w.heap.size, 3, none⟩ = some (.slice ar rs.length cr)) ∧ (W.cell? ⟨w.heap.size + 1, 0, none⟩ = some (.int .i64 t1) ∧ W.cell? ⟨w.heap.size + 1, 1, none⟩ = some (.slice a ins.length c) ∧ W.cell? ⟨w.heap.size + 1, 2, none⟩ = some (.string ⟨o1.toArray⟩) ∧ W.cell? ⟨w.heap.size + 1, 3, none⟩ = some (.int .i64 o2))) := fun W h => ⟨(P0.out.below h hlt0).cells, (Q0.out.below h hlt1).cells⟩
  have HPV : Hid (∀ W, Below wa.heap.size wa W → PlanV W (.agg #[.slice an ls.length cn, .slice ao l.length co, .slice as0 bs.length cs, .slice ar rs.length cr]) ls l bs rs) := fun W h => HST.out.below (bth HA.out h (Nat.le_refl _))
  have HMV : Hid (∀ W, Below wa.heap.size wa W → RowT W (.slice au T.length cu) T) := fun W h => HTT.out.below (bth HA.out h (Nat.le_refl _))
  have HXV : Hid (∀ W, Below wa.heap.size wa W → TrV W (.agg #[.int .i64 t1, .slice a ins.length c, .string ⟨o1.toArray⟩, .int .i64 o2]) (t1, ins, o1, o2)) := fun W h => ⟨a, c, rfl, HRT.out.below (bth HA.out h (Nat.le_refl _))⟩
  have HS := Lib.hid (szPlan_any ls l bs rs 1048576 _ wa (HST.out.below HA.out) hx (by omega))
  have HSX := Lib.hid (fun (left : Nat) W (h : Below wa.heap.size wa W) hl => szTraceS_any T left _ W (HMV.out W h) hxT hl)
  have HSY := Lib.hid (fun (left : Nat) W (h : Below wa.heap.size wa W) hl => szTrace_any (t1, ins, o1, o2) left _ W (HXV.out W h) hxt hl)
  simp only at HSY
  obtain ⟨⟨c0, c1, c2, c3⟩, ⟨d0, d1, d2, d3⟩⟩ := HKB.out wa (Below.refl _ _)
  clear hwa hwp hx hT hxT hxt hrt hsp1
  go_enter Tryz.func3, Tryz.ntmps3
  go_wp2_with fail
  rw [HWA.out]
  refine HS.out.mono ?_
  rintro e w1 ⟨r0, rfl, hle0, hr0, hb1⟩
  have K0 := Lib.hid hb1
  clear hb1 HS c0 c1 c2 c3 d0 d1 d2 d3
  by_cases h0 : r0 < 0
  · clear hr0 hle0
    go_wp2_with fail
    go_ret
    exact ⟨rfl, bth HA.out K0.out (Nat.le_refl _)⟩
  have hz : planZ ls l bs rs ≤ 1100000 := by have := hr0 (by omega); omega
  have hz2 : planZ ls l bs rs ≤ 2000000 := by omega
  obtain ⟨n0, rfl⟩ : ∃ n0 : Nat, r0 = n0 := ⟨r0.toNat, by omega⟩
  have hn0 : n0 ≤ 2000000 := by omega
  have HR0 : Hid (n0 + planZ ls l bs rs ≤ 1048576) := by have := hr0 (by omega); show _ ≤ _; omega
  clear hr0
  go_wp2_with fail
  refine (HSX.out n0 w1 K0.out hn0).mono ?_
  rintro e x1 ⟨r1, rfl, hle1, hr1', hb1⟩
  have KX1 := Lib.hid (bth K0.out hb1 (Nat.le_refl _))
  clear hb1
  by_cases hc1' : r1 < 0
  · clear hr1'
    go_wp2_with fail
    go_ret
    exact ⟨rfl, bth HA.out KX1.out (Nat.le_refl _)⟩
  have hml : T.length + totT T ≤ 1100000 := by have := (hr1' (by omega)).1; omega
  obtain ⟨n1, rfl⟩ : ∃ n1 : Nat, r1 = n1 := ⟨r1.toNat, by omega⟩
  have hn1' : n1 ≤ 2000000 := by omega
  have HR1 : Hid (n1 + (planZ ls l bs rs + (T.length + totT T)) ≤ 1048576) := by have := (hr1' (by omega)).1; have := HR0.out; show _ ≤ _; omega
  clear hr1'
  obtain ⟨_, ⟨d0, d1, d2, d3⟩⟩ := HKB.out x1 KX1.out
  go_wp2_with fail
  refine (HSY.out n1 x1 KX1.out hn1').mono ?_
  rintro e x2 ⟨r2, rfl, hle2, hr2', hb1⟩
  have KX2 := Lib.hid (bth KX1.out hb1 (Nat.le_refl _))
  clear hb1 d0 d1 d2 d3
  by_cases hc2' : r2 < 0
  · clear hr2'
    go_wp2_with fail
    go_ret
    exact ⟨rfl, bth HA.out KX2.out (Nat.le_refl _)⟩
  have HR2 : Hid (planZ ls l bs rs + (T.length + totT T) + ins.length ≤ 1048576) := by have := (hr2' (by omega)).1; have := HR1.out; show _ ≤ _; omega
  have hil : ins.length ≤ 1100000 := by have := HR2.out; omega
  clear hr2' HSX HSY
  have HTO := Lib.hid (fun W (hb : PlanV W _ ls l bs rs) => toPlan_any ls l bs rs (.agg #[.slice an ls.length cn, .slice ao l.length co, .slice as0 bs.length cs, .slice ar rs.length cr]) W hb hz2)
  have HTI := Lib.hid (fun W (hb : RowT W _ T) => toTraceS_any T (.slice au T.length cu) W hb (by omega))
  have HTX := Lib.hid (fun W (hb : TrV W _ (t1, ins, o1, o2)) => toTrace_any (t1, ins, o1, o2) (.agg #[.int .i64 t1, .slice a ins.length c, .string ⟨o1.toArray⟩, .int .i64 o2]) W hb (by show ins.length ≤ _; omega))
  unfold TrPost trV at HTX
  simp only at HTX
  have HE : Hid (∀ W x y, PlanV W x ls l bs rs → PlanV W y ls l bs rs → Calls Tryz.prog 13 #[x, y] W fun e w' => e = .returned (.bool true) ∧ Below W.heap.size W w') := fun W x y h1 h2 => eqPlan_same ls l bs rs x y W h1 h2 hz2
  have HEI : Hid (∀ W x y, RowT W x T → RowT W y T → Calls Tryz.prog 12 #[x, y] W fun e w' => e = .returned (.bool true) ∧ Below W.heap.size W w') := fun W x y h1 h2 => by
    have := eqTraceS_any T T x y W h1 h2 (by omega)
    rwa [decide_eq_true (rfl : T = T)] at this
  have HEQ : Hid (∀ W x y, RowT W x R → RowT W y R → Calls Tryz.prog 12 #[x, y] W fun e w' => e = .returned (.bool true) ∧ Below W.heap.size W w') := fun W x y h1 h2 => by
    have := eqTraceS_any R R x y W h1 h2 (by omega)
    rwa [decide_eq_true (rfl : R = R)] at this
  have HEX : Hid (∀ W x y, TrV W x (t1, ins, o1, o2) → TrV W y (t1, ins, o1, o2) → Calls Tryz.prog 14 #[x, y] W fun e w' => e = .returned (.bool true) ∧ Below W.heap.size W w') := fun W x y h1 h2 => eqTrace_b h1 h2 (by show ins.length ≤ _; omega) (decide_eq_true rfl)
  have hne : (ok != ok) = false := by cases ok <;> rfl
  have hz4 : planZ ls l bs rs ≤ 1048576 := by have := HR0.out; omega
  have HMG := Lib.hid (fun B u (W0 W : World) (h : PlanO B W0 u ls l bs rs) (hb : Below W0.heap.size W0 W) (hB : B ≤ W0.heap.size) => markPlan_any ls l bs rs B u W0 W h hb hB hz4)
  have hkk0 : (1 + markZ ls l bs rs) + 3 * (T.length + totT T) + ins.length ≤ 3700000 := by have := HR2.out; unfold markZ totalG; unfold planZ at this; omega
  generalize hkz : 1 + markZ ls l bs rs = k0 at HMG hkk0
  have hkz1 : 1 ≤ k0 := by omega
  have hmt : markN T ≤ 3 * (T.length + totT T) := by unfold markN; omega
  have HMT := Lib.hid (fun B C v sl (W : World) (h : OwnT B W v sl T) h1 h2 h3 => markTraceS_C T k0 B C v sl W h h1 h2 h3 hml (by omega) hkz1)
  obtain ⟨k1, hk1⟩ : ∃ k1 : Nat, k1 = k0 + markN T := ⟨_, rfl⟩
  have HMX := Lib.hid (fun B C a c (W : World) h h1 h2 => markTrace_C (t1, ins, o1, o2) k1 B C a c W h h1 h2 hil (by omega) (by omega))
  unfold trV at HMX
  simp only at HMX
  have hkd : decide ((k1 : Int) + (ins.length : Int) < 0) = false := decide_eq_false (by omega)
  have hmr : markN R ≤ 3000000 := by unfold markN; omega
  have HMI := Lib.hid (fun B C v sl (W : World) (h : OwnT B W v sl R) h1 h2 h3 => markTraceS_C R 1 B C v sl W h h1 h2 h3 (by omega) (by omega) (Nat.le_refl _))
  have HHI := Lib.hid (fun v W (h : RowT W v (marksTr 1 R)) => heldTraceS_any R 1 v W h (by omega) (by omega) (Nat.le_refl _))
  obtain ⟨km, hkm⟩ : ∃ km : Nat, km = 1 + markN R := ⟨_, rfl⟩
  unfold MarkedTr at HMT HMI
  rw [← hkm] at HMI HHI
  rw [← hk1] at HMT
  have hk2 : decide ((km : Int) < 0) = false := decide_eq_false (by omega)
  have hqq : ((km : Int) != (km : Int)) = false := by simp
  clear hkz hz4 hk1 hkm hmt hmr hkk0
  -- the reference's answer
  have KD : Hid (Below wa.heap.size wa x2.drew) := KX2.out.drew
  have hb := KD.out
  have ks := HKB.out x2.drew hb
  clear hb
  go_wp2_with fail
  go_region_held3 (fun w' => (w'.cell? ⟨w.heap.size, 0, none⟩ = some (.slice an ls.length cn) ∧ w'.cell? ⟨w.heap.size, 1, none⟩ = some (.slice ao l.length co) ∧ w'.cell? ⟨w.heap.size, 2, none⟩ = some (.slice as0 bs.length cs) ∧ w'.cell? ⟨w.heap.size, 3, none⟩ = some (.slice ar rs.length cr)) ∧ (w'.cell? ⟨w.heap.size + 1, 0, none⟩ = some (.int .i64 t1) ∧ w'.cell? ⟨w.heap.size + 1, 1, none⟩ = some (.slice a ins.length c) ∧ w'.cell? ⟨w.heap.size + 1, 2, none⟩ = some (.string ⟨o1.toArray⟩) ∧ w'.cell? ⟨w.heap.size + 1, 3, none⟩ = some (.int .i64 o2))) (exact ks)
    (first
      | (go_at_call 8; refine (HTO.out _ (HPV.out _ KD.out)).mono ?_; rintro e w2 ⟨v2, rfl, ho2', hb2⟩
         have KD := Lib.hid (bth KD.out hb2 (Nat.le_refl _))
         have HG2 := Lib.hid ho2'.view
         have ks := HKB.out w2 KD.out
         clear hb2 ho2')
      | (go_at_call 9; refine (HTI.out _ (HMV.out _ KD.out)).mono ?_; rintro e p1 ⟨y1, sy1, rfl, hoy1, hbp1⟩
         have KD := Lib.hid (bth KD.out hbp1 (Nat.le_refl _))
         have HG2 := Lib.hid (HG2.out.below hbp1)
         have HY1 := Lib.hid hoy1.view
         have ks := HKB.out p1 KD.out
         clear hoy1 hbp1)
      | (go_at_call 10; refine (HTX.out _ (HXV.out _ KD.out)).mono ?_; rintro e p2 ⟨by2, dy2, rfl, hoy2, hbp2⟩
         have KD := Lib.hid (bth KD.out hbp2 (Nat.le_refl _))
         have HG2 := Lib.hid (HG2.out.below hbp2)
         have HY1 := Lib.hid (HY1.out.below hbp2)
         have HY2 := Lib.hid (own_base hoy2 (Nat.zero_le _))
         have ks := HKB.out p2 KD.out
         clear hoy2 hbp2)
      | (go_at_call 7; refine (HSP.out _ _ _ _ _ HG2.out HY1.out HY2.out).mono ?_; rintro e w3 ⟨v3, s3l, rfl, hw3, hb3⟩
         have KD := Lib.hid (bth KD.out hb3 (Nat.le_refl _))
         have HW := Lib.hid hw3.view
         have ks := HKB.out w3 KD.out
         clear hw3 hb3))
  all_goals
    have K3 : Hid (Below wa.heap.size wa w3) := KD
    have sa3 := K3.out.size
    obtain ⟨⟨c0, c1, c2, c3⟩, ⟨d0, d1, d2, d3⟩⟩ := ks
    clear KD HG2 HY1 HY2 HSP
    -- copies of the arguments
    go_wp2_with fail
    refine (HTO.out w3 (HPV.out w3 K3.out)).mono ?_
    rintro e w4 ⟨v4, rfl, ho4, hb4⟩
    have s34 := hb4.size
    have HO4 := Lib.hid ho4
    obtain ⟨bn, dn, bo, do', bb, db, br, dr, rfl⟩ := ho4.slices
    obtain ⟨wb, hwb⟩ : ∃ wb, wb = w4.alloc (.cells #[.slice bn ls.length dn, .slice bo l.length do', .slice bb bs.length db, .slice br rs.length dr] 45) := ⟨_, rfl⟩
    have X4 : Hid (Blk4 wb w4.heap.size 45 (.slice bn ls.length dn) (.slice bo l.length do') (.slice bb bs.length db) (.slice br rs.length dr)) := by rw [hwb]; exact Blk4.new
    have hAB : Below w4.heap.size w4 wb := by rw [hwb]; exact (Below.refl w4.heap.size w4).alloc (Nat.le_refl _) _
    have hsb : wb.heap.size = w4.heap.size + 1 := by rw [hwb]; simp
    have A4 := Lib.hid (bth hb4 hAB (Nat.le_refl _))
    have E4 := Lib.hid hAB
    have KW4 := Lib.hid (bth (bth K3.out hb4 (Nat.le_refl _)) hAB (Nat.le_refl _))
    have HWB := Lib.hid hwb
    clear hb4 ho4 c0 c1 c2 c3 d0 d1 d2 d3 hwb hAB
    go_wp2_with fail
    rw [← HWB.out]
    refine (HTI.out wb (HMV.out wb KW4.out)).mono ?_
    rintro e q1 ⟨x1v, sx, rfl, hox1, hbq1⟩
    have sq1 := hbq1.size
    have EQ1 := Lib.hid (bth E4.out hbq1 (Nat.le_refl _))
    have DQ1 := Lib.hid hbq1
    have AQ1 := Lib.hid (bth A4.out hbq1 (Nat.le_refl _))
    have KQ1 := Lib.hid (bth KW4.out hbq1 (Nat.le_refl _))
    have HXL : Hid (∀ b, x1v.ownBlock = some b → wb.heap.size ≤ b ∧ b < q1.heap.size) := fun b h => hox1.2.1.lt b h
    have HXI : Hid (∀ p ∈ sx.zip (T.map (·.2.1)), ∀ b, p.1.ownBlock = some b → wb.heap.size ≤ b ∧ b < q1.heap.size) := fun p hp b h => (hox1.2.2.1 p hp).lt b h
    have HX1 := Lib.hid hox1
    obtain ⟨_, ⟨d0, d1, d2, d3⟩⟩ := HKB.out q1 KQ1.out
    clear hox1 hbq1
    go_wp2_with fail
    refine (HTX.out q1 (HXV.out q1 KQ1.out)).mono ?_
    rintro e q2 ⟨bx, dx, rfl, hox2, hbq2⟩
    have sq2 := hbq2.size
    obtain ⟨wq, hwq⟩ : ∃ wq, wq = q2.alloc (.cells #[.int .i64 t1, .slice bx ins.length dx, .string ⟨o1.toArray⟩, .int .i64 o2] 50) := ⟨_, rfl⟩
    have Y4 : Hid (Blk4 wq q2.heap.size 50 (.int .i64 t1) (.slice bx ins.length dx) (.string ⟨o1.toArray⟩) (.int .i64 o2)) := by rw [hwq]; exact Blk4.new
    have hAQ : Below q2.heap.size q2 wq := by rw [hwq]; exact (Below.refl q2.heap.size q2).alloc (Nat.le_refl _) _
    have hsq : wq.heap.size = q2.heap.size + 1 := by rw [hwq]; simp
    have EQ := Lib.hid (bth (bth EQ1.out hbq2 (Nat.le_refl _)) hAQ (Nat.le_refl _))
    have DQ := Lib.hid (bth (bth DQ1.out hbq2 (Nat.le_refl _)) hAQ (Nat.le_refl _))
    have AQ := Lib.hid (bth (bth AQ1.out hbq2 (Nat.le_refl _)) hAQ (Nat.le_refl _))
    have KQ := Lib.hid (bth (bth KQ1.out hbq2 (Nat.le_refl _)) hAQ (Nat.le_refl _))
    have HX1q := Lib.hid (HX1.out.below (bth hbq2 hAQ (Nat.le_refl _)))
    have HYL : Hid (∀ b, (Value.slice bx ins.length dx).ownBlock = some b → q1.heap.size ≤ b ∧ b < q2.heap.size) := fun b h => hox2.lt b h
    have HX2q := Lib.hid (own_below hox2 hAQ)
    have HWQ := Lib.hid hwq
    obtain ⟨y0, y1', y2', y3'⟩ := Y4.out.cells
    obtain ⟨x00, x01, x02, x03⟩ := (X4.out.below DQ.out (by omega)).cells
    clear hbq2 hox2 hwq hAQ d0 d1 d2 d3 HX1
    go_upto_region 15 with fail
    rw [← HWQ.out]
    -- the program's answer
    go_wp2_with fail
    refine (HIM.out wq _ x1v _ _ (HO4.out.view.below EQ.out) HX1q.out.view (own_base HX2q.out (Nat.zero_le _))).mono ?_
    rintro e w6 ⟨v6, sg, rfl, hg6, hb6⟩
    have s6 := hb6.size
    have E6 := Lib.hid (bth EQ.out hb6 (Nat.le_refl _))
    have D6 := Lib.hid (bth DQ.out hb6 (Nat.le_refl _))
    have A6 := Lib.hid (bth AQ.out hb6 (Nat.le_refl _))
    have K6 := Lib.hid (bth KQ.out hb6 (Nat.le_refl _))
    have Y6 := Lib.hid (Y4.out.below hb6 (by omega))
    have HX1_6 := Lib.hid (HX1q.out.below hb6)
    have HX2_6 := Lib.hid (own_below HX2q.out hb6)
    have HG6 := Lib.hid hg6
    obtain ⟨g1, e1, rfl, _, _⟩ := hg6.2.1.slice
    clear hb6 x00 x01 x02 x03 hg6 y0 y1' y2' y3' HX1q HX2q EQ1 DQ1 AQ1 KQ1
    go_wp2_with fail
    refine (HEQ.out w6 _ _ HG6.out.view (HW.out.below A6.out)).mono ?_
    rintro e w7 ⟨rfl, hb7⟩
    have s7 := hb7.size
    have E7 := Lib.hid (bth E6.out hb7 (Nat.le_refl _))
    have D7 := Lib.hid (bth D6.out hb7 (Nat.le_refl _))
    have A7 := Lib.hid (bth A6.out hb7 (Nat.le_refl _))
    have K7 := Lib.hid (bth K6.out hb7 (Nat.le_refl _))
    have Y7 := Lib.hid (Y6.out.below hb7 (by omega))
    have HG7 := Lib.hid (HG6.out.below hb7)
    have HX1_7 := Lib.hid (HX1_6.out.below hb7)
    have HX2_7 := Lib.hid (own_below HX2_6.out hb7)
    clear hb7 HG6 E6 D6 A6 K6 Y6 HX1_6 HX2_6 EQ DQ AQ KQ
    have hlt7 : w.heap.size < w7.heap.size := by omega
    have hlt8 : w4.heap.size < w7.heap.size := by omega
    have PD : Hid (Blk4 w7.drew w.heap.size 29 (.slice an ls.length cn) (.slice ao l.length co) (.slice as0 bs.length cs) (.slice ar rs.length cr)) := P0.out.below (Below.drew K7.out) hlt0
    have XD : Hid (Blk4 w7.drew w4.heap.size 45 (.slice bn ls.length dn) (.slice bo l.length do') (.slice bb bs.length db) (.slice br rs.length dr)) := X4.out.below (Below.drew D7.out) (by omega)
    have ks := And.intro PD.out.cells XD.out.cells
    have HX7 : Hid (PlanV w7.drew (.agg #[.slice bn ls.length dn, .slice bo l.length do', .slice bb bs.length db, .slice br rs.length dr]) ls l bs rs) := HO4.out.view.below (Below.drew E7.out)
    have HST7 : Hid (PlanV w7.drew (.agg #[.slice an ls.length cn, .slice ao l.length co, .slice as0 bs.length cs, .slice ar rs.length cr]) ls l bs rs) := HPV.out w7.drew (Below.drew K7.out)
    go_wp2_with fail
    -- the copies are as they were
    go_region_held3 (fun w' => (w'.cell? ⟨w.heap.size, 0, none⟩ = some (.slice an ls.length cn) ∧ w'.cell? ⟨w.heap.size, 1, none⟩ = some (.slice ao l.length co) ∧ w'.cell? ⟨w.heap.size, 2, none⟩ = some (.slice as0 bs.length cs) ∧ w'.cell? ⟨w.heap.size, 3, none⟩ = some (.slice ar rs.length cr)) ∧ (w'.cell? ⟨w4.heap.size, 0, none⟩ = some (.slice bn ls.length dn) ∧ w'.cell? ⟨w4.heap.size, 1, none⟩ = some (.slice bo l.length do') ∧ w'.cell? ⟨w4.heap.size, 2, none⟩ = some (.slice bb bs.length db) ∧ w'.cell? ⟨w4.heap.size, 3, none⟩ = some (.slice br rs.length dr))) (first | exact ks)
      (first
        | (go_at_call 8; refine (HTO.out _ (by exact HST7.out)).mono ?_; rintro e w7b ⟨v7, rfl, ho7, hb7⟩
           have ks := And.intro (PD.out.below hb7 hlt7).cells (XD.out.below hb7 hlt8).cells
           have HO7 := Lib.hid ho7.view
           have HXB := Lib.hid (PlanV.below (by exact HX7.out) hb7)
           have C7 := Lib.hid hb7
           clear ho7 hb7)
        | (go_at_call 13; refine (HE.out _ _ _ (by exact HXB.out) (by exact HO7.out)).mono ?_; rintro e w8 ⟨rfl, hb8⟩
           have C8 := Lib.hid (bth C7.out hb8 (Nat.le_refl _))
           have ks := And.intro (PD.out.below C8.out hlt7).cells (XD.out.below C8.out hlt8).cells
           clear hb8))
    all_goals
      have s8 : w7.heap.size ≤ w8.heap.size := C8.out.size
      have E8 := Lib.hid (bth (Below.drew E7.out) C8.out (Nat.le_refl _))
      have D8 := Lib.hid (bth (Below.drew D7.out) C8.out (Nat.le_refl _))
      have A8 := Lib.hid (bth (Below.drew A7.out) C8.out (Nat.le_refl _))
      have K8 := Lib.hid (bth (Below.drew K7.out) C8.out (Nat.le_refl _))
      have Y8 : Hid (Blk4 w8 q2.heap.size 50 (.int .i64 t1) (.slice bx ins.length dx) (.string ⟨o1.toArray⟩) (.int .i64 o2)) := Blk4.below (w := w7.drew) Y7.out C8.out (by show q2.heap.size < w7.heap.size; omega)
      have HG8 : Hid (OwnT wq.heap.size w8 (.slice g1 R.length e1) sg R) := OwnT.below (w := w7.drew) HG7.out C8.out
      have HX1_8 : Hid (OwnT wb.heap.size w8 x1v sx T) := OwnT.below (w := w7.drew) HX1_7.out C8.out
      have HX2_8 : Hid (w8.ownsRow q1.heap.size 9 1 (.slice bx ins.length dx) ins.length (S ins)) := own_below (w := w7.drew) HX2_7.out C8.out
      clear ks PD XD HX7 HST7 HO7 HXB C7 C8 HG7 Y7 HX1_7 HX2_7 E7 D7 A7 K7
      go_wp2_with fail
      refine (HTI.out w8 (HMV.out w8 K8.out)).mono ?_
      rintro e r1w ⟨z1, sz1, rfl, hoz1, hbr1⟩
      have HZ1 := Lib.hid hoz1.view
      have HB8 := Lib.hid hbr1
      clear hoz1 hbr1
      go_wp2_with fail
      refine (HEI.out r1w _ _ (HX1_8.out.view.below HB8.out) HZ1.out).mono ?_
      rintro e s1w ⟨rfl, hbs1⟩
      have HBS := Lib.hid (bth HB8.out hbs1 (Nat.le_refl _))
      have ss1 := HBS.out.size
      have E9 := Lib.hid (bth E8.out HBS.out (Nat.le_refl _))
      have D9 := Lib.hid (bth D8.out HBS.out (Nat.le_refl _))
      have A9 := Lib.hid (bth A8.out HBS.out (Nat.le_refl _))
      have K9 := Lib.hid (bth K8.out HBS.out (Nat.le_refl _))
      have Y9 := Lib.hid (Y8.out.below HBS.out (by omega))
      have HG9 := Lib.hid (HG8.out.below HBS.out)
      have HX1_9 := Lib.hid (HX1_8.out.below HBS.out)
      have HX2_9 := Lib.hid (own_below HX2_8.out HBS.out)
      clear hbs1 HZ1 HB8 HBS E8 D8 A8 K8 Y8 HG8 HX1_8 HX2_8
      have QD : Hid (Blk4 s1w.drew (w.heap.size + 1) 35 (.int .i64 t1) (.slice a ins.length c) (.string ⟨o1.toArray⟩) (.int .i64 o2)) := Q0.out.below (Below.drew K9.out) hlt1
      have YD : Hid (Blk4 s1w.drew q2.heap.size 50 (.int .i64 t1) (.slice bx ins.length dx) (.string ⟨o1.toArray⟩) (.int .i64 o2)) := Y9.out
      have hlt9 : w.heap.size + 1 < s1w.heap.size := by omega
      have hlt10 : q2.heap.size < s1w.heap.size := by omega
      have ks := And.intro QD.out.cells YD.out.cells
      have HXD : Hid (TrV s1w.drew (.agg #[.int .i64 t1, .slice a ins.length c, .string ⟨o1.toArray⟩, .int .i64 o2]) (t1, ins, o1, o2)) := HXV.out s1w.drew (Below.drew K9.out)
      have HX2D : Hid (s1w.drew.ownsRow q1.heap.size 9 1 (.slice bx ins.length dx) ins.length (S ins)) := own_below HX2_9.out (Below.drew (Below.refl _ _))
      go_wp2_with fail
      go_region_held3 (fun w' => (w'.cell? ⟨w.heap.size + 1, 0, none⟩ = some (.int .i64 t1) ∧ w'.cell? ⟨w.heap.size + 1, 1, none⟩ = some (.slice a ins.length c) ∧ w'.cell? ⟨w.heap.size + 1, 2, none⟩ = some (.string ⟨o1.toArray⟩) ∧ w'.cell? ⟨w.heap.size + 1, 3, none⟩ = some (.int .i64 o2)) ∧ (w'.cell? ⟨q2.heap.size, 0, none⟩ = some (.int .i64 t1) ∧ w'.cell? ⟨q2.heap.size, 1, none⟩ = some (.slice bx ins.length dx) ∧ w'.cell? ⟨q2.heap.size, 2, none⟩ = some (.string ⟨o1.toArray⟩) ∧ w'.cell? ⟨q2.heap.size, 3, none⟩ = some (.int .i64 o2))) (first | exact ks)
        (first
          | (go_at_call 10; refine (HTX.out _ (by exact HXD.out)).mono ?_; rintro e w9b ⟨b9, d9, rfl, ho9, hb9⟩
             have ks := And.intro (QD.out.below hb9 hlt9).cells (YD.out.below hb9 hlt10).cells
             have HO9 : Hid (TrV w9b (.agg #[.int .i64 t1, .slice b9 ins.length d9, .string ⟨o1.toArray⟩, .int .i64 o2]) (t1, ins, o1, o2)) := ⟨b9, d9, rfl, RowV.of_own ho9⟩
             have HX2B : Hid (TrV w9b (.agg #[.int .i64 t1, .slice bx ins.length dx, .string ⟨o1.toArray⟩, .int .i64 o2]) (t1, ins, o1, o2)) := ⟨bx, dx, rfl, RowV.of_own (own_below HX2D.out hb9)⟩
             have C9 := Lib.hid hb9
             clear ho9 hb9)
          | (go_at_call 14; refine (HEX.out _ _ _ (by exact HX2B.out) (by exact HO9.out)).mono ?_; rintro e w10 ⟨rfl, hb10⟩
             have C10 := Lib.hid (bth C9.out hb10 (Nat.le_refl _))
             have ks := And.intro (QD.out.below C10.out hlt9).cells (YD.out.below C10.out hlt10).cells
             clear hb10))
      all_goals
        have s10 : s1w.heap.size ≤ w10.heap.size := C10.out.size
        have E10 := Lib.hid (bth (Below.drew E9.out) C10.out (Nat.le_refl _))
        have D10 := Lib.hid (bth (Below.drew D9.out) C10.out (Nat.le_refl _))
        have A10 := Lib.hid (bth (Below.drew A9.out) C10.out (Nat.le_refl _))
        have K10 := Lib.hid (bth (Below.drew K9.out) C10.out (Nat.le_refl _))
        have Y10 : Hid (Blk4 w10 q2.heap.size 50 (.int .i64 t1) (.slice bx ins.length dx) (.string ⟨o1.toArray⟩) (.int .i64 o2)) := YD.out.below C10.out hlt10
        have HG10 : Hid (OwnT wq.heap.size w10 (.slice g1 R.length e1) sg R) := OwnT.below (w := s1w.drew) HG9.out C10.out
        have HX1_10 : Hid (OwnT wb.heap.size w10 x1v sx T) := OwnT.below (w := s1w.drew) HX1_9.out C10.out
        have HX2_10 : Hid (w10.ownsRow q1.heap.size 9 1 (.slice bx ins.length dx) ins.length (S ins)) := own_below HX2D.out C10.out
        clear ks QD YD HXD HX2D HO9 HX2B C9 C10 HG9 Y9 HX1_9 HX2_9 E9 D9 A9 K9
        obtain ⟨x00, x01, x02, x03⟩ := (X4.out.below D10.out (by omega)).cells
        -- marks in the copies
        go_wp2_with fail
        refine (HMG.out w3.heap.size _ w4 w10 HO4.out E10.out s34).mono ?_
        rintro e w11 ⟨rfl, hg11⟩
        have s11 := hg11.below.size
        have A11 := Lib.hid (A10.out.trans hg11.below)
        have K11 := Lib.hid (K10.out.trans (hg11.below.mono sa3))
        have Y11 := Lib.hid (hg11.blk4 Y10.out (by omega))
        have HG11 := Lib.hid (hg11.ownT HG10.out (by omega))
        have HX1_11 := Lib.hid (hg11.ownT HX1_10.out (by omega))
        have HX2_11 := Lib.hid (hg11.own HX2_10.out (by omega))
        clear hg11 x00 x01 x02 x03 A10 K10 Y10 HG10 HX1_10 HX2_10
        go_wp2_with fail
        refine (HMT.out wb.heap.size q1.heap.size _ _ w11 HX1_11.out HXL.out HXI.out (by omega)).mono ?_
        rintro e w12 ⟨rfl, _, hg12⟩
        have s12 := hg12.below.size
        have A12 := Lib.hid (A11.out.trans (hg12.below.mono (by omega)))
        have K12 := Lib.hid (K11.out.trans (hg12.below.mono (by omega)))
        have Y12 := Lib.hid (hg12.blk4 Y11.out (by omega))
        have HG12 := Lib.hid (hg12.ownT HG11.out (by omega))
        have HX2_12 := Lib.hid (hg12.own HX2_11.out (by omega))
        obtain ⟨y0, y1', y2', y3'⟩ := Y12.out.cells
        clear hg12 A11 K11 Y11 HG11 HX1_11 HX2_11
        go_wp2_with fail
        refine (HMX.out q1.heap.size q2.heap.size _ _ w12 HX2_12.out HYL.out (by omega)).mono ?_
        rintro e w13 ⟨rfl, hg13⟩
        have s13 := hg13.below.size
        have A13 := Lib.hid (A12.out.trans (hg13.below.mono (by omega)))
        have K13 := Lib.hid (K12.out.trans (hg13.below.mono (by omega)))
        have HG13 := Lib.hid (hg13.ownT HG12.out (by omega))
        clear hg13 A12 K12 Y12 HG12 HX2_12 y0 y1' y2' y3'
        go_wp2_with fail
        refine (HEQ.out w13 _ _ HG13.out.view (HW.out.below A13.out)).mono ?_
        rintro e w14 ⟨rfl, hb14⟩
        have s14 := hb14.size
        have A14 := Lib.hid (bth A13.out hb14 (Nat.le_refl _))
        have K14 := Lib.hid (bth K13.out hb14 (Nat.le_refl _))
        have HG14 := Lib.hid (HG13.out.below hb14)
        clear hb14 A13 K13 HG13
        -- marks in the answer
        go_wp2_with fail
        refine (HMI.out wq.heap.size w14.heap.size _ _ w14 HG14.out (fun b h => HG14.out.2.1.lt b h) (fun p hp b h => (HG14.out.2.2.1 p hp).lt b h) (by omega)).mono ?_
        rintro e w15 ⟨rfl, ho15, hg15⟩
        have s15 := hg15.below.size
        have A15 := Lib.hid (A14.out.trans (hg15.below.mono (by omega)))
        have K15 := Lib.hid (K14.out.trans (hg15.below.mono (by omega)))
        have HM15 := Lib.hid ho15.view
        clear ho15 hg15 HG14 A14 K14
        go_wp2_with fail
        refine (HHI.out _ w15 HM15.out).mono ?_
        rintro e w16 ⟨rfl, hb16⟩
        have A16 := Lib.hid (bth A15.out hb16 (Nat.le_refl _))
        have K16 := Lib.hid (bth K15.out hb16 (Nat.le_refl _))
        have HM16 := Lib.hid (HM15.out.below hb16)
        clear hb16 HM15 A15 K15
        -- asked again
        have KD : Hid (Below wa.heap.size wa w16.drew) := K16.out.drew
        have AD : Hid (Below w3.heap.size w3 w16.drew) := A16.out.drew
        have HMD : Hid (RowT w16.drew (.slice g1 R.length e1) (marksTr 1 R)) := HM16.out.below (Below.drew (Below.refl _ _))
        have ks := HKB.out w16.drew KD.out
        go_wp2_with fail
        go_region_held3 (fun w' => (w'.cell? ⟨w.heap.size, 0, none⟩ = some (.slice an ls.length cn) ∧ w'.cell? ⟨w.heap.size, 1, none⟩ = some (.slice ao l.length co) ∧ w'.cell? ⟨w.heap.size, 2, none⟩ = some (.slice as0 bs.length cs) ∧ w'.cell? ⟨w.heap.size, 3, none⟩ = some (.slice ar rs.length cr)) ∧ (w'.cell? ⟨w.heap.size + 1, 0, none⟩ = some (.int .i64 t1) ∧ w'.cell? ⟨w.heap.size + 1, 1, none⟩ = some (.slice a ins.length c) ∧ w'.cell? ⟨w.heap.size + 1, 2, none⟩ = some (.string ⟨o1.toArray⟩) ∧ w'.cell? ⟨w.heap.size + 1, 3, none⟩ = some (.int .i64 o2))) (exact ks)
          (first
            | (go_at_call 8; refine (HTO.out _ (HPV.out _ KD.out)).mono ?_; rintro e v2w ⟨v2, rfl, ho2', hb2⟩
               have KD := Lib.hid (bth KD.out hb2 (Nat.le_refl _))
               have AD := Lib.hid (bth AD.out hb2 (Nat.le_refl _))
               have HMD := Lib.hid (HMD.out.below hb2)
               have HG2 := Lib.hid ho2'.view
               have ks := HKB.out v2w KD.out
               clear hb2 ho2')
            | (go_at_call 9; refine (HTI.out _ (HMV.out _ KD.out)).mono ?_; rintro e v3w ⟨y1, sy1, rfl, hoy1, hbp1⟩
               have KD := Lib.hid (bth KD.out hbp1 (Nat.le_refl _))
               have AD := Lib.hid (bth AD.out hbp1 (Nat.le_refl _))
               have HMD := Lib.hid (HMD.out.below hbp1)
               have HG2 := Lib.hid (HG2.out.below hbp1)
               have HY1 := Lib.hid hoy1.view
               have ks := HKB.out v3w KD.out
               clear hoy1 hbp1)
            | (go_at_call 10; refine (HTX.out _ (HXV.out _ KD.out)).mono ?_; rintro e v4w ⟨by2, dy2, rfl, hoy2, hbp2⟩
               have KD := Lib.hid (bth KD.out hbp2 (Nat.le_refl _))
               have AD := Lib.hid (bth AD.out hbp2 (Nat.le_refl _))
               have HMD := Lib.hid (HMD.out.below hbp2)
               have HG2 := Lib.hid (HG2.out.below hbp2)
               have HY1 := Lib.hid (HY1.out.below hbp2)
               have HY2 := Lib.hid (own_base hoy2 (Nat.zero_le _))
               have ks := HKB.out v4w KD.out
               clear hoy2 hbp2)
            | (go_at_call 11; refine (HIM.out _ _ _ _ _ HG2.out HY1.out HY2.out).mono ?_; rintro e v5w ⟨v5, s5l, rfl, hw5, hb5⟩
               have KD := Lib.hid (bth KD.out hb5 (Nat.le_refl _))
               have AD := Lib.hid (bth AD.out hb5 (Nat.le_refl _))
               have HMD := Lib.hid (HMD.out.below hb5)
               have HH := Lib.hid hw5.view
               have ks := HKB.out v5w KD.out
               clear hw5 hb5))
        all_goals
          clear ks HG2 HY1 HY2
          go_wp2_with fail
          refine (HEQ.out v5w _ _ HH.out (HW.out.below AD.out)).mono ?_
          rintro e w17 ⟨rfl, hb17⟩
          have K17 := Lib.hid (bth KD.out hb17 (Nat.le_refl _))
          have HM17 := Lib.hid (HMD.out.below hb17)
          clear hb17 HH HMD
          go_wp2_with fail
          refine (HHI.out _ w17 HM17.out).mono ?_
          rintro e w18 ⟨rfl, hb18⟩
          have K18 := Lib.hid (bth K17.out hb18 (Nat.le_refl _))
          clear hb18
          go_wp2_with fail
          go_ret
          exact ⟨rfl, bth HA.out K18.out (Nat.le_refl _)⟩

theorem totT_short (T : List TrT) (h : ShortT T) : totT T ≤ 10 * T.length := by
  induction T with
  | nil => simp [totT]
  | cons t r ih =>
    have h1 := (h t (by simp)).2.1
    have h2 := ih (fun x hx => h x (by simp [hx]))
    unfold totT at h2 ⊢
    simp only [List.map_cons, List.sum_cons, List.length_cons]
    omega
theorem note_bound (ls : List (List Int)) (l : List Int) (bs : List Bool) (rs : List (List OpT)) (T : List TrT) (t : TrT) : (noteA ls l bs rs T t).length + totT (noteA ls l bs rs T t) ≤ 1000000 := by
  unfold noteA
  split
  · rename_i h
    rw [Bool.and_eq_true] at h
    have h1 := note_len (t := t) (goodT_parts h.1).2.1
    have h2 := totT_short _ (note_short (goodT_all h.1) h.2)
    omega
  · simp [totT]

end Go.Proofs.YtngldlconipnnaaGreat
