/- Texts of one claim, joined in their order. -/
import Derived.ChangeKeysEq
import Derived.Test.YtgolhfmmlanmlaaGreatDoorM3
import Derived.Test.YtgolhfmmlanmlaaGreatDoorM7
import Derived.Test.YtgolhfmmlanmlaaGreatDoorM8
import Derived.Test.YtgolhfmmlanmlaaGreatDoorM4
import Derived.Test.YtgolhfmmlanmlaaGreatDoorM2
import Derived.Test.YtgolhfmmlanmlaaGreatDoorM1

/- Walks: copies of plans. -/
namespace Go.Proofs.YtgolhfmmlanmlaaGreatDoor
open Go.RowKit Pth

theorem results_cellP {fn : Func} {p : Tmp} {ty : TypeId} (h : fn.results = #[.cell p ty]) {tmps : Array Value} {w : World} {ad : Addr} {v : Value} (hp : tmps.getD p undef = .pointer (some ad)) (hl : (loadVar ty ad).run Tryz.prog w = .ok v w) :
    (results fn tmps).run Tryz.prog w = .ok v w := by
  have hp' : tmps[p]?.getD undef = .pointer (some ad) := by simpa using hp
  simp only [results, h]
  simp [hp', asAddr, hl]

set_option maxRecDepth 20000 in
set_option maxHeartbeats 4000000 in
theorem toPlan_any (ls : List (List Int)) (l : List Int) (bs : List Bool) (rs : List (List OpT)) (v : Value) (w : World) (hp : PlanV w v ls l bs rs) (hz : planZ ls l bs rs ≤ 2000000) :
    Calls Tryz.prog 10 #[v] w fun e w' => ∃ v', e = .returned v' ∧ PlanO w.heap.size w' v' ls l bs rs ∧ Below w.heap.size w w' := by
  obtain ⟨nv, ov, sv, rv, rfl, h1, h2, h3, h4⟩ := hp
  unfold planZ at hz
  have H1 := Lib.hid h1
  have H2 := Lib.hid h2
  have H3 := Lib.hid h3
  have H4 := Lib.hid h4
  obtain ⟨as0, cs, rfl, hs1, hs2, _⟩ := h3.boolsW
  obtain ⟨an, cn, rfl, hn1, hn2, _⟩ := h1.lists
  obtain ⟨ao, co, rfl, ho1, ho2, _⟩ := h2.ints
  obtain ⟨ar, cr, rfl, hr1, hr2, _⟩ := h4.lists
  clear h1 h2 h3 h4
  unfold maxLen at hs2 hn2 ho2 hr2
  obtain ⟨wp, hwp⟩ : ∃ wp, wp = w.alloc (.cells #[.slice an ls.length cn, .slice ao l.length co, .slice as0 bs.length cs, .slice ar rs.length cr] 29) := ⟨_, rfl⟩
  obtain ⟨wq, hwq⟩ : ∃ wq, wq = wp.alloc (.cells #[.slice none 0 0, .slice none 0 0, .slice none 0 0, .slice none 0 0] 42) := ⟨_, rfl⟩
  obtain ⟨wa, hwa⟩ : ∃ wa, wa = wq.alloc (.cells #[.slice none 0 0, .slice none 0 0, .slice none 0 0, .slice none 0 0] 42) := ⟨_, rfl⟩
  have ep : wp.heap.size = w.heap.size + 1 := by rw [hwp]; simp
  have eq : wq.heap.size = w.heap.size + 2 := by rw [hwq]; simp [ep]
  have eq' : wq.heap.size = w.heap.size + 1 + 1 := by omega
  have ea : wa.heap.size = w.heap.size + 3 := by rw [hwa]; simp [eq]
  have P0 : Hid (Blk4 wa w.heap.size 29 (.slice an ls.length cn) (.slice ao l.length co) (.slice as0 bs.length cs) (.slice ar rs.length cr)) := by
    rw [hwa, hwq, hwp]; exact (Blk4.new.old _).old _
  have R0 : Hid (Blk4 wa (w.heap.size + 1) 42 (.slice none 0 0) (.slice none 0 0) (.slice none 0 0) (.slice none 0 0)) := by
    rw [hwa, hwq, ← ep]; exact Blk4.new.old _
  have O0 : Hid (Blk4 wa (w.heap.size + 1 + 1) 42 (.slice none 0 0) (.slice none 0 0) (.slice none 0 0) (.slice none 0 0)) := by
    rw [hwa, ← eq']; exact Blk4.new
  have HA : Hid (Below w.heap.size w wa) := by
    rw [hwa, hwq, hwp]; exact (((Below.refl w.heap.size w).alloc (Nat.le_refl _) _).alloc (by simp) _).alloc (by simp; omega) _
  have HWA : Hid (((w.alloc (.cells #[.slice an ls.length cn, .slice ao l.length co, .slice as0 bs.length cs, .slice ar rs.length cr] 29)).alloc (.cells #[.slice none 0 0, .slice none 0 0, .slice none 0 0, .slice none 0 0] 42)).alloc (.cells #[.slice none 0 0, .slice none 0 0, .slice none 0 0, .slice none 0 0] 42) = wa) := by rw [hwa, hwq, hwp]; rfl
  have HG : Hid (GraphV wa (.agg #[.slice an ls.length cn, .slice ao l.length co]) ls l) := ⟨_, _, rfl, H1.out.below HA.out, H2.out.below HA.out⟩
  clear hwa hwq hwp ep eq eq'
  go_enter Tryz.func10, Tryz.ntmps10
  go_wp2_with fail
  rw [HWA.out]
  refine (toGraph_any ls l _ wa HG.out (by omega)).mono ?_
  rintro e w1 ⟨v1, rfl, hg1, hb1⟩
  obtain ⟨b1, d1, b2, d2, rfl⟩ := hg1.slices
  have P1 := Lib.hid (P0.out.below hb1 (by omega))
  have R1 := Lib.hid (R0.out.below hb1 (by omega))
  have O1 := O0.out.below hb1 (by omega)
  have HA1 := Lib.hid (HA.out.trans (hb1.mono HA.out.size))
  have hs1' := hb1.size
  have HG1 := Lib.hid hg1
  have c2 := P1.out.cells.2.2.1
  obtain ⟨o0, o1, _, _⟩ := O1.cells
  have f0 := O1.soft 0
  have f1 := O1.soft 1
  have O2 := Lib.hid ((O1.set0 (.slice b1 ls.length d1)).set1 (.slice b2 l.length d2))
  clear hb1 hg1 O1
  go_wp2_with fail
  clear o0 o1 f0 f1 c2
  -- the graph's two cells
  have n1 : w.heap.size + 1 + 1 < wa.heap.size := by omega
  have n0 : w.heap.size ≤ w.heap.size + 1 + 1 := by omega
  have n2 : w.heap.size ≠ w.heap.size + 1 + 1 := by omega
  have n3 : w.heap.size + 1 ≠ w.heap.size + 1 + 1 := by omega
  have HG2 := Lib.hid ((HG1.out.set (p := ⟨w.heap.size + 1 + 1, 0, none⟩) n1 (.slice b1 ls.length d1)).set (p := ⟨w.heap.size + 1 + 1, 1, none⟩) n1 (.slice b2 l.length d2))
  have HA2 := Lib.hid ((HA1.out.setCell (p := ⟨w.heap.size + 1 + 1, 0, none⟩) n0 (.slice b1 ls.length d1)).setCell (p := ⟨w.heap.size + 1 + 1, 1, none⟩) n0 (.slice b2 l.length d2))
  have P2 := Lib.hid ((P1.out.other (p := ⟨w.heap.size + 1 + 1, 0, none⟩) n2 (.slice b1 ls.length d1)).other (p := ⟨w.heap.size + 1 + 1, 1, none⟩) n2 (.slice b2 l.length d2))
  have R2 := Lib.hid ((R1.out.other (p := ⟨w.heap.size + 1 + 1, 0, none⟩) n3 (.slice b1 ls.length d1)).other (p := ⟨w.heap.size + 1 + 1, 1, none⟩) n3 (.slice b2 l.length d2))
  have hs2' : wa.heap.size ≤ ((w1.setCell ⟨w.heap.size + 1 + 1, 0, none⟩ (.slice b1 ls.length d1)).setCell ⟨w.heap.size + 1 + 1, 1, none⟩ (.slice b2 l.length d2)).heap.size := by simp; omega
  clear HG1 HA1 P1 R1
  generalize (w1.setCell ⟨w.heap.size + 1 + 1, 0, none⟩ (.slice b1 ls.length d1)).setCell ⟨w.heap.size + 1 + 1, 1, none⟩ (.slice b2 l.length d2) = x1 at *
  refine (toBoolS_any bs _ x1 (H3.out.below HA2.out) (by omega)).mono ?_
  rintro e w3 ⟨v3, rfl, hn3, hb3⟩
  obtain ⟨b3, d3, rfl⟩ := own_slice hn3
  have O3 := O2.out.below hb3 (by omega)
  have o2 := O3.cells.2.2.1
  have f2 := O3.soft 2
  have hs3 := hb3.size
  have c3 := (P2.out.below hb3 (by omega)).cells.2.2.2
  have HG3 := Lib.hid ((HG2.out.below hb3).set (p := ⟨w.heap.size + 1 + 1, 2, none⟩) n1 (.slice b3 bs.length d3))
  have HN3 := Lib.hid (own_setI (own_base hn3 hs2') (p := ⟨w.heap.size + 1 + 1, 2, none⟩) n1 (.slice b3 bs.length d3))
  have HA3 := Lib.hid ((HA2.out.trans (hb3.mono HA2.out.size)).setCell (p := ⟨w.heap.size + 1 + 1, 2, none⟩) n0 (.slice b3 bs.length d3))
  have P3 := Lib.hid ((P2.out.below hb3 (by omega)).other (p := ⟨w.heap.size + 1 + 1, 2, none⟩) n2 (.slice b3 bs.length d3))
  have R3 := Lib.hid ((R2.out.below hb3 (by omega)).other (p := ⟨w.heap.size + 1 + 1, 2, none⟩) n3 (.slice b3 bs.length d3))
  have Q3 := Lib.hid (O3.set2 (.slice b3 bs.length d3))
  have hs3' : wa.heap.size ≤ (w3.setCell ⟨w.heap.size + 1 + 1, 2, none⟩ (.slice b3 bs.length d3)).heap.size := by simp; omega
  clear hn3 hb3 O3 HG2 HA2 P2 R2 O2
  go_wp2_with fail
  clear o2 f2 c3
  generalize w3.setCell ⟨w.heap.size + 1 + 1, 2, none⟩ (.slice b3 bs.length d3) = x3 at *
  refine (toOpSS_any rs _ x3 (H4.out.below HA3.out) (by omega)).mono ?_
  rintro e w4 ⟨v4, so, rfl, hn4, hb4⟩
  obtain ⟨b4, d4, rfl⟩ := own_slice hn4.2.1
  have O4 := Q3.out.below hb4 (by omega)
  have o3 := O4.cells.2.2.2
  have f3 := O4.soft 3
  have hs4 := hb4.size
  have HG4 := Lib.hid ((HG3.out.below hb4).set (p := ⟨w.heap.size + 1 + 1, 3, none⟩) n1 (.slice b4 rs.length d4))
  have HN4 := Lib.hid (own_setI (own_below HN3.out hb4) (p := ⟨w.heap.size + 1 + 1, 3, none⟩) n1 (.slice b4 rs.length d4))
  have HR4 := Lib.hid ((hn4.base hs3').set (p := ⟨w.heap.size + 1 + 1, 3, none⟩) n1 (.slice b4 rs.length d4))
  have HA4 := Lib.hid ((HA3.out.trans (hb4.mono HA3.out.size)).setCell (p := ⟨w.heap.size + 1 + 1, 3, none⟩) n0 (.slice b4 rs.length d4))
  have R4 := Lib.hid ((R3.out.below hb4 (by omega)).other (p := ⟨w.heap.size + 1 + 1, 3, none⟩) n3 (.slice b4 rs.length d4))
  have Q4 := Lib.hid (O4.set3 (.slice b4 rs.length d4))
  obtain ⟨k0, k1, k2, k3⟩ := R4.out.cells
  have z0 := R4.out.soft 0
  have z1 := R4.out.soft 1
  have z2 := R4.out.soft 2
  have z3 := R4.out.soft 3
  obtain ⟨q0, q1, q2, q3⟩ := Q4.out.cells
  clear hn4 hb4 O4 HG3 HN3 HA3 P3 R3 Q3
  go_wp2_with fail
  have Z := (((R4.out.set0 (.slice b1 ls.length d1)).set1 (.slice b2 l.length d2)).set2 (.slice b3 bs.length d3)).set3 (.slice b4 rs.length d4)
  refine bodyPost_ret (results_cellP rfl rfl (load_plan Z)) rfl ?_
  have e1 : w.heap.size ≤ wa.heap.size := by omega
  have e2 : w.heap.size + 1 < wa.heap.size := by omega
  have e3 : w.heap.size ≤ w.heap.size + 1 := by omega
  refine ⟨_, rfl, ⟨_, _, _, _, so, rfl, ?_, ?_, ?_⟩, ?_⟩
  · exact ((((HG4.out.set (p := ⟨w.heap.size + 1, 0, none⟩) e2 _).set (p := ⟨w.heap.size + 1, 1, none⟩) e2 _).set (p := ⟨w.heap.size + 1, 2, none⟩) e2 _).set (p := ⟨w.heap.size + 1, 3, none⟩) e2 _).base e1
  · exact own_base (own_setI (own_setI (own_setI (own_setI HN4.out (p := ⟨w.heap.size + 1, 0, none⟩) e2 _) (p := ⟨w.heap.size + 1, 1, none⟩) e2 _) (p := ⟨w.heap.size + 1, 2, none⟩) e2 _) (p := ⟨w.heap.size + 1, 3, none⟩) e2 _) e1
  · exact ((((HR4.out.set (p := ⟨w.heap.size + 1, 0, none⟩) e2 _).set (p := ⟨w.heap.size + 1, 1, none⟩) e2 _).set (p := ⟨w.heap.size + 1, 2, none⟩) e2 _).set (p := ⟨w.heap.size + 1, 3, none⟩) e2 _).base e1
  · exact (((HA4.out.setCell (p := ⟨w.heap.size + 1, 0, none⟩) e3 _).setCell (p := ⟨w.heap.size + 1, 1, none⟩) e3 _).setCell (p := ⟨w.heap.size + 1, 2, none⟩) e3 _).setCell (p := ⟨w.heap.size + 1, 3, none⟩) e3 _

theorem PlanO.slices {B : Nat} {w : World} {v : Value} {ls : List (List Int)} {l : List Int} {bs : List Bool} {rs : List (List OpT)} (h : PlanO B w v ls l bs rs) :
    ∃ a c a2 c2 a3 c3 a4 c4, v = .agg #[.slice a ls.length c, .slice a2 l.length c2, .slice a3 bs.length c3, .slice a4 rs.length c4] := by
  obtain ⟨nv, ov, sv, rv, so, hv, h1, h2, h3⟩ := h
  obtain ⟨a, c, a2, c2, he⟩ := h1.slices
  simp only [Value.agg.injEq, Array.mk.injEq, List.cons.injEq, and_true] at he
  obtain ⟨rfl, rfl⟩ := he
  obtain ⟨a3, c3, rfl⟩ := own_slice h2
  obtain ⟨a4, c4, rfl⟩ := own_slice h3.2.1
  exact ⟨a, c, a2, c2, a3, c3, a4, c4, hv⟩
end Go.Proofs.YtgolhfmmlanmlaaGreatDoor

/- Walks: the laws' helpers on the answers of chapters 7 and 8. -/
namespace Go.Proofs.YtgolhfmmlanmlaaGreatDoor
open Go.RowKit Pth

/-- Results are told, and whether they stand. -/
def ResOk (R : List ResT) (ok : Bool) (w : World) (e : Ending) (w' : World) : Prop :=
  ∃ v, e = .returned (.tuple #[v, .bool ok]) ∧ w'.ownsRow w.heap.size 75 2 v R.length (RC R) ∧ Below w.heap.size w w'
/-- Results are told, a number, and whether they stand. -/
def ResNOk (R : List ResT) (n : Int) (ok : Bool) (w : World) (e : Ending) (w' : World) : Prop :=
  ∃ v, e = .returned (.tuple #[v, .int .i64 n, .bool ok]) ∧ w'.ownsRow w.heap.size 75 2 v R.length (RC R) ∧ Below w.heap.size w w'
/-- Numbers are told, and whether they stand. -/
def NumsOk (R : List Int) (ok : Bool) (w : World) (e : Ending) (w' : World) : Prop :=
  ∃ v, e = .returned (.tuple #[v, .bool ok]) ∧ w'.ownsRow w.heap.size 3 1 v R.length (I R) ∧ Below w.heap.size w w'
theorem marksR_at (k n j : Nat) (hj : j < (marksR k n).length) : (marksR k n)[j] = (markT (k + j * 2), ((k + j * 2 + 1 : Nat) : Int)) := by simp [marksR]
theorem heldRow_R {w : World} {B n : Nat} {v : Value} (h : w.ownsRow B 75 2 v n (RC (marksR 1 n))) : RowR w v (marksR 1 n) := RowR.of_own (by rw [marksR_len]; exact h)
theorem heldRow_I {w : World} {B n : Nat} {v : Value} (h : w.ownsRow B 3 1 v n (I (marks 1 n))) : RowV w v (I (marks 1 n)) := RowV.of_own h

set_option maxHeartbeats 1000000 in
theorem szStringS_le (l : List (List UInt8)) (left : Nat) (v : Value) (w : World) (hrow : RowV w v (S l)) (hx : ∀ x ∈ l, x.length ≤ maxLen) (hl : left ≤ 2000000) :
    Calls Tryz.prog 8 #[v, .int .i64 (left : Int)] w fun e w' => ∃ r : Int, e = .returned (.int .i64 r) ∧ r ≤ left ∧ (0 ≤ r → r + l.length ≤ left ∧ ∀ x ∈ l, x.length ≤ left) ∧ w = w' := by
  obtain ⟨a, cap, rfl, hc1, hc2, hat⟩ := hrow.texts
  clear hrow
  unfold maxLen at hc2 hx
  by_cases hlen : l.length ≤ left
  · have hlen1 : decide ((left : Int) - (l.length : Int) < 0) = false := by simp; omega
    go_enter Tryz.func8, Tryz.ntmps8
    go_wp2_with fail
    go_loop [1, 5] (fun q i => ∃ (k : Nat) (r : Int), k ≤ l.length ∧ 0 ≤ r ∧ r + l.length ≤ left ∧ q = .int .i64 r ∧ i = .int .i64 k ∧ Hid (∀ x ∈ l.take k, x.length ≤ left)) (fun _ i => l.length - (intOf i).toNat)
    case atStart => exact ⟨0, (left : Int) - (l.length : Int), Nat.zero_le _, by omega, by omega, rfl, rfl, by simp [Hid]⟩
    case round =>
      obtain ⟨k, r, hk, hr0, hr1, rfl, rfl, HO⟩ := hrel
      by_cases hlt : k < l.length
      · obtain ⟨g, o, rfl, hg, hcell⟩ := hat k hlt
        have hxl := hx l[k] (List.getElem_mem hlt)
        by_cases hy : ((l[k]).length : Int) ≤ r
        · have HS : Hid (∀ x ∈ l.take (k + 1), x.length ≤ left) := by
            intro x hxm
            rw [List.take_succ_eq_append_getElem hlt, List.mem_append, List.mem_singleton] at hxm
            rcases hxm with h | h
            · exact HO.out x h
            · rw [h]; omega
          have hy1 : decide (r - ((l[k]).length : Int) < 0) = false := by simp; omega
          generalize l[k] = x at hcell hxl hy hy1
          clear hat HO hx
          go_wp2_with fail
          go_round
          case rel => exact ⟨k + 1, r - (x.length : Int), by omega, by omega, by omega, rfl, by go_num, HS⟩
          case measure => simp [intOf]; omega
        · have hy1 : decide (r - ((l[k]).length : Int) < 0) = true := by simp; omega
          generalize l[k] = x at hcell hxl hy hy1
          clear hat HO hx
          go_wp2_with fail
          go_ret
          exact ⟨-1, rfl, by omega, fun h => by omega, rfl⟩
      · have HS : Hid (∀ x ∈ l, x.length ≤ left) := by have := HO.out; rw [List.take_of_length_le (by omega)] at this; exact this
        clear hat HO hx
        go_wp2_with fail
        go_ret
        exact ⟨r, rfl, by omega, fun _ => ⟨by omega, HS.out⟩, rfl⟩
  · have hlen1 : decide ((left : Int) - (l.length : Int) < 0) = true := by simp; omega
    clear hat hx
    go_enter Tryz.func8, Tryz.ntmps8
    go_wp2_with fail
    go_ret
    exact ⟨-1, rfl, by omega, fun h => by omega, rfl⟩


set_option maxHeartbeats 1000000 in
theorem markIntS_huge (l : List Int) (k : Nat) (B : Nat) (v : Value) (w : World) (hown : w.ownsRow B 3 1 v l.length (I l)) (hl : l.length ≤ 2000000) (hk : k ≤ 8000000) :
    Calls Tryz.prog 29 #[v, .int .i64 (k : Int)] w (Marked B v k l.length w) := by
  have HW := Lib.hid hown
  obtain ⟨a, cap, rfl⟩ := own_slice hown
  clear hown
  go_enter Tryz.func29, Tryz.ntmps29
  go_wp2_with fail
  go_loopw [1, 5] (fun q i wr => ∃ j : Nat, j ≤ l.length ∧ q = .int .i64 ((k : Int) + (j : Int)) ∧ i = .int .i64 j ∧ wr.ownsRow B 3 1 (.slice a l.length cap) l.length (I (marks k j) ++ (I l).drop j) ∧ w.grownBy wr (Value.slice a l.length cap).ownBlock) (fun _ i _ => l.length - (intOf i).toNat)
  case atStart => exact ⟨0, Nat.zero_le _, by simp, rfl, HW.out, grown_refl _ _⟩
  case round =>
    clear HW
    obtain ⟨j, hj, rfl, rfl, hown, hg⟩ := hrel
    by_cases hlt : j < l.length
    · obtain ⟨g, c2, hv⟩ : ∃ g c2, (Value.slice a l.length cap) = .slice (some ⟨g, 0, none⟩) l.length c2 := by
        rcases hown.2 with ⟨_, h0⟩ | ⟨g, c2, cur, hv, _⟩
        · omega
        · exact ⟨g, c2, hv⟩
      injection hv with hv1 hv2 hv3
      subst hv1
      have hfz := hown.frozenAt j
      have hcz : wr.cell? ⟨g, j, none⟩ = some (.int .i64 l[j]) := by rw [hown.cellAt j (by omega), mark_get k l j hlt]
      have hst := hown.stored j (.int .i64 ((k : Int) + (j : Int)))
      rw [mark_set k l j hlt] at hst
      have HN1 := Lib.hid hst.1
      have HG1 := Lib.hid (grown_trans hg hst.2)
      have hc4 : l.length ≤ cap := by
        rcases hown.2 with ⟨_, h0⟩ | ⟨g, c2, cur, hv, _, _, h5, _⟩
        · omega
        · injection hv with _ _ hv3; omega
      clear hown hg hst hv2 hv3
      generalize l[j] = x at hcz
      go_wp2_with fail
      go_roundw
      case rel => exact ⟨j + 1, by omega, by go_num, by go_num, HN1.out, HG1.out⟩
      case measure => simp [intOf]; omega
    · obtain rfl : j = l.length := by omega
      have e : (I l).drop l.length = [] := List.drop_of_length_le (by rw [I_len]; omega)
      rw [e, List.append_nil] at hown
      have HN := Lib.hid hown
      have HG := Lib.hid hg
      clear hown hg e
      go_wp2_with fail
      go_ret
      exact ⟨rfl, HN.out, HG.out⟩


set_option maxRecDepth 20000 in
set_option maxHeartbeats 1000000 in
theorem heldResultS_any (k n : Nat) (v : Value) (w : World) (hrow : RowR w v (marksR k n)) (hn : n ≤ 1100000) (hk : k ≤ 4000000) (hk1 : 1 ≤ k) :
    Calls Tryz.prog 22 #[v, .int .i64 (k : Int)] w fun e w' => e = .returned (.int .i64 ((k : Int) + (n : Int) * 2)) ∧ Below w.heap.size w w' := by
  obtain ⟨a, cap, rfl, hc1, hc2, hat⟩ := hrow.res
  rw [marksR_len] at hc1 ⊢
  clear hrow
  unfold maxLen at hc2
  go_enter Tryz.func22, Tryz.ntmps22
  go_wp2_with fail
  go_loopw [1, 5] (fun q i wr => ∃ j : Nat, j ≤ n ∧ q = .int .i64 ((k : Int) + (j : Int) * 2) ∧ i = .int .i64 j ∧ Below w.heap.size w wr) (fun _ i _ => n - (intOf i).toNat)
  case atStart => exact ⟨0, Nat.zero_le _, by simp, rfl, Below.refl _ _⟩
  case round =>
    obtain ⟨j, hj, rfl, rfl, hb⟩ := hrel
    by_cases hlt : j < n
    · obtain ⟨g, o, rfl, hg, hcell0, hcell1⟩ := hat j (by rw [marksR_len]; exact hlt)
      rw [marksR_at] at hcell0 hcell1
      have s0 : wr.cell? ⟨g, o + j * 2, none⟩ = some (.string ⟨(markT (k + j * 2)).toArray⟩) := by rw [hb.cell (p := ⟨g, o + j * 2, none⟩) hg]; exact hcell0
      have ec : ((k + j * 2 + 1 : Nat) : Int) = (k : Int) + (j : Int) * 2 + 1 := by omega
      have s1 : wr.cell? ⟨g, o + j * 2 + 1, none⟩ = some (.int .i64 ((k : Int) + (j : Int) * 2 + 1)) := by rw [hb.cell (p := ⟨g, o + j * 2 + 1, none⟩) hg, hcell1, ← ec]
      have hgw : g < wr.heap.size := by have := hb.size; omega
      have HC := Lib.hid (fun W => mark_r (k + j * 2) ((k : Int) + (j : Int) * 2) (by omega) (by omega) (by omega) W)
      have HB := Lib.hid hb
      have hj1 : (j : Int) < (n : Int) := by omega
      clear hcell0 hcell1 hat hb ec
      generalize markT (k + j * 2) = y at s0 HC
      have ks := And.intro s0 s1
      go_wp2_with fail
      go_region_held3 (fun w' => w'.cell? ⟨g, o + j * 2, none⟩ = some (.string ⟨y.toArray⟩) ∧ w'.cell? ⟨g, o + j * 2 + 1, none⟩ = some (.int .i64 ((k : Int) + (j : Int) * 2 + 1))) (first | exact ks | exact k0)
        (first | (go_at_call 60; refine (HC.out _).mono ?_; rintro e w5 ⟨rfl, hb5⟩; have k0 := And.intro ((hb5.cell (p := ⟨g, o + j * 2, none⟩) hgw).trans ks.1) ((hb5.cell (p := ⟨g, o + j * 2 + 1, none⟩) hgw).trans ks.2)))
      have s1 := k0.2
      have HB5 := Lib.hid ((Below.drew HB.out).trans (hb5.mono HB.out.size))
      clear hb5 k0 ks
      go_wp2_with fail
      go_roundw
      case rel => exact ⟨j + 1, by omega, by go_num, by go_num, HB5.out⟩
      case measure => simp [intOf]; omega
    · obtain rfl : j = n := by omega
      have HB := Lib.hid hb
      clear hat hb
      go_wp2_with fail
      go_ret
      exact ⟨rfl, HB.out⟩

end Go.Proofs.YtgolhfmmlanmlaaGreatDoor

/- Walks: the laws' helpers on traces: how large, copies, whether they are the same. -/
namespace Go.Proofs.YtgolhfmmlanmlaaGreatDoor
open Go.RowKit Pth

/-- How many inputs traces have together. -/
def totT (l : List TrT) : Nat := (l.map (fun t => t.2.1.length)).sum
theorem totT_append (a b : List TrT) : totT (a ++ b) = totT a + totT b := by simp [totT]
theorem totT_next {l : List TrT} {k : Nat} (hk : k < l.length) : totT (l.take (k + 1)) = totT (l.take k) + l[k].2.1.length := by
  rw [List.take_succ_eq_append_getElem hk, totT_append]; rfl
theorem totT_all {l : List TrT} {k : Nat} (hk : l.length ≤ k) : totT (l.take k) = totT l := by rw [List.take_of_length_le hk]
theorem totT_le {l : List TrT} {k : Nat} : totT (l.take k) ≤ totT l := by
  have := totT_append (l.take k) (l.drop k)
  rw [List.take_append_drop] at this
  omega
theorem totT_at {l : List TrT} {k : Nat} (hk : k < l.length) : l[k].2.1.length ≤ totT l := by
  have h1 := totT_next hk
  have h2 := totT_le (l := l) (k := k + 1)
  omega
/-- Texts that a machine can hold; texts of at most so many bytes. -/
def HeldT (n : Nat) (t : TrT) : Prop := (∀ x ∈ t.2.1, x.length ≤ n) ∧ t.2.2.1.length ≤ n

set_option maxRecDepth 20000 in
set_option maxHeartbeats 2000000 in
theorem szTrace_any (t : TrT) (left : Nat) (v : Value) (w : World) (hv : TrV w v t) (hx : HeldT maxLen t) (hl : left ≤ 2000000) :
    Calls Tryz.prog 36 #[v, .int .i64 (left : Int)] w fun e w' => ∃ r : Int, e = .returned (.int .i64 r) ∧ r ≤ left ∧ (0 ≤ r → r + t.2.1.length ≤ left ∧ HeldT left t) ∧ Below w.heap.size w w' := by
  obtain ⟨t1, ins, o1, o2⟩ := t
  obtain ⟨a, c, rfl, hr⟩ := hv
  obtain ⟨hx1, hx2⟩ := hx
  simp only at hr hx1 hx2 ⊢
  unfold trV
  simp only
  obtain ⟨_, _, he, hc1, hc2, _⟩ := hr.texts
  injection he with ea _ ec
  subst ea ec
  obtain ⟨wa, hwa⟩ : ∃ wa, wa = w.alloc (.cells #[.int .i64 t1, .slice a ins.length c, .string ⟨o1.toArray⟩, .int .i64 o2] 71) := ⟨_, rfl⟩
  have P0 : Hid (Blk4 wa w.heap.size 71 (.int .i64 t1) (.slice a ins.length c) (.string ⟨o1.toArray⟩) (.int .i64 o2)) := by rw [hwa]; exact Blk4.new
  have HA : Hid (Below w.heap.size w wa) := by rw [hwa]; exact (Below.refl w.heap.size w).alloc (Nat.le_refl _) _
  have HWA := Lib.hid hwa
  have HC := Lib.hid (szStringS_le ins left _ wa (hr.below HA.out) hx1 hl)
  have HX2 := Lib.hid hx2
  obtain ⟨_, _, c2, c3⟩ := P0.out.cells
  clear hwa hr hx1 hx2
  go_enter Tryz.func36, Tryz.ntmps36
  go_wp2_with fail
  rw [← HWA.out]
  refine HC.out.mono ?_
  rintro e w1 ⟨r1, rfl, hle, hif, rfl⟩
  have HIF := Lib.hid hif
  clear hif HC
  by_cases h0 : 0 ≤ r1
  · obtain ⟨r2, rfl⟩ : ∃ r2 : Nat, r1 = r2 := ⟨r1.toNat, by omega⟩
    have hd : decide ((r2 : Int) < 0) = false := decide_eq_false (by omega)
    have HQ := Lib.hid (HIF.out h0)
    have HR := Lib.hid (szResult_any (o1, o2) r2 wa HX2.out (by omega))
    unfold resV at HR
    simp only at HR
    clear HIF h0
    go_wp2_with fail
    refine HR.out.mono ?_
    rintro e w2 ⟨r3, rfl, hle3, hif3, hb3⟩
    have HB3 := Lib.hid (bth HA.out hb3 (Nat.le_refl _))
    have HI3 := Lib.hid hif3
    clear hb3 hif3 HR
    by_cases h3 : 0 ≤ r3
    · have hd3 : decide (r3 < 0) = false := decide_eq_false (by omega)
      go_wp2_with fail
      go_ret
      exact ⟨r3, rfl, by omega, fun _ => ⟨by have := HQ.out.1; omega, HQ.out.2, by have h4 : r3 + (o1.length : Int) = r2 := HI3.out h3; show o1.length ≤ left; omega⟩, HB3.out⟩
    · have hd3 : decide (r3 < 0) = true := decide_eq_true (by omega)
      go_wp2_with fail
      go_ret
      exact ⟨-1, rfl, by omega, fun h => by omega, HB3.out⟩
  · have hd : decide (r1 < 0) = true := decide_eq_true (by omega)
    clear HIF
    go_wp2_with fail
    go_ret
    exact ⟨-1, rfl, by omega, fun h => by omega, HA.out⟩

set_option maxRecDepth 20000 in
set_option maxHeartbeats 2000000 in
theorem szTraceS_any (l : List TrT) (left : Nat) (v : Value) (w : World) (hrow : RowT w v l) (hx : ∀ t ∈ l, HeldT maxLen t) (hl : left ≤ 2000000) :
    Calls Tryz.prog 7 #[v, .int .i64 (left : Int)] w fun e w' => ∃ r : Int, e = .returned (.int .i64 r) ∧ r ≤ left ∧ (0 ≤ r → r + l.length + totT l ≤ left ∧ ∀ t ∈ l, HeldT left t) ∧ Below w.heap.size w w' := by
  obtain ⟨a, cap, rfl, hc1, hc2, hat⟩ := hrow.traces
  clear hrow
  unfold maxLen at hc2
  have HAT := Lib.hid hat
  have HX := Lib.hid hx
  clear hat hx
  by_cases hlen : l.length ≤ left
  · have hlen1 : decide ((left : Int) - (l.length : Int) < 0) = false := by simp; omega
    go_enter Tryz.func7, Tryz.ntmps7
    go_wp2_with fail
    go_loopw [1, 5] (fun q i wr => ∃ (k r : Nat), k ≤ l.length ∧ q = .int .i64 r ∧ i = .int .i64 k ∧ r + l.length + totT (l.take k) ≤ left ∧ Hid (∀ t ∈ l.take k, HeldT left t) ∧ Hid (Below w.heap.size w wr)) (fun _ i _ => l.length - (intOf i).toNat)
    case atStart => exact ⟨0, left - l.length, Nat.zero_le _, by go_num, rfl, by simp [totT]; omega, by simp [Hid], Below.refl _ _⟩
    case round =>
      obtain ⟨k, r, hk, rfl, rfl, hr1, HO, HB⟩ := hrel
      by_cases hlt : k < l.length
      · obtain ⟨g, o, a2, c2, rfl, hg, ⟨k0, k1, k2, k3⟩, hrk⟩ := HAT.out k hlt
        have s0 := (HB.out.cell (p := ⟨g, o + k * 4, none⟩) hg).trans k0
        have s1 := (HB.out.cell (p := ⟨g, o + k * 4 + 1, none⟩) hg).trans k1
        have s2 := (HB.out.cell (p := ⟨g, o + k * 4 + 2, none⟩) hg).trans k2
        have s3 := (HB.out.cell (p := ⟨g, o + k * 4 + 3, none⟩) hg).trans k3
        have HC := Lib.hid (szTrace_any l[k] r _ wr ⟨a2, c2, rfl, hrk.below HB.out⟩ (HX.out _ (List.getElem_mem hlt)) (by omega))
        have HT := Lib.hid (totT_next hlt)
        have HR := Lib.hid hr1
        have hr2 : r ≤ 2000000 := by omega
        have HS : Hid (HeldT left l[k] → ∀ f ∈ l.take (k + 1), HeldT left f) := by
          intro h1 f hf
          rw [List.take_succ_eq_append_getElem hlt, List.mem_append, List.mem_singleton] at hf
          rcases hf with h | h
          · exact HO.out f h
          · rw [h]; exact h1
        have hrl : r ≤ left := by omega
        clear k0 k1 k2 k3 hrk hr1 HO
        generalize l[k] = x at *
        obtain ⟨x1, xi, x2, x3⟩ := x
        unfold trV at HC
        simp only at s0 s1 s2 s3 HC HT HS
        generalize xi.length = n at *
        go_wp2_with fail
        refine HC.out.mono ?_
        rintro e w1 ⟨r1, rfl, hle, hif, hb1⟩
        have HB1 := Lib.hid (HB.out.trans (hb1.mono HB.out.size))
        have HIF := Lib.hid hif
        clear hb1 HC hif
        by_cases h0 : 0 ≤ r1
        · obtain ⟨r2, rfl⟩ : ∃ r2 : Nat, r1 = r2 := ⟨r1.toNat, by omega⟩
          have hd : decide ((r2 : Int) < 0) = false := decide_eq_false (by omega)
          have HS2 : Hid (r2 + l.length + totT (l.take (k + 1)) ≤ left) := by have h1 := (HIF.out h0).1; have h2 := HT.out; have h3 := HR.out; unfold Hid; omega
          have HS3 := Lib.hid (HS.out ⟨fun x hx => Nat.le_trans ((HIF.out h0).2.1 x hx) hrl, Nat.le_trans (HIF.out h0).2.2 hrl⟩)
          clear HIF HS h0 hle HT HR
          go_wp2_with fail
          go_roundw
          case rel => exact ⟨k + 1, r2, by omega, rfl, by go_num, HS2.out, HS3, HB1⟩
          case measure => simp [intOf]; omega
        · have hd : decide (r1 < 0) = true := decide_eq_true (by omega)
          clear HIF HS HT HR
          go_wp2_with fail
          go_ret
          exact ⟨-1, rfl, by omega, fun h => by omega, HB1.out⟩
      · have HS : Hid (r + l.length + totT l ≤ left) := by have := hr1; rw [totT_all (by omega)] at this; exact this
        have HH : Hid (∀ t ∈ l, HeldT left t) := by have := HO.out; rw [List.take_of_length_le (by omega)] at this; exact this
        clear HAT HX hr1 HO
        go_wp2_with fail
        go_ret
        exact ⟨r, rfl, by have := HS.out; omega, fun _ => ⟨by have := HS.out; omega, HH.out⟩, HB.out⟩
  · have hlen1 : decide ((left : Int) - (l.length : Int) < 0) = true := by simp; omega
    clear HAT HX
    go_enter Tryz.func7, Tryz.ntmps7
    go_wp2_with fail
    go_ret
    exact ⟨-1, rfl, by omega, fun h => by omega, Below.refl _ _⟩

theorem load_trace {w : World} {b : Nat} {x y z u : Value} (h : Blk4 w b 80 x y z u) : (loadVar 80 ⟨b, 0, none⟩).run Tryz.prog w = .ok (.agg #[x, y, z, u]) w := by
  obtain ⟨h0, h1, h2, h3⟩ := h.cells
  clear h
  go_simp
/-- A trace is handed back, its inputs in memory of the call's own. -/
def TrPost (t : TrT) (w : World) (e : Ending) (w' : World) : Prop :=
  ∃ a c, e = .returned (trV (.slice a t.2.1.length c) t) ∧ w'.ownsRow w.heap.size 9 1 (.slice a t.2.1.length c) t.2.1.length (S t.2.1) ∧ Below w.heap.size w w'

set_option maxRecDepth 20000 in
set_option maxHeartbeats 4000000 in
theorem toTrace_any (t : TrT) (v : Value) (w : World) (hv : TrV w v t) (hz : t.2.1.length ≤ 2000000) :
    Calls Tryz.prog 47 #[v] w (TrPost t w) := by
  obtain ⟨t1, ins, x1, x2⟩ := t
  obtain ⟨a, c, rfl, hr⟩ := hv
  simp only at hr hz ⊢
  unfold trV
  simp only
  have H1 := Lib.hid hr
  obtain ⟨_, _, he, hc1, hc2, _⟩ := hr.texts
  injection he with ea _ ec
  subst ea ec
  unfold maxLen at hc2
  clear hr
  obtain ⟨wp, hwp⟩ : ∃ wp, wp = w.alloc (.cells #[.int .i64 t1, .slice a ins.length c, .string ⟨x1.toArray⟩, .int .i64 x2] 71) := ⟨_, rfl⟩
  obtain ⟨wq, hwq⟩ : ∃ wq, wq = wp.alloc (.cells #[.int .i64 0, .slice none 0 0, .string ⟨#[]⟩, .int .i64 0] 80) := ⟨_, rfl⟩
  obtain ⟨wb, hwb⟩ : ∃ wb, wb = wq.alloc (.cells #[.int .i64 t1, .slice none 0 0, .string ⟨#[]⟩, .int .i64 0] 80) := ⟨_, rfl⟩
  have ep : wp.heap.size = w.heap.size + 1 := by rw [hwp]; simp
  have eq : wq.heap.size = w.heap.size + 2 := by rw [hwq]; simp [ep]
  have eq' : wq.heap.size = w.heap.size + 1 + 1 := by omega
  have eb : wb.heap.size = w.heap.size + 3 := by rw [hwb]; simp [eq]
  have P1 : Hid (Blk4 wb w.heap.size 71 (.int .i64 t1) (.slice a ins.length c) (.string ⟨x1.toArray⟩) (.int .i64 x2)) := by
    rw [hwb, hwq, hwp]; exact (Blk4.new.old _).old _
  have R1 : Hid (Blk4 wb (w.heap.size + 1) 80 (.int .i64 0) (.slice none 0 0) (.string ⟨#[]⟩) (.int .i64 0)) := by
    rw [hwb, hwq, ← ep]; exact Blk4.new.old _
  have O1 : Hid (Blk4 wb (w.heap.size + 1 + 1) 80 (.int .i64 t1) (.slice none 0 0) (.string ⟨#[]⟩) (.int .i64 0)) := by
    rw [hwb, ← eq']; exact Blk4.new
  have HB : Hid (Below w.heap.size w wb) := by
    rw [hwb, hwq, hwp]; exact (((Below.refl w.heap.size w).alloc (Nat.le_refl _) _).alloc (by simp) _).alloc (by simp; omega) _
  have n1 : w.heap.size + 1 + 1 < wb.heap.size := by omega
  have n0 : w.heap.size ≤ w.heap.size + 1 + 1 := by omega
  have n2 : w.heap.size ≠ w.heap.size + 1 + 1 := by omega
  have n3 : w.heap.size + 1 ≠ w.heap.size + 1 + 1 := by omega
  have HWB : Hid (((w.alloc (.cells #[.int .i64 t1, .slice a ins.length c, .string ⟨x1.toArray⟩, .int .i64 x2] 71)).alloc (.cells #[.int .i64 0, .slice none 0 0, .string ⟨#[]⟩, .int .i64 0] 80)).alloc (.cells #[.int .i64 t1, .slice none 0 0, .string ⟨#[]⟩, .int .i64 0] 80) = wb) := by rw [hwb, hwq, hwp]; rfl
  have HC := Lib.hid (toStringS_any ins _ wb (H1.out.below HB.out) (by omega))
  clear hwq hwp hwb ep eq eq'
  go_enter Tryz.func47, Tryz.ntmps47
  go_wp2_with fail
  rw [HWB.out]
  refine HC.out.mono ?_
  rintro e w1 ⟨v1, rfl, ho1, hb1⟩
  obtain ⟨b1, d1, rfl⟩ := own_slice ho1
  have hs1 := hb1.size
  have P2 := P1.out.below hb1 (by omega)
  have R2 := Lib.hid (R1.out.below hb1 (by omega))
  have O2 := O1.out.below hb1 (by omega)
  have HB2 := Lib.hid (HB.out.trans (hb1.mono HB.out.size))
  have HO1 := Lib.hid ho1
  have c2 := P2.cells.2.2.1
  have c3 := P2.cells.2.2.2
  have o1 := O2.cells.2.1
  have f1 := O2.soft 1
  have O3 := Lib.hid (O2.set1 (.slice b1 ins.length d1))
  have P3 := Lib.hid (P2.other (p := ⟨w.heap.size + 1 + 1, 1, none⟩) n2 (.slice b1 ins.length d1))
  have R3 := Lib.hid (R2.out.other (p := ⟨w.heap.size + 1 + 1, 1, none⟩) n3 (.slice b1 ins.length d1))
  have HB3 := Lib.hid (HB2.out.setCell (p := ⟨w.heap.size + 1 + 1, 1, none⟩) n0 (.slice b1 ins.length d1))
  have HO3 := Lib.hid (own_setI HO1.out (p := ⟨w.heap.size + 1 + 1, 1, none⟩) n1 (.slice b1 ins.length d1))
  clear ho1 hb1 P2 O2 HB2 HO1 P1 R1 O1 HB HC R2
  have cc2 := P3.out.cells.2.2.1
  have cc3 := P3.out.cells.2.2.2
  have hs3 : wb.heap.size ≤ (w1.setCell ⟨w.heap.size + 1 + 1, 1, none⟩ (.slice b1 ins.length d1)).heap.size := by simp; omega
  go_wp2_with fail
  clear o1 f1 c2 c3 cc2 cc3
  generalize w1.setCell ⟨w.heap.size + 1 + 1, 1, none⟩ (.slice b1 ins.length d1) = y1 at *
  have HR := toResult_any (x1, x2) y1
  unfold resV at HR
  simp only at HR
  refine HR.mono ?_
  rintro e w3 ⟨rfl, hb3⟩
  have hs4 := hb3.size
  have R4 := Lib.hid (R3.out.below hb3 (by omega))
  have O4 := O3.out.below hb3 (by omega)
  have HB4 := Lib.hid (HB3.out.trans (hb3.mono HB3.out.size))
  have HO4 := Lib.hid (own_below HO3.out hb3)
  obtain ⟨p0, p1, p2, p3⟩ := O4.cells
  have g2 := O4.soft 2
  have g3 := O4.soft 3
  have O5 := Lib.hid ((O4.set2 (.string ⟨x1.toArray⟩)).set3 (.int .i64 x2))
  have R5 := Lib.hid ((R4.out.other (p := ⟨w.heap.size + 1 + 1, 2, none⟩) n3 (.string ⟨x1.toArray⟩)).other (p := ⟨w.heap.size + 1 + 1, 3, none⟩) n3 (.int .i64 x2))
  obtain ⟨k0, k1, k2, k3⟩ := R4.out.cells
  have z0 := R4.out.soft 0
  have z1 := R4.out.soft 1
  have z2 := R4.out.soft 2
  have z3 := R4.out.soft 3
  obtain ⟨q0, q1, q2, q3⟩ := O5.out.cells
  clear hb3 O4 HB3 HO3 R3 O3 P3 HR
  go_wp2_with fail
  have Z := (((R5.out.set0 (.int .i64 t1)).set1 (.slice b1 ins.length d1)).set2 (.string ⟨x1.toArray⟩)).set3 (.int .i64 x2)
  refine bodyPost_ret (results_cellP rfl rfl (load_trace Z)) rfl ?_
  have e1 : w.heap.size ≤ wb.heap.size := by omega
  have e2 : w.heap.size + 1 < wb.heap.size := by omega
  have e3 : w.heap.size ≤ w.heap.size + 1 := by omega
  refine ⟨b1, d1, rfl, ?_, ?_⟩
  · exact own_base (own_setI (own_setI (own_setI (own_setI (own_setI (own_setI HO4.out (p := ⟨w.heap.size + 1 + 1, 2, none⟩) n1 _) (p := ⟨w.heap.size + 1 + 1, 3, none⟩) n1 _) (p := ⟨w.heap.size + 1, 0, none⟩) e2 _) (p := ⟨w.heap.size + 1, 1, none⟩) e2 _) (p := ⟨w.heap.size + 1, 2, none⟩) e2 _) (p := ⟨w.heap.size + 1, 3, none⟩) e2 _) e1
  · exact (((((HB4.out.setCell (p := ⟨w.heap.size + 1 + 1, 2, none⟩) n0 _).setCell (p := ⟨w.heap.size + 1 + 1, 3, none⟩) n0 _).setCell (p := ⟨w.heap.size + 1, 0, none⟩) e3 _).setCell (p := ⟨w.heap.size + 1, 1, none⟩) e3 _).setCell (p := ⟨w.heap.size + 1, 2, none⟩) e3 _).setCell (p := ⟨w.heap.size + 1, 3, none⟩) e3 _
end Go.Proofs.YtgolhfmmlanmlaaGreatDoor

/- What the rows of chapter 9 share: how traces that came in read. -/
namespace Go.Proofs.YtgolhfmmlanmlaaGreatDoor
open Go.ChangeShapes Go.WideShapes Go.ChangeAt Go.RowKit Pth

/-- A struct of three fields, the last of two cells, the others of one. -/
theorem four_cells9 {H : Type} {enc : TypeId × Value → H} {P : Program} {w : World} {base : Nat} {spare : Nat → Bool} {held : Bool} {t : TypeId} {f0 f1 f2 : Field} {n : Nat} {cs : List Value} {x : DataW H × List MemPlace}
    (he : P.underlying t = some (.struct #[f0, f1, f2])) (o0 : f0.offset = 0) (o1 : f1.offset = 1) (o2 : f2.offset = 2) (k0 : P.cellsOf f0.type = 1) (k1 : P.cellsOf f1.type = 1) (k2 : P.cellsOf f2.type = 2)
    (h : DataW.trod enc P w base spare held n t cs = some x) (hl : cs.length = 4) :
    ∃ (c0 c1 c2 c3 : Value) (y0 y1 y2 : DataW H × List MemPlace) (k : Nat), cs = [c0, c1, c2, c3] ∧ DataW.trod enc P w base spare held k f0.type [c0] = some y0 ∧ DataW.trod enc P w base spare held k f1.type [c1] = some y1 ∧ DataW.trod enc P w base spare held k f2.type [c2, c3] = some y2 := by
  obtain ⟨xs, k, hk, hxy, _, hxl, hf⟩ := DataW.trod_struct he h
  match xs, hxl, cs, hl with
  | [y0, y1, y2], _, [c0, c1, c2, c3], _ =>
    have g0 := hf 0 f0 rfl
    have g1 := hf 1 f1 rfl
    have g2 := hf 2 f2 rfl
    simp [o0, o1, o2, k0, k1, k2] at g0 g1 g2
    exact ⟨c0, c1, c2, c3, y0, y1, y2, k, rfl, g0, g1, g2⟩
/-- The cells of a trace that came in. -/
theorem one_trace {H : Type} {enc : TypeId × Value → H} {W : World} {n : Nat} {cs : List Value} {x : DataW H × List MemPlace}
    (h : DataW.trod enc Tryz.prog W 0 (fun _ => true) true n 71 cs = some x) (hl : cs.length = 4) :
    ∃ (u : Value) (t : TrT), cs = trC u t ∧ RowV W u (S t.2.1) ∧ HeldT maxLen t := by
  obtain ⟨c0, c1, c2, c3, y0, y1, y2, k, rfl, h0, h1, h2⟩ := four_cells9 Tryz.underlying71 rfl rfl rfl (by kernel_rfl) (by kernel_rfl) (by kernel_rfl) h hl
  obtain ⟨n0, e0, _, _⟩ := DataW.trod_int Tryz.underlying3 h0
  obtain ⟨ins, hr, hx⟩ := texts_cells h1
  obtain ⟨z0, z1, k', g0, g1⟩ := two_cells Tryz.underlying69 rfl rfl (by kernel_rfl) (by kernel_rfl) h2
  obtain ⟨s2, e2, _, z2⟩ := DataW.trod_string Tryz.underlying9 g0
  obtain ⟨n3, e3, _, _⟩ := DataW.trod_int Tryz.underlying3 g1
  simp at e0 e2 e3
  subst e0 e2 e3
  exact ⟨c1, (n0, ins, (s2.data.toList, n3)), by simp [trC], hr, hx, by show s2.data.toList.length ≤ _; rw [Array.length_toList]; exact z2⟩

/-- A slice of traces that came in. -/
theorem traces_cells {H : Type} {enc : TypeId × Value → H} {W : World} {fuel : Nat} {v : Value} {x : DataW H × List MemPlace}
    (h : DataW.trod enc Tryz.prog W 0 (fun _ => true) true fuel 30 [v] = some x) : ∃ l : List TrT, RowT W v l ∧ ∀ t ∈ l, HeldT maxLen t := by
  rcases Deep.open_slice Tryz.underlying30 h with ⟨hcs, _⟩ | ⟨a, len, cap, m, n, D, Pl, hcs, hb, hl, hm, hmm, _, hx⟩
  · simp at hcs
    subst hcs
    exact ⟨[], ⟨[], rfl, ⟨none, 0, rfl, rfl, Nat.le_refl _, by unfold maxLen; omega, fun k hk => absurd hk (by simp [TC])⟩, fun k h1 h2 => absurd h2 (by simp)⟩, fun f hf => by simp at hf⟩
  · simp at hcs
    subst hcs
    simp only [if_true] at hmm
    have each : ∀ i, i < m → ∃ q : Value × TrT, (W.cell? ((a.add (i * 4)).add 0) = some (.int .i64 q.2.1) ∧ W.cell? ((a.add (i * 4)).add 1) = some q.1 ∧ W.cell? ((a.add (i * 4)).add 2) = some (.string ⟨q.2.2.2.1.toArray⟩) ∧ W.cell? ((a.add (i * 4)).add 3) = some (.int .i64 q.2.2.2.2)) ∧ RowV W q.1 (S q.2.2.1) ∧ HeldT maxLen q.2 := by
      intro i hi
      obtain ⟨cs', h1, h2⟩ := hx i hi
      rw [show Tryz.prog.cellsOf 71 = 4 by kernel_rfl] at h1
      obtain ⟨_, hlen, hcell⟩ := World.cells?_some h1
      obtain ⟨u, t, rfl, hr, hht⟩ := one_trace h2 hlen
      have q0 := hcell 0 (by simp)
      have q1 := hcell 1 (by simp)
      have q2 := hcell 2 (by simp)
      have q3 := hcell 3 (by simp)
      exact ⟨(u, t), ⟨by simpa [trC] using q0, by simpa [trC] using q1, by simpa [trC] using q2, by simpa [trC] using q3⟩, hr, hht⟩
    obtain ⟨q, hq⟩ := Deep.choose_lt each
    have hlen : ((List.range len).map fun i => (q i).2).length = len := by simp
    have hlen1 : ((List.range len).map fun i => (q i).1).length = len := by simp
    have hs : ((List.range len).map fun i => (q i).1).length = ((List.range len).map fun i => (q i).2).length := by rw [hlen, hlen1]
    refine ⟨(List.range len).map fun i => (q i).2, ⟨(List.range len).map fun i => (q i).1, hs, ⟨some a, cap, by rw [hlen], by rw [TC_len hs], by rw [hlen]; exact hl, hm, fun k hk => ?_⟩, fun k h1 h2 => ?_⟩, fun t ht => ?_⟩
    · rw [TC_len hs, hlen] at hk
      obtain ⟨b, off, spot⟩ := a
      have h0 := (hq 0 (by omega)).1.1
      have hspot : spot = none := by simpa [Addr.add] using World.cell?_spot h0
      subst hspot
      have hi : k / 4 < len := by omega
      have hqi := (hq (k / 4) (by omega)).1
      rw [add_addr, add_addr, add_addr, add_addr, add_addr] at hqi
      refine ⟨b, off, rfl, World.block_lt_of_cell? _ _ hqi.1, ?_⟩
      have hat := TC_at hs (k := k / 4) (by rw [hlen]; exact hi)
      simp only [List.getElem_map, List.getElem_range] at hat
      have hkl : k < (TC ((List.range len).map fun i => (q i).1) ((List.range len).map fun i => (q i).2)).length := by rw [TC_len hs, hlen]; exact hk
      have hgk : (TC ((List.range len).map fun i => (q i).1) ((List.range len).map fun i => (q i).2))[k]? = some (TC ((List.range len).map fun i => (q i).1) ((List.range len).map fun i => (q i).2))[k] := List.getElem?_eq_getElem hkl
      rw [← hgk]
      have hm4 : k % 4 = 0 ∨ k % 4 = 1 ∨ k % 4 = 2 ∨ k % 4 = 3 := by omega
      rcases hm4 with e | e | e | e
      · have ek : k = k / 4 * 4 := by omega
        have h1 := hat.1
        rw [← ek] at h1
        rw [h1, ← hqi.1]
        congr 2
        omega
      · have ek : k = k / 4 * 4 + 1 := by omega
        have h1 := hat.2.1
        rw [← ek] at h1
        rw [h1, ← hqi.2.1]
        congr 2
        omega
      · have ek : k = k / 4 * 4 + 2 := by omega
        have h1 := hat.2.2.1
        rw [← ek] at h1
        rw [h1, ← hqi.2.2.1]
        congr 2
        omega
      · have ek : k = k / 4 * 4 + 3 := by omega
        have h1 := hat.2.2.2
        rw [← ek] at h1
        rw [h1, ← hqi.2.2.2]
        congr 2
        omega
    · have := (hq k (by rw [hlen1] at h1; omega)).2.1
      simpa using this
    · obtain ⟨i, hi, rfl⟩ := List.mem_map.1 ht
      exact (hq i (by have := List.mem_range.1 hi; omega)).2.2
theorem traces_in {H : Type} {enc : TypeId × Value → H} {W : World} {a : Option Addr} {len cap : Nat} {d : DataW H} {p : List MemPlace}
    (h : DataW.Trod enc Tryz.prog W 0 (fun _ => true) true 30 (.slice a len cap) d p) : ∃ l : List TrT, RowT W (.slice a len cap) l ∧ ∀ t ∈ l, HeldT maxLen t := by
  obtain ⟨fuel, hf⟩ := h
  exact traces_cells (by simpa [Value.cells] using hf)
set_option maxRecDepth 100000 in
/-- A trace that came in. -/
theorem trace_in {H : Type} {enc : TypeId × Value → H} {W : World} {base : Nat} {v : Value} {d : DataW H} {p : List MemPlace} (hv : Value.okWide Tryz.prog W .any base 71 v)
    (h : DataW.Trod enc Tryz.prog W 0 (fun _ => true) true 71 v d p) : ∃ t : TrT, TrV W v t ∧ HeldT maxLen t := by
  obtain ⟨cs, rfl, hsz⟩ := okWide_struct Tryz.underlying71 hv
  obtain ⟨c0, c1, c2, c3, rfl⟩ := Joins.array4 (hsz.trans (by kernel_rfl))
  obtain ⟨fuel, hf⟩ := h
  obtain ⟨u, t, he, hr, hx⟩ := one_trace (cs := [c0, c1, c2, c3]) (by simpa [Value.cells] using hf) rfl
  obtain ⟨a, c, rfl, _⟩ := hr.texts
  simp only [trC, List.cons.injEq, and_true] at he
  obtain ⟨rfl, rfl, rfl, rfl⟩ := he
  exact ⟨t, ⟨a, c, rfl, hr⟩, hx⟩
end Go.Proofs.YtgolhfmmlanmlaaGreatDoor

/- Walks: whether texts are too long, of both; with few texts beneath. -/
namespace Go.Proofs.YtgolhfmmlanmlaaGreatDoor
open Go.RowKit Pth

theorem long_any9 (l : List UInt8) (w : World) (_hl : l.length ≤ maxLen) : Calls Tryz.prog 82 #[.string ⟨l.toArray⟩] w fun e w' => e = .returned (.bool (decide (40 < l.length))) ∧ w' = w := by
  go_enter Tryz.func82, Tryz.ntmps82
  go_wp2
  go_ret
  refine ⟨?_, rfl⟩
  congr 2
  simp
  omega
theorem all_long9 {l : List (List UInt8)} {k : Nat} (h : k < l.length) (hx : 40 < l[k].length) : l.all (fun x => decide (x.length ≤ 40)) = false := by
  rw [List.all_eq_false]
  exact ⟨l[k], List.getElem_mem h, by simp; omega⟩
theorem take_next9 {l : List (List UInt8)} {k : Nat} (h : k < l.length) (ha : ∀ x ∈ l.take k, x.length ≤ 40) (hx : l[k].length ≤ 40) : ∀ x ∈ l.take (k + 1), x.length ≤ 40 := by
  intro x hm
  rw [List.take_succ_eq_append_getElem h, List.mem_append, List.mem_singleton] at hm
  rcases hm with h | h
  · exact ha x h
  · rw [h]; exact hx

set_option maxHeartbeats 1000000 in
theorem texts_any9 (l : List (List UInt8)) (v : Value) (w : World) (hrow : RowV w v (S l)) (hx : ∀ x ∈ l, x.length ≤ maxLen) :
    Calls Tryz.prog 130 #[v] w fun e w' => e = .returned (.bool (textsL l)) ∧ w = w' := by
  obtain ⟨a, cap, rfl, hc1, hc2, hat⟩ := hrow.texts
  clear hrow
  unfold maxLen at hc2 hx
  go_enter Tryz.func130, Tryz.ntmps130
  go_wp2_with fail
  go_loop [7] (fun i => ∃ k : Nat, k ≤ l.length ∧ i = .int .i64 k ∧ Hid (∀ x ∈ l.take k, x.length ≤ 40)) (fun i => l.length - (intOf i).toNat)
  case atStart => exact ⟨0, Nat.zero_le _, by go_num, by simp [Hid]⟩
  case round =>
    obtain ⟨k, hk, rfl, HO⟩ := hrel
    by_cases hlt : k < l.length
    · obtain ⟨g, o, rfl, hg, hcell⟩ := hat k hlt
      have hxl := hx l[k] (List.getElem_mem hlt)
      by_cases hy : (l[k]).length ≤ 40
      · have HS := Lib.hid (take_next9 hlt HO.out hy)
        generalize l[k] = x at hcell hxl hy
        have hyz : ¬ ((40 : Int) < (x.length : Int)) := by omega
        clear hat HO hx
        go_wp2_with fail
        go_round
        case rel => exact ⟨k + 1, by omega, by go_num, HS⟩
        case measure => simp [intOf]; omega
      · have HS := Lib.hid (all_long9 hlt (by omega))
        generalize l[k] = x at hcell hxl hy
        have hyz : ((40 : Int) < (x.length : Int)) := by omega
        clear hat HO hx
        go_wp2_with fail
        go_ret
        exact ⟨by rw [textsL, HS.out]; rfl, rfl⟩
    · have HS : Hid (l.all (fun x => decide (x.length ≤ 40)) = true) := by
        rw [Hid, List.all_eq_true]
        intro x hm
        have := HO.out x (by rw [List.take_of_length_le (by omega)]; exact hm)
        simpa using this
      have hltz : ¬ ((k : Int) < (l.length : Int)) := by omega
      clear hat HO hx
      go_wp2_with fail
      go_ret
      refine ⟨?_, rfl⟩
      rw [textsL, HS.out, Bool.true_and]
      show Ending.returned (.bool (decide ((l.length : Int) ≤ 10))) = _
      congr 2
      simp only [decide_eq_decide]
      omega

/-- Whether one is too long. -/
def longL9 (l : List (List UInt8)) : Bool := l.any (fun x => decide (40 < x.length))
theorem long_at9 {l : List (List UInt8)} {k : Nat} (h : k < l.length) (hx : 40 < l[k].length) : longL9 l = true := by
  rw [longL9, List.any_eq_true]
  exact ⟨l[k], List.getElem_mem h, by simpa using hx⟩
theorem long_none9 {l : List (List UInt8)} (h : ∀ x ∈ l, x.length ≤ 40) : longL9 l = false := by
  rw [longL9, List.any_eq_false]
  intro x hm
  have := h x hm
  simp; omega
/-- A place, or -1 where there is none. -/
def PlacePostO9 (b : Bool) (w : World) (e : Ending) (w' : World) : Prop := ∃ i : Int, e = .returned (.int .i64 i) ∧ (0 ≤ i ↔ b = true) ∧ w' = w

set_option maxRecDepth 20000 in
set_option maxHeartbeats 1000000 in
theorem index_anyO9 (l : List (List UInt8)) (v : Value) (w : World) (hrow : RowV w v (S l)) (hx : ∀ x ∈ l, x.length ≤ maxLen) :
    Calls Tryz.prog 155 #[v, .func (.func 82) #[] #[]] w (PlacePostO9 (longL9 l) w) := by
  obtain ⟨a, cap, rfl, hc1, hc2, hat⟩ := hrow.texts
  clear hrow
  have HL : Hid (∀ x ∈ l, ∀ W, Calls Tryz.prog 82 #[.string ⟨x.toArray⟩] W fun e w' => e = .returned (.bool (decide (40 < x.length))) ∧ w' = W) := fun x hm W => long_any9 x W (hx x hm)
  clear hx
  unfold maxLen at hc2
  go_enter Tryz.func155, Tryz.ntmps155
  go_wp2_with fail
  go_loop [8] (fun i => ∃ k : Nat, k ≤ l.length ∧ i = .int .i64 k ∧ Hid (∀ x ∈ l.take k, x.length ≤ 40)) (fun i => l.length - (intOf i).toNat)
  case atStart => exact ⟨0, Nat.zero_le _, by go_num, by simp [Hid]⟩
  case round =>
    obtain ⟨k, hk, rfl, HO⟩ := hrel
    by_cases hlt : k < l.length
    · obtain ⟨g, o, rfl, hg, hcell⟩ := hat k hlt
      have HC := Lib.hid (HL.out l[k] (List.getElem_mem hlt) w)
      have hltz : (k : Int) < (l.length : Int) := by omega
      by_cases hy : (l[k]).length ≤ 40
      · have HS := Lib.hid (take_next9 hlt HO.out hy)
        rw [show decide (40 < (l[k]).length) = false from decide_eq_false (by omega)] at HC
        generalize l[k] = x at hcell hy HC
        clear hat HO HL
        go_wp2_with (go_at_call 82; refine HC.out.mono ?_; rintro e w1 ⟨rfl, rfl⟩)
        go_round
        case rel => exact ⟨k + 1, by omega, by go_num, HS⟩
        case measure => simp [intOf]; omega
      · have HS := Lib.hid (long_at9 hlt (by omega))
        rw [show decide (40 < (l[k]).length) = true from decide_eq_true (by omega)] at HC
        generalize l[k] = x at hcell hy HC
        clear hat HO HL
        go_wp2_with (go_at_call 82; refine HC.out.mono ?_; rintro e w1 ⟨rfl, rfl⟩)
        go_ret
        exact ⟨(k : Int), rfl, by rw [HS.out]; simp, rfl⟩
    · have HS := Lib.hid (long_none9 (l := l) (fun x hm => HO.out x (by rw [List.take_of_length_le (by omega)]; exact hm)))
      have hltz : ¬ ((k : Int) < (l.length : Int)) := by omega
      clear hat HO HL
      go_wp2_with fail
      go_ret
      exact ⟨-1, rfl, by rw [HS.out]; simp, rfl⟩

set_option maxRecDepth 20000 in
set_option maxHeartbeats 1000000 in
theorem contains_anyO9 (l : List (List UInt8)) (v : Value) (w : World) (hrow : RowV w v (S l)) (hx : ∀ x ∈ l, x.length ≤ maxLen) :
    Calls Tryz.prog 138 #[v, .func (.func 82) #[] #[]] w fun e w' => e = .returned (.bool (longL9 l)) ∧ w' = w := by
  have HC := Lib.hid (index_anyO9 l v w hrow hx)
  clear hrow hx
  go_enter Tryz.func138, Tryz.ntmps138
  go_wp2_with fail
  refine HC.out.mono ?_
  rintro e w1 ⟨i, rfl, hi, rfl⟩
  have HI := Lib.hid hi
  clear hi HC
  go_wp2_with fail
  go_ret
  refine ⟨?_, rfl⟩
  show Ending.returned (.bool (decide (0 ≤ i))) = _
  congr 2
  rw [Bool.eq_iff_iff, decide_eq_true_eq]
  exact HI.out

end Go.Proofs.YtgolhfmmlanmlaaGreatDoor

/- Walks: what blocks a task, as it is told, of the reference and of the program. -/
namespace Go.Proofs.YtgolhfmmlanmlaaGreatDoor
open Go.RowKit Pth

theorem in_no {ls : List (List Int)} {l : List Int} {bs : List Bool} {rs : List (List OpT)} {m : List ResT} {t : Int} (h : bothA ls l bs rs m = false) : inA ls l bs rs m t = false := by unfold inA; rw [h]; rfl
theorem in_yes {ls : List (List Int)} {l : List Int} {bs : List Bool} {rs : List (List OpT)} {m : List ResT} {t : Int} (h : bothA ls l bs rs m = true) : inA ls l bs rs m t = (decide (0 ≤ t) && decide (t < (bs.length : Int))) := by unfold inA; rw [h]; rfl
theorem block_no {ls : List (List Int)} {l : List Int} {bs : List Bool} {rs : List (List OpT)} {m : List ResT} {t : Int} (h : inA ls l bs rs m t = false) : blockA ls l bs rs m t = (0, false) := by unfold blockA; rw [h]; rfl
theorem block_un {ls : List (List Int)} {l : List Int} {bs : List Bool} {rs : List (List OpT)} {m : List ResT} {t : Int} (h : (resAt m t).2 ≠ 2) : blockA ls l bs rs m t = (0, false) := by unfold blockA; rw [decide_eq_false h]; simp
theorem block_yes {ls : List (List Int)} {l : List Int} {bs : List Bool} {rs : List (List OpT)} {m : List ResT} {j : Nat} (h : inA ls l bs rs m (j : Int) = true) (h2 : (resAt m (j : Int)).2 = 2) (hj : j < ls.length) : blockA ls l bs rs m (j : Int) = firstL m ls[j] := by
  unfold blockA; rw [h, decide_eq_true h2, needsAt_get hj]; rfl
theorem ins_no {ls : List (List Int)} {l : List Int} {bs : List Bool} {rs : List (List OpT)} {m : List ResT} {t : Int} (h : inA ls l bs rs m t = false) : insA ls l bs rs m t = [] := by unfold insA; rw [h]; rfl
theorem ins_yes {ls : List (List Int)} {l : List Int} {bs : List Bool} {rs : List (List OpT)} {m : List ResT} {j : Nat} (h : inA ls l bs rs m (j : Int) = true) (hj : j < ls.length) : insA ls l bs rs m (j : Int) = bodiesL m ls[j] := by
  unfold insA; rw [h, needsAt_get hj]; rfl

set_option maxRecDepth 20000 in
set_option maxHeartbeats 1000000 in
theorem l7Task_b {ls : List (List Int)} {l : List Int} {bs : List Bool} {rs : List (List OpT)} {t : Int} {b : Bool} (h : (decide (0 ≤ t) && decide (t < (bs.length : Int))) = b) (v : Value) (w : World) (hp : PlanV w v ls l bs rs) :
    Calls Tryz.prog 129 #[v, .int .i64 t] w (BoolPost b w) := by
  obtain ⟨nv, ov, sv, rv, rfl, h1, h2, h3, h4⟩ := hp
  obtain ⟨as0, cs, rfl, hs1, hs2, _⟩ := h3.boolsW
  obtain ⟨an, cn, rfl, hn1, hn2, _⟩ := h1.lists
  obtain ⟨ao, co, rfl, ho1, ho2, _⟩ := h2.ints
  obtain ⟨ar, cr, rfl, hr1, hr2, _⟩ := h4.lists
  clear h1 h2 h3 h4
  unfold maxLen at hs2 hn2 ho2 hr2
  have HC := Lib.hid (fun W => l1In_task (w := W) h)
  have HB := Lib.hid ((Below.refl w.heap.size w).alloc (Nat.le_refl _) (.cells #[.slice an ls.length cn, .slice ao l.length co, .slice as0 bs.length cs, .slice ar rs.length cr] 42))
  clear h
  go_enter Tryz.func129, Tryz.ntmps129
  go_wp2_with fail
  refine (HC.out _).mono ?_
  rintro e w1 ⟨rfl, rfl⟩
  go_wp2_with fail
  go_ret
  exact ⟨rfl, HB.out⟩

end Go.Proofs.YtgolhfmmlanmlaaGreatDoor

/- Walks: the reference on one trace: its inputs, where it lies, whether it is one. -/
namespace Go.Proofs.YtgolhfmmlanmlaaGreatDoor
open Go.RowKit Pth

set_option maxRecDepth 20000 in
set_option maxHeartbeats 8000000 in
theorem specIns9_b (ls : List (List Int)) (l : List Int) (bs : List Bool) (rs : List (List OpT)) (t : Int) (ins : List (List UInt8)) {b : Bool} (hb : insOk ls bs t ins = b) (v x : Value) (w : World) (hp : PlanV w v ls l bs rs) (hr : RowV w x (S ins)) (hpl : planA ls l bs rs = true) (hx : ∀ y ∈ ins, y.length ≤ maxLen) :
    Calls Tryz.prog 104 #[v, .int .i64 t, x] w (BoolPost b w) := by
  have hbl := (plan_parts hpl).2.1
  have HV := Lib.hid hp
  obtain ⟨nv, ov, sv, rv, rfl, h1, h2, h3, h4⟩ := hp
  obtain ⟨as0, cs, rfl, hs1, hs2, hats⟩ := h3.boolsW
  obtain ⟨an, cn, rfl, hn1, hn2, hatn⟩ := h1.lists
  obtain ⟨ao, co, rfl, ho1, ho2, hato⟩ := h2.ints
  obtain ⟨ar, cr, rfl, hr1, hr2, hatr⟩ := h4.lists
  clear h1 h2 h3 h4
  unfold maxLen at hs2 hn2 ho2 hr2
  obtain ⟨wa, hwa⟩ : ∃ wa, wa = w.alloc (.cells #[.slice an ls.length cn, .slice ao l.length co, .slice as0 bs.length cs, .slice ar rs.length cr] 42) := ⟨_, rfl⟩
  have hsz : w.heap.size < wa.heap.size := by rw [hwa]; simp
  have P0 : Hid (Blk4 wa w.heap.size 42 (.slice an ls.length cn) (.slice ao l.length co) (.slice as0 bs.length cs) (.slice ar rs.length cr)) := by rw [hwa]; exact Blk4.new
  have HA : Hid (Below w.heap.size w wa) := by rw [hwa]; exact (Below.refl w.heap.size w).alloc (Nat.le_refl _) _
  have HWA : Hid (w.alloc (.cells #[.slice an ls.length cn, .slice ao l.length co, .slice as0 bs.length cs, .slice ar rs.length cr] 42) = wa) := by rw [hwa]; rfl
  have HVW : Hid (∀ W, Below wa.heap.size wa W → PlanV W (.agg #[.slice an ls.length cn, .slice ao l.length co, .slice as0 bs.length cs, .slice ar rs.length cr]) ls l bs rs) := fun W h => HV.out.below (bth HA.out h (Nat.le_refl _))
  clear hwa
  have HT := Lib.hid (fun W (h : Below wa.heap.size wa W) => texts_any9 ins x W (hr.below (bth HA.out h (Nat.le_refl _))) hx)
  obtain ⟨ai, ci, rfl, hi1, hi2, _⟩ := hr.texts
  unfold maxLen at hi2
  have HB := Lib.hid hb
  obtain ⟨c0, c1, c2, c3⟩ := P0.out.cells
  obtain ⟨d, hd⟩ : ∃ d, (decide (0 ≤ t) && decide (t < (bs.length : Int))) = d := ⟨_, rfl⟩
  have HCT := Lib.hid (l7Task_b hd _ wa (HVW.out wa (Below.refl _ _)))
  have HATS := Lib.hid hats
  have HATN := Lib.hid hatn
  clear hr hx hb hats hatn hato hatr
  rcases d with _ | _
  · have HE : Hid (b = false) := by
      rw [← HB.out]; show _ = _
      unfold insOk
      rw [hbl] at hd
      rw [hd]; simp
    clear hd HB hbl hpl
    go_enter Tryz.func104, Tryz.ntmps104
    go_wp2_with fail
    rw [HWA.out]
    refine HCT.out.mono ?_
    rintro e w1 ⟨rfl, hb1⟩
    have HB1 := Lib.hid (bth HA.out hb1 (Nat.le_refl _))
    clear hb1 c0 c1 c2 c3
    go_wp2_with fail
    go_ret
    exact ⟨by rw [HE.out] <;> rfl, HB1.out⟩
  obtain ⟨j, hj⟩ : ∃ j : Nat, t = j := ⟨t.toNat, by simp only [Bool.and_eq_true, decide_eq_true_eq] at hd; omega⟩
  subst hj
  have hjb : j < bs.length := by simp only [Bool.and_eq_true, decide_eq_true_eq] at hd; omega
  have hjl : j < ls.length := by omega
  have HE : Hid (b = (!bs[j] && (decide (ins.length = ls[j].length) && textsL ins))) := by
    rw [← HB.out]; show _ = _
    unfold insOk
    rw [Int.toNat_natCast, getD_at _ hjb, getD_at _ hjl, ← hbl, hd, Bool.true_and, Bool.and_assoc]
  obtain ⟨gs, os, rfl, hgs, hcs⟩ := HATS.out j hjb
  have hsc := (HA.out.cell (p := ⟨gs, os + j, none⟩) hgs).trans hcs
  have hjz : (j : Int) < (bs.length : Int) := by omega
  have hjn : (j : Int) < (ls.length : Int) := by omega
  obtain ⟨gn, on, a2, c2', rfl, hgn, hcn, hrn⟩ := HATN.out j hjl
  have hnc := (HA.out.cell (p := ⟨gn, on + j, none⟩) hgn).trans hcn
  have hgsa : gs < wa.heap.size := by omega
  have hgna : gn < wa.heap.size := by omega
  clear hd HB hcs hcn hrn HATS HATN hbl hpl
  generalize bs[j] = s at *
  generalize hnl : ls[j].length = nl at *
  rcases s with _ | _
  · by_cases hl : ins.length = nl
    · have hl1 : ((ins.length : Int) == (nl : Int)) = true := by simp [hl]
      have HE2 : Hid (b = textsL ins) := by rw [HE.out, decide_eq_true hl]; rfl
      clear HE hl
      generalize textsL ins = tb at *
      go_enter Tryz.func104, Tryz.ntmps104
      go_wp2_with fail
      rw [HWA.out]
      refine HCT.out.mono ?_
      rintro e w1 ⟨rfl, hb1⟩
      have K1 := Lib.hid hb1
      have s1 := (hb1.cell (p := ⟨gs, os + j, none⟩) hgsa).trans hsc
      have s2 := (hb1.cell (p := ⟨gn, on + j, none⟩) hgna).trans hnc
      clear hb1 c0 c1 c2 c3 hsc hnc
      obtain ⟨c0, c1, c2, c3⟩ := (P0.out.below K1.out hsz).cells
      go_wp2_with fail
      refine (HT.out w1 K1.out).mono ?_
      rintro e w2 ⟨rfl, rfl⟩
      go_wp2_with fail
      go_ret
      exact ⟨by rw [HE2.out] <;> rfl, bth HA.out K1.out (Nat.le_refl _)⟩
    · have hl1 : ((ins.length : Int) == (nl : Int)) = false := by simp; omega
      have HE2 : Hid (b = false) := by rw [HE.out, decide_eq_false hl]; rfl
      clear HE hl HT
      go_enter Tryz.func104, Tryz.ntmps104
      go_wp2_with fail
      rw [HWA.out]
      refine HCT.out.mono ?_
      rintro e w1 ⟨rfl, hb1⟩
      have K1 := Lib.hid hb1
      have s1 := (hb1.cell (p := ⟨gs, os + j, none⟩) hgsa).trans hsc
      have s2 := (hb1.cell (p := ⟨gn, on + j, none⟩) hgna).trans hnc
      clear hb1 c0 c1 c2 c3 hsc hnc
      obtain ⟨c0, c1, c2, c3⟩ := (P0.out.below K1.out hsz).cells
      go_wp2_with fail
      go_ret
      exact ⟨by rw [HE2.out] <;> rfl, bth HA.out K1.out (Nat.le_refl _)⟩
  · have HE2 : Hid (b = false) := by rw [HE.out]; rfl
    clear HE HT
    go_enter Tryz.func104, Tryz.ntmps104
    go_wp2_with fail
    rw [HWA.out]
    refine HCT.out.mono ?_
    rintro e w1 ⟨rfl, hb1⟩
    have K1 := Lib.hid hb1
    have s1 := (hb1.cell (p := ⟨gs, os + j, none⟩) hgsa).trans hsc
    clear hb1 c0 c1 c2 c3 hsc hnc
    obtain ⟨c0, c1, c2, c3⟩ := (P0.out.below K1.out hsz).cells
    go_wp2_with fail
    go_ret
    exact ⟨by rw [HE2.out] <;> rfl, bth HA.out K1.out (Nat.le_refl _)⟩

set_option maxRecDepth 20000 in
set_option maxHeartbeats 8000000 in
theorem specSame9_b {l m : List (List UInt8)} {b : Bool} (h : decide (l = m) = b) (v u : Value) (w : World) (hr1 : RowV w v (S l)) (hr2 : RowV w u (S m)) :
    Calls Tryz.prog 75 #[v, u] w (BoolPost b w) := by
  obtain ⟨a, cap, rfl, hc1, hc2, hat⟩ := hr1.texts
  obtain ⟨a2, cap2, rfl, hc3, hc4, hat2⟩ := hr2.texts
  clear hr1 hr2
  unfold maxLen at hc2 hc4
  have HAT := Lib.hid hat
  have HAT2 := Lib.hid hat2
  have HE : Hid (b = decide (l = m)) := h.symm
  clear hat hat2 h
  by_cases hlen : l.length = m.length
  · have hlen1 : ((l.length : Int) != (m.length : Int)) = false := by simp [hlen]
    have hle1 : l.length ≤ m.length := by omega
    have hle2 : m.length ≤ l.length := by omega
    clear hlen
    go_enter Tryz.func75, Tryz.ntmps75
    go_wp2_with fail
    go_loopw [13] (fun i wr => ∃ k : Nat, k ≤ l.length ∧ i = .int .i64 k ∧ Hid (l.take k = m.take k) ∧ Hid (Below w.heap.size w wr)) (fun i _ => l.length - (intOf i).toNat)
    case atStart => exact ⟨0, Nat.zero_le _, rfl, rfl, Below.refl _ _⟩
    case round =>
      obtain ⟨k, hk, rfl, HO, HB⟩ := hrel
      by_cases hlt : k < l.length
      · obtain ⟨g, o, rfl, hg, hcell0⟩ := HAT.out k hlt
        obtain ⟨g2, o2, rfl, hg2, hcell02⟩ := HAT2.out k (by omega)
        have s0 := (HB.out.cell (p := ⟨g, o + k, none⟩) hg).trans hcell0
        have t0 := (HB.out.cell (p := ⟨g2, o2 + k, none⟩) hg2).trans hcell02
        have hi1 : (k : Int) < (l.length : Int) := by omega
        have hi2 : (k : Int) < (m.length : Int) := by omega
        clear hcell0 hcell02
        by_cases he : l[k] = m[k]
        · have HS := Lib.hid (same_next HO.out hlt (by omega) he)
          have he1 : (l[k] != m[k]) = false := by simp [he]
          have he2 : (l[k] == m[k]) = true := by simp [he]
          generalize l[k] = x at s0 he1 he he2
          generalize m[k] = y at t0 he1 he he2
          clear HO
          go_wp2_with fail
          go_quiet (fail)
          go_wp2_with fail
          go_roundw
          case rel => exact ⟨k + 1, by omega, by go_num, HS, below_drewN HB.out _⟩
          case measure => simp [intOf]; omega
        · have HS : Hid (decide (l = m) = false) := decide_eq_false (same_not hlt (by omega) he)
          have he1 : (l[k] != m[k]) = true := by simp [he]
          have he2 : (l[k] == m[k]) = false := by simp [he]
          generalize l[k] = x at s0 he1 he he2
          generalize m[k] = y at t0 he1 he he2
          clear HO
          go_wp2_with fail
          go_quiet (fail)
          go_wp2_with fail
          go_ret
          exact ⟨ret_bool (by rw [HE.out, HS.out]), below_drewN HB.out _⟩
      · have HS : Hid (decide (l = m) = true) := decide_eq_true (same_all HO.out (by omega) (by omega))
        have hi1 : ¬ ((k : Int) < (l.length : Int)) := by omega
        clear HO HAT HAT2
        go_wp2_with fail
        go_ret
        exact ⟨ret_bool (by rw [HE.out, HS.out]), HB.out⟩
  · have hlen1 : ((l.length : Int) != (m.length : Int)) = true := by simp; omega
    have HS : Hid (decide (l = m) = false) := decide_eq_false (fun h => hlen (by rw [h]))
    clear HAT HAT2
    go_enter Tryz.func75, Tryz.ntmps75
    go_wp2_with fail
    go_ret
    exact ⟨ret_bool (by rw [HE.out, HS.out]), Below.refl _ _⟩

set_option maxRecDepth 20000 in
set_option maxHeartbeats 8000000 in
theorem specFind_any (T : List TrT) (t : Int) (ins : List (List UInt8)) (v x : Value) (w : World) (hT : RowT w v T) (hr : RowV w x (S ins)) :
    Calls Tryz.prog 42 #[v, .int .i64 t, x] w fun e w' => e = .returned (.int .i64 (findK T t ins)) ∧ Below w.heap.size w w' := by
  obtain ⟨a, cap, rfl, hc1, hc2, hat⟩ := hT.traces
  have HR := Lib.hid hr
  obtain ⟨ai, ci, rfl, hi1, hi2, _⟩ := hr.texts
  clear hT hr
  unfold maxLen at hc2 hi2
  have HAT := Lib.hid hat
  clear hat
  obtain ⟨R, hR⟩ : ∃ R, findK T t ins = R := ⟨_, rfl⟩
  have HRK : Hid (∀ k, findT T t ins = some k → R = (k : Int)) := fun k h => by rw [← hR]; unfold findK; rw [h]
  have HRN : Hid (findT T t ins = none → R = -1) := fun h => by rw [← hR]; unfold findK; rw [h]
  rw [hR]
  clear hR
  go_enter Tryz.func42, Tryz.ntmps42
  go_wp2_with fail
  go_loopw [11] (fun i wr => ∃ k : Nat, k ≤ T.length ∧ i = .int .i64 k ∧ Hid ((T.take k).any (isT t ins) = false) ∧ Hid (Below w.heap.size w wr)) (fun i _ => T.length - (intOf i).toNat)
  case atStart => exact ⟨0, Nat.zero_le _, rfl, by simp [Hid], Below.refl _ _⟩
  case round =>
    obtain ⟨k, hk, rfl, HO, HB⟩ := hrel
    by_cases hlt : k < T.length
    · obtain ⟨g, o, a2, c2, rfl, hg, ⟨k0, k1, k2, k3⟩, hrk⟩ := HAT.out k hlt
      have s0 := (HB.out.cell (p := ⟨g, o + k * 4, none⟩) hg).trans k0
      have s1 := (HB.out.cell (p := ⟨g, o + k * 4 + 1, none⟩) hg).trans k1
      have s2 := (HB.out.cell (p := ⟨g, o + k * 4 + 2, none⟩) hg).trans k2
      have s3 := (HB.out.cell (p := ⟨g, o + k * 4 + 3, none⟩) hg).trans k3
      have hltz : (k : Int) < (T.length : Int) := by omega
      have HN : Hid (isT t ins T[k] = false → ((T.take (k + 1)).any (isT t ins)) = false) := fun h => find_next hlt HO.out h
      have HF : Hid (isT t ins T[k] = true → findT T t ins = some k) := fun h => find_here hlt HO.out h
      have HIS : Hid (isT t ins T[k] = (decide (T[k].1 = t) && decide (T[k].2.1 = ins))) := rfl
      have HRR := Lib.hid hrk
      have hgw : g < wr.heap.size := by have := HB.out.size; omega
      clear k0 k1 k2 k3 hrk HO HAT
      generalize isT t ins T[k] = q at *
      generalize T[k] = z at *
      obtain ⟨z1, zi, z2, z3⟩ := z
      simp only at s0 s1 s2 s3 HIS HRR
      obtain ⟨wx, hwx⟩ : ∃ wx, wx = wr.alloc (.cells #[.int .i64 z1, .slice a2 zi.length c2, .string ⟨z2.toArray⟩, .int .i64 z3] 80) := ⟨_, rfl⟩
      have HXB : Hid (Below wr.heap.size wr wx) := by rw [hwx]; exact (Below.refl wr.heap.size wr).alloc (Nat.le_refl _) _
      have HWX : Hid (wr.alloc (.cells #[.int .i64 z1, .slice a2 zi.length c2, .string ⟨z2.toArray⟩, .int .i64 z3] 80) = wx) := by rw [hwx]; rfl
      obtain ⟨bi, hbi⟩ : ∃ bi, decide (zi = ins) = bi := ⟨_, rfl⟩
      have HW := Lib.hid (bth HB.out HXB.out (Nat.le_refl _))
      have HC := Lib.hid (specSame9_b hbi (.slice a2 zi.length c2) (.slice ai ins.length ci) wx (HRR.out.below HW.out) (HR.out.below HW.out))
      rw [hbi] at HIS
      clear hwx hbi HRR
      by_cases ht : z1 = t
      · have ht1 : (z1 == t) = true := by simp [ht]
        have HIS2 : Hid (q = bi) := by rw [HIS.out, decide_eq_true ht]; rfl
        clear HIS ht
        generalize zi.length = n at *
        go_wp2_with fail
        rw [HWX.out]
        refine HC.out.mono ?_
        rintro e w1 ⟨rfl, hb1⟩
        have HB1 := Lib.hid (bth HW.out hb1 (Nat.le_refl _))
        clear hb1 HC s0 s1 s2 s3
        rcases bi with _ | _
        · have HN2 := Lib.hid (HN.out HIS2.out)
          go_wp2_with fail
          go_roundw
          case rel => exact ⟨k + 1, by omega, by go_num, HN2, HB1⟩
          case measure => simp [intOf]; omega
        · have HF2 := Lib.hid (HF.out HIS2.out)
          go_wp2_with fail
          go_ret
          exact ⟨by rw [HRK.out k HF2.out] <;> rfl, HB1.out⟩
      · have ht1 : (z1 == t) = false := by simp [ht]
        have HIS2 : Hid (q = false) := by rw [HIS.out, decide_eq_false ht]; rfl
        have HN2 := Lib.hid (HN.out HIS2.out)
        clear HIS ht HC HF
        generalize zi.length = n at *
        go_wp2_with fail
        rw [HWX.out]
        go_roundw
        case rel => exact ⟨k + 1, by omega, by go_num, HN2, HW⟩
        case measure => simp [intOf]; omega
    · have hltz : ¬ ((k : Int) < (T.length : Int)) := by omega
      have HN2 : Hid (findT T t ins = none) := by have := HO.out; rw [List.take_of_length_le (by omega)] at this; exact find_none this
      clear HAT HO
      go_wp2_with fail
      go_ret
      exact ⟨by rw [HRN.out HN2.out] <;> rfl, HB.out⟩

end Go.Proofs.YtgolhfmmlanmlaaGreatDoor

/- Walks: a task with its inputs as a struct that is compared whole; where a trace of these lies. -/
namespace Go.Proofs.YtgolhfmmlanmlaaGreatDoor
open Go.RowKit Pth

def padT (ins : List (List UInt8)) (i : Nat) : List UInt8 := ins.getD i []
def makV (t : Int) (ins : List (List UInt8)) : Value := .agg #[.int .i64 t, .string ⟨(padT ins 0).toArray⟩, .string ⟨(padT ins 1).toArray⟩, .string ⟨(padT ins 2).toArray⟩, .string ⟨(padT ins 3).toArray⟩, .string ⟨(padT ins 4).toArray⟩, .string ⟨(padT ins 5).toArray⟩, .string ⟨(padT ins 6).toArray⟩, .string ⟨(padT ins 7).toArray⟩, .string ⟨(padT ins 8).toArray⟩, .string ⟨(padT ins 9).toArray⟩]
def BlkM (w : World) (b : Nat) (t : Int) (ins : List (List UInt8)) : Prop := w.heap[b]? = some (.cells #[.int .i64 t, .string ⟨(padT ins 0).toArray⟩, .string ⟨(padT ins 1).toArray⟩, .string ⟨(padT ins 2).toArray⟩, .string ⟨(padT ins 3).toArray⟩, .string ⟨(padT ins 4).toArray⟩, .string ⟨(padT ins 5).toArray⟩, .string ⟨(padT ins 6).toArray⟩, .string ⟨(padT ins 7).toArray⟩, .string ⟨(padT ins 8).toArray⟩, .string ⟨(padT ins 9).toArray⟩] 147 (0, 0))
theorem BlkM.cells {w : World} {b : Nat} {t : Int} {ins : List (List UInt8)} (h : BlkM w b t ins) : w.cell? ⟨b, 0, none⟩ = some (.int .i64 t) ∧ w.cell? ⟨b, 1, none⟩ = some (.string ⟨(padT ins 0).toArray⟩) ∧ w.cell? ⟨b, 2, none⟩ = some (.string ⟨(padT ins 1).toArray⟩) ∧ w.cell? ⟨b, 3, none⟩ = some (.string ⟨(padT ins 2).toArray⟩) ∧ w.cell? ⟨b, 4, none⟩ = some (.string ⟨(padT ins 3).toArray⟩) ∧ w.cell? ⟨b, 5, none⟩ = some (.string ⟨(padT ins 4).toArray⟩) ∧ w.cell? ⟨b, 6, none⟩ = some (.string ⟨(padT ins 5).toArray⟩) ∧ w.cell? ⟨b, 7, none⟩ = some (.string ⟨(padT ins 6).toArray⟩) ∧ w.cell? ⟨b, 8, none⟩ = some (.string ⟨(padT ins 7).toArray⟩) ∧ w.cell? ⟨b, 9, none⟩ = some (.string ⟨(padT ins 8).toArray⟩) ∧ w.cell? ⟨b, 10, none⟩ = some (.string ⟨(padT ins 9).toArray⟩) := by
  refine ⟨?_, ?_, ?_, ?_, ?_, ?_, ?_, ?_, ?_, ?_, ?_⟩ <;> rw [cell_of_row w b _ _ 147 (0, 0) h] <;> rfl
theorem BlkM.below {w w' : World} {B b : Nat} {t : Int} {ins : List (List UInt8)} (h : BlkM w b t ins) (hb : Below B w w') (hlt : b < B) : BlkM w' b t ins := (hb.block b hlt).trans h
theorem BlkM.new {w : World} {t : Int} {ins : List (List UInt8)} : BlkM (w.alloc (.cells #[.int .i64 t, .string ⟨(padT ins 0).toArray⟩, .string ⟨(padT ins 1).toArray⟩, .string ⟨(padT ins 2).toArray⟩, .string ⟨(padT ins 3).toArray⟩, .string ⟨(padT ins 4).toArray⟩, .string ⟨(padT ins 5).toArray⟩, .string ⟨(padT ins 6).toArray⟩, .string ⟨(padT ins 7).toArray⟩, .string ⟨(padT ins 8).toArray⟩, .string ⟨(padT ins 9).toArray⟩] 147)) w.heap.size t ins := heap_alloc_new w _
theorem load_making {w : World} {b : Nat} {t : Int} {ins : List (List UInt8)} (h : BlkM w b t ins) : (loadVar 147 ⟨b, 0, none⟩).run Tryz.prog w = .ok (makV t ins) w := by
  obtain ⟨h0, h1, h2, h3, h4, h5, h6, h7, h8, h9, h10⟩ := h.cells
  clear h
  unfold makV
  go_simp
theorem results_cellM {fn : Func} {p : Tmp} {ty : TypeId} (h : fn.results = #[.cell p ty]) {tmps : Array Value} {w : World} {ad : Addr} {v : Value} (hp : tmps.getD p undef = .pointer (some ad)) (hl : (loadVar ty ad).run Tryz.prog w = .ok v w) :
    (results fn tmps).run Tryz.prog w = .ok v w := by
  have hp' : tmps[p]?.getD undef = .pointer (some ad) := by simpa using hp
  simp only [results, h]
  simp [hp', asAddr, hl]
theorem pads_same {a b : List (List UInt8)} (h : a.length = b.length) (h10 : a.length ≤ 10) : ((List.range 10).all (fun i => decide (padT a i = padT b i))) = decide (a = b) := by
  rw [Bool.eq_iff_iff, List.all_eq_true, decide_eq_true_eq]
  constructor
  · intro hh
    refine List.ext_getElem h fun i h1 h2 => ?_
    have := hh i (List.mem_range.2 (by omega))
    rw [decide_eq_true_eq] at this
    unfold padT at this
    rwa [List.getD_eq_getElem?_getD, List.getD_eq_getElem?_getD, List.getElem?_eq_getElem h1, List.getElem?_eq_getElem h2] at this
  · intro e i _
    rw [e]; simp

set_option maxRecDepth 20000 in
/-- Texts side by side, compared one by one. -/
theorem eqItems_texts (xs ys : Array Value) (A B : Nat → List UInt8) (hx : ∀ i, i < 10 → xs[i]? = some (.string ⟨(A i).toArray⟩)) (hy : ∀ i, i < 10 → ys[i]? = some (.string ⟨(B i).toArray⟩)) (w : World) (d : Nat) : ∀ is : List Nat, (∀ i ∈ is, i < 10) →
    (Op.eqItems (d + 1) 9 1 xs ys is).run Tryz.prog w = .ok (is.all (fun i => decide (A i = B i))) w
  | [], _ => by simp [Op.eqItems]
  | i :: is, h => by
    have h1 := hx i (h i (by simp))
    have h2 := hy i (h i (by simp))
    have ih := eqItems_texts xs ys A B hx hy w d is (fun j hj => h j (List.mem_cons_of_mem _ hj))
    have p1 : (part 9 xs (i * 1)).run Tryz.prog w = .ok (.string ⟨(A i).toArray⟩) w := by
      rw [Nat.mul_one]
      go_simp
    have p2 : (part 9 ys (i * 1)).run Tryz.prog w = .ok (.string ⟨(B i).toArray⟩) w := by
      rw [Nat.mul_one]
      go_simp
    have p3 : (Op.equalIn (d + 1) 9 (.string ⟨(A i).toArray⟩) (.string ⟨(B i).toArray⟩)).run Tryz.prog w = .ok (decide (A i = B i)) w := by
      refine (run_equalIn_string w d 9 _ _ Tryz.underlying9).trans ?_
      have e1 : ∀ l : List UInt8, (⟨l.toArray⟩ : ByteArray).toList = l := fun l => by rw [ByteArray.toList_eq]
      rw [e1, e1]
      by_cases e : A i = B i
      · simp [e]
      · simp [e]
    simp only [Op.eqItems, Sem.run_bind, p1, p2, p3, Result.andThen_ok, List.all_cons]
    by_cases e : A i = B i
    · simp [e, ih]
    · simp [e]
set_option maxRecDepth 20000 in
theorem run_pads (a b : List (List UInt8)) (w : World) : (Op.equalIn 9999 145 (.agg #[.string ⟨(padT a 0).toArray⟩, .string ⟨(padT a 1).toArray⟩, .string ⟨(padT a 2).toArray⟩, .string ⟨(padT a 3).toArray⟩, .string ⟨(padT a 4).toArray⟩, .string ⟨(padT a 5).toArray⟩, .string ⟨(padT a 6).toArray⟩, .string ⟨(padT a 7).toArray⟩, .string ⟨(padT a 8).toArray⟩, .string ⟨(padT a 9).toArray⟩]) (.agg #[.string ⟨(padT b 0).toArray⟩, .string ⟨(padT b 1).toArray⟩, .string ⟨(padT b 2).toArray⟩, .string ⟨(padT b 3).toArray⟩, .string ⟨(padT b 4).toArray⟩, .string ⟨(padT b 5).toArray⟩, .string ⟨(padT b 6).toArray⟩, .string ⟨(padT b 7).toArray⟩, .string ⟨(padT b 8).toArray⟩, .string ⟨(padT b 9).toArray⟩])).run Tryz.prog w = .ok ((List.range 10).all (fun i => decide (padT a i = padT b i))) w := by
  obtain ⟨i0, hi, _, _, _⟩ := info_parts elemS.info
  rw [show (9999 : Nat) = 9998 + 1 from rfl, run_equalIn_array w 9998 _ _ Tryz.underlying145 hi]
  have hc : Tryz.prog.cellsOf 9 = 1 := by kernel_rfl
  rw [hc]
  refine eqItems_texts _ _ (padT a) (padT b) (fun i hi => ?_) (fun i hi => ?_) w 9997 _ (fun i hi => List.mem_range.1 hi)
  · rcases i with _ | _ | _ | _ | _ | _ | _ | _ | _ | _ | i <;> first | rfl | omega
  · rcases i with _ | _ | _ | _ | _ | _ | _ | _ | _ | _ | i <;> first | rfl | omega
set_option maxRecDepth 20000 in
theorem run_making (t u : Int) (a b : List (List UInt8)) (w : World) : (binOp .eql 147 (makV t a) (makV u b)).run Tryz.prog w = .ok (.bool (decide (t = u) && (List.range 10).all (fun i => decide (padT a i = padT b i)))) w := by
  have hS : Tryz.prog.underlying 147 = some (.struct (Tryz.prog.fieldsOf 147)) := by kernel_rfl
  have hp : Tryz.prog.stoodInHeld 147 = false := by kernel_rfl
  have u3 := Tryz.underlying3
  have a3 := Tryz.isAgg3
  have z3 := Tryz.sizeOf3
  have a4 := Tryz.isAgg145
  have z4 := Tryz.sizeOf145
  have hr := run_pads a b w
  generalize (List.range 10).all (fun i => decide (padT a i = padT b i)) = B at hr ⊢
  unfold makV
  rw [run_eql_struct, show (10000 : Nat) = 9999 + 1 from rfl, run_equalIn_agg w 9999 147 _ _ hS hp]
  simp only [Program.fieldsOf, Tryz.underlying147]
  go_simp
  by_cases h : t = u
  · simp [h]
    cases B <;> rfl
  · simp [h]
/-- A copy whose run is known. -/
theorem wpList_runCopy {t s : TypeId} {ops : Array Oper} {rest : List Oper} {o : Oper} {a : Act} {Q : Exit → Act → World → Prop} {w w' : World} {v u r : Value} (hgd : o.guard = none) (x y : Operand)
    (ho : o.op = .call { callee := .builtin .copy, args := #[x, y], argTypes := #[t, s] }) (hs : a.eval x = v) (hx : a.eval y = u) (hrun : (Builtin.copy_ #[t, s] o.type #[v, u]).run Tryz.prog w = .ok r w')
    (h : wpList Tryz.prog ops Q rest (a.put o.dst r) w') : wpList Tryz.prog ops Q (o :: rest) a w := by
  refine wpList_plain hgd fun K hK => ?_
  unfold Oper.wp execOp
  simp only [ho, resolve, invoke, builtin, Sem.run_bind, Sem.run_pure, Result.andThen_ok, List.map_toArray, List.map_cons, List.map_nil, hs, hx, hrun]
  exact hK _ _ h
theorem setCells_behind (g : Nat) (e : TypeId) : ∀ (vs : List Value) (o : Nat) (w : World) (cur cur' : Array Value), w.heap[g]? = some (.cells cur e (0, 0)) → (w.setCells g o vs).heap[g]? = some (.cells cur' e (0, 0)) → ∀ i, o + vs.length ≤ i → cur'[i]? = cur[i]?
  | [], o, w, cur, cur', h, h', i, _ => by
    have : some (Obj.cells cur e (0, 0)) = some (.cells cur' e (0, 0)) := h.symm.trans h'
    simp at this
    rw [this]
  | v :: vs, o, w, cur, cur', h, h', i, hi => by
    rw [List.length_cons] at hi
    rw [setCells_behind g e vs (o + 1) (w.setCell ⟨g, o, none⟩ v) _ cur' (heap_setCell_same w g o cur e v h) h' i (by omega), Array.getElem?_setIfInBounds_ne (by omega)]
set_option maxRecDepth 20000 in
/-- The inputs copied behind the task. -/
theorem copy_pads (t : Int) (ins : List (List UInt8)) (a : Option Addr) (c : Nat) (w : World) (B b : Nat) (hr : RowV w (.slice a ins.length c) (S ins)) (h10 : ins.length ≤ 10) (hb : BlkM w b t []) (hB : B ≤ b) :
    ∃ w', (∀ ty, (Builtin.copy_ #[31, 31] ty #[.slice (some ⟨b, 1, none⟩) 10 10, .slice a ins.length c]).run Tryz.prog w = .ok (goInt ins.length) w') ∧ BlkM w' b t ins ∧ Below B w w' ∧ w'.heap.size = w.heap.size := by
  obtain ⟨i0, hi, hz0, hz1, hz2⟩ := info_parts elemS.info
  have hmin : Nat.min ins.length 10 = ins.length := Nat.min_eq_left h10
  rcases Nat.eq_zero_or_pos ins.length with h0 | hpos
  · have he : ins = [] := List.eq_nil_of_length_eq_zero h0
    subst he
    refine ⟨w, fun ty => run_copy_none (P := Tryz.prog) w 31 31 ty 9 _ _ _ _ _ _ Tryz.underlying31 (by kernel_rfl) rfl, hb, Below.refl _ _, rfl⟩
  · obtain ⟨_, _, he, hc1, hc2, hat⟩ := hr.texts
    injection he with e1 _ e3
    subst e1 e3
    obtain ⟨g, o, rfl, hg, _⟩ := hat 0 hpos
    have hsrc : ∀ j v, (S ins)[j]? = some v → w.cell? ((⟨g, o, none⟩ : Addr).add j) = some v := by
      intro j v hj
      obtain ⟨hj1, hj2⟩ := List.getElem?_eq_some_iff.1 hj
      rw [S_len] at hj1
      obtain ⟨g', o', he', _, hc⟩ := hat j hj1
      obtain ⟨rfl, rfl⟩ := addr_inj he'
      rw [add_addr, hc, ← hj2, S_get hj1]
    have hsz : ∀ j, j < 11 → (w.cell? ⟨b, j, none⟩).isSome = true := fun j hj => by
      rw [cell_of_row w b j _ _ (0, 0) hb, Array.getElem?_eq_getElem (by simpa using hj)]; rfl
    have hrun := fun ty => run_copy_cells (P := Tryz.prog) w 31 31 ty 9 b 1 10 10 ⟨g, o, none⟩ ins.length c (S ins) Tryz.underlying31 (by kernel_rfl) (by rw [S_len]; exact hmin.symm) hsrc (fun j hj => by rw [S_len] at hj; exact hsz _ (by omega)) (fun j _ => frozen_of_row w b _ _ _ hb) (S_one ins)
    rw [S_len] at hrun
    obtain ⟨cur', k1, k2, k3, k4⟩ := setCells_block b 147 (S ins) 1 w _ hb
    have k5 := setCells_behind b 147 (S ins) 1 w _ cur' hb k1
    obtain ⟨f1, f2, f3, f4, f5⟩ := setCells_frame b (S ins) 1 w
    refine ⟨_, hrun, ?_, ⟨f1, f2, f3, by rw [f4]; exact Nat.le_refl _, fun i hi => f5 i (by omega)⟩, f4⟩
    have hcs : cur'.size = 11 := by rw [k2]; rfl
    have hget : ∀ i, i < 10 → cur'[1 + i]? = some (.string ⟨(padT ins i).toArray⟩) := by
      intro i hi
      by_cases hl : i < ins.length
      · rw [k3 i (by rw [S_len]; exact hl) (by simp; omega), S_get hl]
        unfold padT
        rw [List.getD_eq_getElem?_getD, List.getElem?_eq_getElem hl]; rfl
      · rw [k5 (1 + i) (by rw [S_len]; omega)]
        have e : padT ins i = [] := by unfold padT; rw [List.getD_eq_getElem?_getD, List.getElem?_eq_none (by omega)]; rfl
        rw [e]
        rcases i with _ | _ | _ | _ | _ | _ | _ | _ | _ | _ | i <;> first | rfl | omega
    have hget0 : cur'[0]? = some (.int .i64 t) := by rw [k4 0 (by omega)]; rfl
    have hall : cur' = #[.int .i64 t, .string ⟨(padT ins 0).toArray⟩, .string ⟨(padT ins 1).toArray⟩, .string ⟨(padT ins 2).toArray⟩, .string ⟨(padT ins 3).toArray⟩, .string ⟨(padT ins 4).toArray⟩, .string ⟨(padT ins 5).toArray⟩, .string ⟨(padT ins 6).toArray⟩, .string ⟨(padT ins 7).toArray⟩, .string ⟨(padT ins 8).toArray⟩, .string ⟨(padT ins 9).toArray⟩] := by
     apply Array.ext
     · rw [hcs]; rfl
     · intro i h1 h2
       have hi : i < 11 := by omega
       rcases i with _ | i
       · rw [Array.getElem?_eq_getElem (by omega)] at hget0
         exact Option.some.inj hget0
       · have := hget i (by omega)
         rw [Nat.add_comm 1 i, Array.getElem?_eq_getElem (by omega)] at this
         rw [Option.some.inj this]
         rcases i with _ | _ | _ | _ | _ | _ | _ | _ | _ | _ | i <;> first | rfl | omega
    unfold BlkM
    rw [k1, hall]
theorem BlkM.fill {w : World} {b : Nat} {t0 : Int} {ins0 : List (List UInt8)} (h : BlkM w b t0 ins0) (t : Int) (ins : List (List UInt8)) : BlkM (((((((((((w.setCell ⟨b, 0, none⟩ (.int .i64 t)).setCell ⟨b, 1, none⟩ (.string ⟨(padT ins 0).toArray⟩)).setCell ⟨b, 2, none⟩ (.string ⟨(padT ins 1).toArray⟩)).setCell ⟨b, 3, none⟩ (.string ⟨(padT ins 2).toArray⟩)).setCell ⟨b, 4, none⟩ (.string ⟨(padT ins 3).toArray⟩)).setCell ⟨b, 5, none⟩ (.string ⟨(padT ins 4).toArray⟩)).setCell ⟨b, 6, none⟩ (.string ⟨(padT ins 5).toArray⟩)).setCell ⟨b, 7, none⟩ (.string ⟨(padT ins 6).toArray⟩)).setCell ⟨b, 8, none⟩ (.string ⟨(padT ins 7).toArray⟩)).setCell ⟨b, 9, none⟩ (.string ⟨(padT ins 8).toArray⟩)).setCell ⟨b, 10, none⟩ (.string ⟨(padT ins 9).toArray⟩)) b t ins := by
  have z0 := heap_setCell_same w b 0 _ 147 (.int .i64 t) h
  have z1 := heap_setCell_same _ b 1 _ 147 (.string ⟨(padT ins 0).toArray⟩) z0
  have z2 := heap_setCell_same _ b 2 _ 147 (.string ⟨(padT ins 1).toArray⟩) z1
  have z3 := heap_setCell_same _ b 3 _ 147 (.string ⟨(padT ins 2).toArray⟩) z2
  have z4 := heap_setCell_same _ b 4 _ 147 (.string ⟨(padT ins 3).toArray⟩) z3
  have z5 := heap_setCell_same _ b 5 _ 147 (.string ⟨(padT ins 4).toArray⟩) z4
  have z6 := heap_setCell_same _ b 6 _ 147 (.string ⟨(padT ins 5).toArray⟩) z5
  have z7 := heap_setCell_same _ b 7 _ 147 (.string ⟨(padT ins 6).toArray⟩) z6
  have z8 := heap_setCell_same _ b 8 _ 147 (.string ⟨(padT ins 7).toArray⟩) z7
  have z9 := heap_setCell_same _ b 9 _ 147 (.string ⟨(padT ins 8).toArray⟩) z8
  have z10 := heap_setCell_same _ b 10 _ 147 (.string ⟨(padT ins 9).toArray⟩) z9
  unfold BlkM
  rw [z10]
  simp only [List.setIfInBounds_toArray, List.set_cons_zero, List.set_cons_succ]

set_option maxRecDepth 20000 in
set_option maxHeartbeats 8000000 in
theorem makingOf_any (t : Int) (ins : List (List UInt8)) (x : Value) (w : World) (hr : RowV w x (S ins)) (h10 : ins.length ≤ 10) :
    Calls Tryz.prog 112 #[.int .i64 t, x] w fun e w' => e = .returned (makV t ins) ∧ Below w.heap.size w w' := by
  obtain ⟨a, c, rfl, hc1, hc2, _⟩ := hr.texts
  unfold maxLen at hc2
  obtain ⟨wa, hwa⟩ : ∃ wa, wa = w.alloc (.cells #[.int .i64 0, .string ⟨#[]⟩, .string ⟨#[]⟩, .string ⟨#[]⟩, .string ⟨#[]⟩, .string ⟨#[]⟩, .string ⟨#[]⟩, .string ⟨#[]⟩, .string ⟨#[]⟩, .string ⟨#[]⟩, .string ⟨#[]⟩] 147) := ⟨_, rfl⟩
  obtain ⟨wb, hwb⟩ : ∃ wb, wb = wa.alloc (.cells #[.int .i64 t, .string ⟨#[]⟩, .string ⟨#[]⟩, .string ⟨#[]⟩, .string ⟨#[]⟩, .string ⟨#[]⟩, .string ⟨#[]⟩, .string ⟨#[]⟩, .string ⟨#[]⟩, .string ⟨#[]⟩, .string ⟨#[]⟩] 147) := ⟨_, rfl⟩
  have ea : wa.heap.size = w.heap.size + 1 := by rw [hwa]; simp
  have R0 : BlkM wa w.heap.size 0 [] := by rw [hwa]; exact BlkM.new (w := w) (t := 0) (ins := [])
  have hAw : Below w.heap.size w wa := by rw [hwa]; exact (Below.refl w.heap.size w).alloc (Nat.le_refl _) _
  have hAb : Below wa.heap.size wa wb := by rw [hwb]; exact (Below.refl wa.heap.size wa).alloc (Nat.le_refl _) _
  have M0 : BlkM wb (w.heap.size + 1) t [] := by rw [hwb, ← ea]; exact BlkM.new (w := wa) (t := t) (ins := [])
  obtain ⟨wc, hrun, M1, hbc, hsc⟩ := copy_pads t ins a c wb (w.heap.size + 1) (w.heap.size + 1) (hr.below (bth hAw hAb (Nat.le_refl _))) h10 M0 (Nat.le_refl _)
  have HRUN := Lib.hid hrun
  have R1 := Lib.hid ((R0.below hAb (by omega)).below hbc (by omega))
  have MM := Lib.hid M1
  have HB := Lib.hid ((bth hAw hAb (Nat.le_refl _)).trans (hbc.mono (by omega)))
  have hsz : wc.heap.size = w.heap.size + 2 := by rw [hsc, hwb]; simp; omega
  have HWB : Hid ((w.alloc (.cells #[.int .i64 0, .string ⟨#[]⟩, .string ⟨#[]⟩, .string ⟨#[]⟩, .string ⟨#[]⟩, .string ⟨#[]⟩, .string ⟨#[]⟩, .string ⟨#[]⟩, .string ⟨#[]⟩, .string ⟨#[]⟩, .string ⟨#[]⟩] 147)).alloc (.cells #[.int .i64 t, .string ⟨#[]⟩, .string ⟨#[]⟩, .string ⟨#[]⟩, .string ⟨#[]⟩, .string ⟨#[]⟩, .string ⟨#[]⟩, .string ⟨#[]⟩, .string ⟨#[]⟩, .string ⟨#[]⟩, .string ⟨#[]⟩] 147) = wb) := by rw [hwb, hwa]; rfl
  have hrun2 : ∀ ty, (Builtin.copy_ #[31, 31] ty #[.slice (some ⟨w.heap.size + 1, 1, none⟩) 10 10, .slice a ins.length c]).run Tryz.prog ((w.alloc (.cells #[.int .i64 0, .string ⟨#[]⟩, .string ⟨#[]⟩, .string ⟨#[]⟩, .string ⟨#[]⟩, .string ⟨#[]⟩, .string ⟨#[]⟩, .string ⟨#[]⟩, .string ⟨#[]⟩, .string ⟨#[]⟩, .string ⟨#[]⟩] 147)).alloc (.cells #[.int .i64 t, .string ⟨#[]⟩, .string ⟨#[]⟩, .string ⟨#[]⟩, .string ⟨#[]⟩, .string ⟨#[]⟩, .string ⟨#[]⟩, .string ⟨#[]⟩, .string ⟨#[]⟩, .string ⟨#[]⟩, .string ⟨#[]⟩] 147)) = .ok (goInt ins.length) wc := fun ty => by rw [HWB.out]; exact HRUN.out ty
  clear hr hrun R0 hAw hAb M0 M1 hbc hsc hwa hwb ea
  obtain ⟨m0, m1, m2, m3, m4, m5, m6, m7, m8, m9, m10⟩ := MM.out.cells
  obtain ⟨r0, r1, r2, r3, r4, r5, r6, r7, r8, r9, r10⟩ := R1.out.cells
  have hf : ∀ j, wc.frozen? ⟨w.heap.size, j, none⟩ = false := fun j => frozen_of_row wc _ j _ _ R1.out
  have f0 := hf 0
  have f1 := hf 1
  have f2 := hf 2
  have f3 := hf 3
  have f4 := hf 4
  have f5 := hf 5
  have f6 := hf 6
  have f7 := hf 7
  have f8 := hf 8
  have f9 := hf 9
  have f10 := hf 10
  clear hf
  go_enter Tryz.func112, Tryz.ntmps112
  go_wp2_with fail
  have hZ := R1.out.fill t ins
  refine bodyPost_ret (results_cellM rfl rfl (load_making hZ)) rfl ?_
  exact ⟨rfl, ((((((((((HB.out.setCell (p := ⟨w.heap.size, 0, none⟩) (Nat.le_refl _) _).setCell (p := ⟨w.heap.size, 1, none⟩) (Nat.le_refl _) _).setCell (p := ⟨w.heap.size, 2, none⟩) (Nat.le_refl _) _).setCell (p := ⟨w.heap.size, 3, none⟩) (Nat.le_refl _) _).setCell (p := ⟨w.heap.size, 4, none⟩) (Nat.le_refl _) _).setCell (p := ⟨w.heap.size, 5, none⟩) (Nat.le_refl _) _).setCell (p := ⟨w.heap.size, 6, none⟩) (Nat.le_refl _) _).setCell (p := ⟨w.heap.size, 7, none⟩) (Nat.le_refl _) _).setCell (p := ⟨w.heap.size, 8, none⟩) (Nat.le_refl _) _).setCell (p := ⟨w.heap.size, 9, none⟩) (Nat.le_refl _) _).setCell (p := ⟨w.heap.size, 10, none⟩) (Nat.le_refl _) _⟩

end Go.Proofs.YtgolhfmmlanmlaaGreatDoor
