/- Texts of one claim, joined in their order. -/
import Derived.Test.YtgolhfmmlanmlaaGreatDoorM5
import Derived.Test.YtgolhfmmlanmlaaGreatDoorM13
import Derived.Test.YtgolhfmmlanmlaaGreatDoorM7
import Derived.Test.YtgolhfmmlanmlaaGreatDoorM9

/- A region that draws its order, by an invariant over what is done. -/
namespace Go.Proofs.YtgolhfmmlanmlaaGreatDoor
open Go.RowKit

/-- How many are still to do. -/
def leftB (L : Array Bool) : Nat := L.toList.countP (fun b => !b)
theorem left_set {L : Array Bool} {i : Nat} (h : L.getD i true = false) : leftB (L.setIfInBounds i true) + 1 = leftB L := by
  have hi : i < L.size := by
    rcases Nat.lt_or_ge i L.size with h1 | h1
    · exact h1
    · simp [Array.getD, Nat.not_lt.2 h1] at h
  have hv : L.toList[i]'(by simpa using hi) = false := by simpa [Array.getD, hi] using h
  unfold leftB
  have e : (L.setIfInBounds i true).toList = L.toList.set i true := by simp [Array.setIfInBounds, hi]
  rw [e]
  have key : ∀ (l : List Bool) (i : Nat) (hi : i < l.length), l[i] = false → (l.set i true).countP (fun b => !b) + 1 = l.countP (fun b => !b) := by
    intro l
    induction l with
    | nil => intro i hi; simp at hi
    | cons x t ih =>
      intro i hi hx
      cases i with
      | zero => simp only [List.getElem_cons_zero] at hx; subst hx; simp
      | succ i =>
        simp only [List.getElem_cons_succ] at hx
        have := ih i (by simpa using hi) hx
        simp only [List.set_cons_succ, List.countP_cons]
        omega
  exact key _ _ (by simpa using hi) hv
theorem ready_un {ops : Array Oper} {L : Array Bool} {i : Nat} (h : i ∈ Region.ready .any ops L) : L.getD i true = false := by
  unfold Region.ready at h
  have := (List.mem_filter.1 h).2
  rw [Bool.and_eq_true] at this
  simpa using this.1
theorem wpAny_inv {P : Program} {ops : Array Oper} {Q : Exit → Act → World → Prop} (Inv : Array Bool → Act → World → Prop)
    (hstep : ∀ L a w i, Inv L a w → i ∈ Region.ready .any ops L → wpOp P ops Q i (Inv (L.setIfInBounds i true)) a w) (hdone : ∀ L a w, Inv L a w → Region.ready .any ops L = [] → Q .normal a w) :
    ∀ r L a w, leftB L ≤ r → Inv L a w → wpAny P .any ops Q r L a w := by
  intro r
  induction r with
  | zero =>
    intro L a w hr hI
    have : Region.ready .any ops L = [] := by
      cases hq : Region.ready .any ops L with
      | nil => rfl
      | cons i t =>
        have := left_set (ready_un (ops := ops) (L := L) (i := i) (by rw [hq]; simp))
        omega
    exact ⟨this, hdone L a w hI this⟩
  | succ r ih =>
    intro L a w hr hI
    refine ⟨fun h => hdone L a w hI h, fun i hi => ?_⟩
    have hl := left_set (ready_un hi)
    exact wpOp_mono (fun a' w' h' => ih _ a' w' (by omega) h') (hstep L a w i hI hi)
/-- Of an invariant over what is done. -/
theorem wp_region_inv {P : Program} {id : Nat} {ops : Array Oper} {Q : Exit → Act → World → Prop} {a : Act} {w : World} (hm : P.follows .mixedOrders = true) (Inv : Array Bool → Act → World → Prop)
    (h0 : Inv (Array.replicate ops.size false) a w.drew)
    (hstep : ∀ L a w i, Inv L a w → i ∈ Region.ready .any ops L → wpOp P ops Q i (Inv (L.setIfInBounds i true)) a w) (hdone : ∀ L a w, Inv L a w → Region.ready .any ops L = [] → Q .normal a w) : (Code.region id ops true).wp P Q a w :=
  wp_region_any hm (wpAny_inv Inv hstep hdone _ _ _ _ (by unfold leftB; exact Nat.le_trans List.countP_le_length (by simp)) h0)
end Go.Proofs.YtgolhfmmlanmlaaGreatDoor

/- Walks: a task made by the program, given what its recipe makes. -/
namespace Go.Proofs.YtgolhfmmlanmlaaGreatDoor
open Go.RowKit Pth

/-- What holds while a task is made, whatever is done already. -/
def MakeAt (PV DV RS AR : Value) (x0 x1 x2 x3 : Value) (t gr or' : Nat) (ts : List (List UInt8)) (tx : List UInt8) (D : List Deferred) (ff dd : Bool) (w : World) (L : Array Bool) (a : Act) (W : World) : Prop :=
  ∃ (b0 b1 b2 b3 b4 b5 b6 b7 b8 b9 b10 b11 : Bool) (t8 t9 t10 t11 t12 t13 t14 t15 t16 t17 t18 : Value), L = #[b0, b1, b2, b3, b4, b5, b6, b7, b8, b9, b10, b11] ∧
    a = { tmps := #[PV, DV, .int .i64 (t : Int), .pointer (some ⟨w.heap.size, 0, none⟩), undef, undef, .pointer (some ⟨w.heap.size + 1, 0, none⟩), .func (.func 117) #[] #[.pointer (some ⟨w.heap.size + 1, 0, none⟩)], t8, t9, t10, t11, t12, t13, t14, t15, t16, t17, t18], defers := D } ∧
    Below w.heap.size w W ∧ Blk4 W w.heap.size 42 x0 x1 x2 x3 ∧ Blk2 W (w.heap.size + 1) 75 (.string ⟨if b11 then tx.toArray else #[]⟩) (.int .i64 0) ∧
    (b0 = true → t8 = .pointer (some ⟨w.heap.size, 3, none⟩)) ∧ (b1 = true → t9 = RS) ∧ (b2 = true → t10 = .int .i64 (t : Int)) ∧ (b3 = true → t11 = .pointer (some ⟨gr, or' + t, none⟩)) ∧ (b4 = true → t12 = AR) ∧
    (b5 = true → t13 = PV) ∧ (b6 = true → t14 = DV) ∧ (b7 = true → t15 = .int .i64 (t : Int)) ∧ (b8 = true → b9 = false → RowV W t16 (S ts)) ∧ (b9 = true → t17 = .string ⟨tx.toArray⟩) ∧ (b10 = true → t18 = .agg #[.string ⟨tx.toArray⟩, .int .i64 0]) ∧ (b8 = true → ff = false) ∧ (b9 = true → dd = true)

set_option maxRecDepth 20000 in
set_option maxHeartbeats 4000000 in
theorem makeTask_any (ls : List (List Int)) (l : List Int) (bs : List Bool) (rs : List (List OpT)) (m : List ResT) (t : Nat) (tx : List UInt8) (did ok : Bool) (v u : Value) (w : World) (hp : PlanV w v ls l bs rs) (hr : RowR w u m) (hpl : planA ls l bs rs = true) (hmb : m.length = bs.length) (ht : t < ls.length) (htr : t < rs.length) (hxm : ∀ f ∈ m, f.1.length ≤ 40)
    (hrun : ∀ W a b, RowO W a rs[t] → RowV W b (S (bodiesL m ls[t])) → Calls Tryz.prog 140 #[a, b] W fun e w' => e = .returned (.tuple #[.string ⟨tx.toArray⟩, .bool did, .bool ok]) ∧ Below W.heap.size W w') :
    Calls Tryz.prog 88 #[v, u, .int .i64 (t : Int)] w fun e w' => e = .returned (resV (madeR (firstL m ls[t]).2 did tx)) ∧ Below w.heap.size w w' := by
  have HV := Lib.hid hp
  have HR := Lib.hid hr
  obtain ⟨nv, ov, sv, rv, rfl, h1, h2, h3, h4⟩ := hp
  obtain ⟨as0, cs, rfl, hs1, hs2, _⟩ := h3.boolsW
  obtain ⟨an, cn, rfl, hn1, hn2, _⟩ := h1.lists
  obtain ⟨ao, co, rfl, ho1, ho2, _⟩ := h2.ints
  obtain ⟨ar, cr, rfl, hr1, hr2, hatr⟩ := h4.lists
  obtain ⟨am, cm, rfl, hm1, hm2, _⟩ := hr.res
  clear h1 h2 h3 h4 hr
  unfold maxLen at hs2 hn2 ho2 hr2 hm2
  obtain ⟨gr, or', ar2, cr2, rfl, hgr, hcr, hrr⟩ := hatr t htr
  obtain ⟨wp, hwp⟩ : ∃ wp, wp = w.alloc (.cells #[.slice an ls.length cn, .slice ao l.length co, .slice as0 bs.length cs, .slice (some ⟨gr, or', none⟩) rs.length cr] 42) := ⟨_, rfl⟩
  obtain ⟨wa, hwa⟩ : ∃ wa, wa = wp.alloc (.cells #[.string ⟨#[]⟩, .int .i64 0] 75) := ⟨_, rfl⟩
  have ep : wp.heap.size = w.heap.size + 1 := by rw [hwp]; simp
  have ea : wa.heap.size = w.heap.size + 2 := by rw [hwa]; simp [ep]
  have P0 : Hid (Blk4 wa w.heap.size 42 (.slice an ls.length cn) (.slice ao l.length co) (.slice as0 bs.length cs) (.slice (some ⟨gr, or', none⟩) rs.length cr)) := by rw [hwa, hwp]; exact Blk4.new.old _
  have R0 : Hid (Blk2 wa (w.heap.size + 1) 75 (.string ⟨#[]⟩) (.int .i64 0)) := by rw [hwa, ← ep]; exact Blk2.new
  have HA : Hid (Below w.heap.size w wa) := by rw [hwa, hwp]; exact ((Below.refl w.heap.size w).alloc (Nat.le_refl _) _).alloc (by simp) _
  have HWA : Hid ((w.alloc (.cells #[.slice an ls.length cn, .slice ao l.length co, .slice as0 bs.length cs, .slice (some ⟨gr, or', none⟩) rs.length cr] 42)).alloc (.cells #[.string ⟨#[]⟩, .int .i64 0] 75) = wa) := by rw [hwa, hwp]; rfl
  have HCR := Lib.hid hcr
  have hcell : wa.cell? ⟨gr, or' + t, none⟩ = some (.slice ar2 rs[t].length cr2) := (HA.out.cell (p := ⟨gr, or' + t, none⟩) hgr).trans hcr
  have HBR := Lib.hid (fun W (h : Below w.heap.size w W) => bodiesReady_any ls l bs rs m t _ _ W (HV.out.below h) (HR.out.below h) hpl hmb ht hxm)
  have HTM : Hid (∀ W b, Below w.heap.size w W → RowV W b (S (bodiesL m ls[t])) → Calls Tryz.prog 118 #[.slice ar2 rs[t].length cr2, b] W fun e w' => (if did then e = .returned (.string ⟨tx.toArray⟩) else e = .panicked (gave 1)) ∧ Below W.heap.size W w') := fun W b h hb => textMade_b tx did ok _ _ W (hrun W _ b (hrr.below h) hb)
  obtain ⟨fb, hfb⟩ : ∃ fb, (firstL m ls[t]).2 = fb := ⟨_, rfl⟩
  simp only [hfb] at HBR ⊢
  have hmf : ∀ (fn : Fn) (first cap : Array Value) (w : World), (Instr.makeFunc fn first cap).run Tryz.prog w = .ok (.func fn first cap) w := fun _ _ _ _ => rfl
  have htz : (t : Int) < (rs.length : Int) := by omega
  obtain ⟨c0, c1, c2, c3⟩ := P0.out.cells
  clear hfb hwa hwp ep hpl hmb hxm hrun hatr hcr
  go_enter_defers Tryz.func88, Tryz.ntmps88
  go_wp2_with fail
  rw [HWA.out]
  have hcr0 := HCR.out
  clear c0 c1 c2 c3 hcell
  unfold ReadyPost at HBR
  cases fb with
  | false =>
    simp only [Bool.false_eq_true, if_false] at HBR
    cases did with
    | true =>
      obtain ⟨Inv, hInv⟩ : ∃ Inv, Inv = MakeAt (.agg #[.slice an ls.length cn, .slice ao l.length co, .slice as0 bs.length cs, .slice (some ⟨gr, or', none⟩) rs.length cr]) (.slice am m.length cm) (.slice (some ⟨gr, or', none⟩) rs.length cr) (.slice ar2 rs[t].length cr2) (.slice an ls.length cn) (.slice ao l.length co) (.slice as0 bs.length cs) (.slice (some ⟨gr, or', none⟩) rs.length cr) t gr or' (bodiesL m ls[t]) tx [{ target := .fn (.func 117) #[.pointer (some ⟨w.heap.size + 1, 0, none⟩)], args := #[] }] false true w := ⟨_, rfl⟩
      have HInv := Lib.hid hInv
      clear hInv
      refine wp_region_inv (by kernel_rfl) Inv ?_ ?_ ?_
      · rw [HInv.out]
        exact ⟨false, false, false, false, false, false, false, false, false, false, false, false, undef, undef, undef, undef, undef, undef, undef, undef, undef, undef, undef, rfl, rfl, Below.drew HA.out, P0.out, R0.out, by simp, by simp, by simp, by simp, by simp, by simp, by simp, by simp, by simp, by simp, by simp, by simp, by simp⟩
      · intro L a W i hI hi
        rw [HInv.out] at hI
        obtain ⟨b0, b1, b2, b3, b4, b5, b6, b7, b8, b9, b10, b11, t8, t9, t10, t11, t12, t13, t14, t15, t16, t17, t18, hL, hact, hA, hP, hR, g0, g1, g2, g3, g4, g5, g6, g7, g8, g9, g10, g11, g12⟩ := hI
        subst hL hact
        obtain ⟨hi1, hi2⟩ := List.mem_filter.1 hi
        clear hi
        rw [Bool.and_eq_true] at hi2
        have hi3 : i < 12 := by simpa using hi1
        clear hi1
        rcases (by omega : i = 0 ∨ i = 1 ∨ i = 2 ∨ i = 3 ∨ i = 4 ∨ i = 5 ∨ i = 6 ∨ i = 7 ∨ i = 8 ∨ i = 9 ∨ i = 10 ∨ i = 11) with rfl | rfl | rfl | rfl | rfl | rfl | rfl | rfl | rfl | rfl | rfl | rfl
        · -- 0
          refine wpOp_last rfl (fun a w k => k) ?_
          go_wp2_with fail
          refine then_normal ?_
          rw [HInv.out]
          refine ⟨true, b1, b2, b3, b4, b5, b6, b7, b8, b9, b10, b11, _, t9, t10, t11, t12, t13, t14, t15, t16, t17, t18, rfl, rfl, hA, hP, hR, (fun _ => rfl), g1, g2, g3, g4, g5, g6, g7, g8, g9, g10, (fun h => by first | exact g11 h | rfl | simp_all), (fun h => by first | exact g12 h | rfl | simp_all)⟩
        · -- 1
          have d0 : b0 = true := by simpa [Region.binds] using hi2.2
          obtain rfl := g0 d0
          obtain ⟨c0, c1, c2, c3⟩ := hP.cells
          refine wpOp_last rfl (fun a w k => k) ?_
          go_wp2_with fail
          refine then_normal ?_
          rw [HInv.out]
          refine ⟨true, true, b2, b3, b4, b5, b6, b7, b8, b9, b10, b11, _, _, t10, t11, t12, t13, t14, t15, t16, t17, t18, rfl, rfl, hA, hP, hR, (fun _ => rfl), (fun _ => rfl), g2, g3, g4, g5, g6, g7, g8, g9, g10, (fun h => by first | exact g11 h | rfl | simp_all), (fun h => by first | exact g12 h | rfl | simp_all)⟩
        · -- 2
          refine wpOp_last rfl (fun a w k => k) ?_
          go_wp2_with fail
          refine then_normal ?_
          rw [HInv.out]
          refine ⟨b0, b1, true, b3, b4, b5, b6, b7, b8, b9, b10, b11, t8, t9, _, t11, t12, t13, t14, t15, t16, t17, t18, rfl, rfl, hA, hP, hR, g0, g1, (fun _ => rfl), g3, g4, g5, g6, g7, g8, g9, g10, (fun h => by first | exact g11 h | rfl | simp_all), (fun h => by first | exact g12 h | rfl | simp_all)⟩
        · -- 3
          obtain ⟨d1, d2⟩ : b1 = true ∧ b2 = true := by simpa [Region.binds] using hi2.2
          obtain rfl := g1 d1
          obtain rfl := g2 d2
          refine wpOp_last rfl (fun a w k => k) ?_
          go_wp2_with fail
          refine then_normal ?_
          rw [HInv.out]
          refine ⟨b0, true, true, true, b4, b5, b6, b7, b8, b9, b10, b11, t8, _, _, _, t12, t13, t14, t15, t16, t17, t18, rfl, rfl, hA, hP, hR, g0, (fun _ => rfl), (fun _ => rfl), (fun _ => rfl), g4, g5, g6, g7, g8, g9, g10, (fun h => by first | exact g11 h | rfl | simp_all), (fun h => by first | exact g12 h | rfl | simp_all)⟩
        · -- 4
          have d3 : b3 = true := by simpa [Region.binds] using hi2.2
          obtain rfl := g3 d3
          have hcw := (hA.cell (p := ⟨gr, or' + t, none⟩) hgr).trans hcr0
          refine wpOp_last rfl (fun a w k => k) ?_
          go_wp2_with fail
          refine then_normal ?_
          rw [HInv.out]
          refine ⟨b0, b1, b2, true, true, b5, b6, b7, b8, b9, b10, b11, t8, t9, t10, _, _, t13, t14, t15, t16, t17, t18, rfl, rfl, hA, hP, hR, g0, g1, g2, (fun _ => rfl), (fun _ => rfl), g5, g6, g7, g8, g9, g10, (fun h => by first | exact g11 h | rfl | simp_all), (fun h => by first | exact g12 h | rfl | simp_all)⟩
        · -- 5
          obtain ⟨c0, c1, c2, c3⟩ := hP.cells
          refine wpOp_last rfl (fun a w k => k) ?_
          go_wp2_with fail
          refine then_normal ?_
          rw [HInv.out]
          refine ⟨b0, b1, b2, b3, b4, true, b6, b7, b8, b9, b10, b11, t8, t9, t10, t11, t12, _, t14, t15, t16, t17, t18, rfl, rfl, hA, hP, hR, g0, g1, g2, g3, g4, (fun _ => rfl), g6, g7, g8, g9, g10, (fun h => by first | exact g11 h | rfl | simp_all), (fun h => by first | exact g12 h | rfl | simp_all)⟩
        · -- 6
          refine wpOp_last rfl (fun a w k => k) ?_
          go_wp2_with fail
          refine then_normal ?_
          rw [HInv.out]
          refine ⟨b0, b1, b2, b3, b4, b5, true, b7, b8, b9, b10, b11, t8, t9, t10, t11, t12, t13, _, t15, t16, t17, t18, rfl, rfl, hA, hP, hR, g0, g1, g2, g3, g4, g5, (fun _ => rfl), g7, g8, g9, g10, (fun h => by first | exact g11 h | rfl | simp_all), (fun h => by first | exact g12 h | rfl | simp_all)⟩
        · -- 7
          refine wpOp_last rfl (fun a w k => k) ?_
          go_wp2_with fail
          refine then_normal ?_
          rw [HInv.out]
          refine ⟨b0, b1, b2, b3, b4, b5, b6, true, b8, b9, b10, b11, t8, t9, t10, t11, t12, t13, t14, _, t16, t17, t18, rfl, rfl, hA, hP, hR, g0, g1, g2, g3, g4, g5, g6, (fun _ => rfl), g8, g9, g10, (fun h => by first | exact g11 h | rfl | simp_all), (fun h => by first | exact g12 h | rfl | simp_all)⟩
        · -- 8
          obtain ⟨d5, d6, d7⟩ : b5 = true ∧ b6 = true ∧ b7 = true := by simpa [Region.binds] using hi2.2
          obtain rfl := g5 d5
          obtain rfl := g6 d6
          obtain rfl := g7 d7
          refine wpOp_last rfl (fun a w k => k) ?_
          go_wp2_with fail
          refine (HBR.out W hA).mono ?_
          rintro e w7 ⟨hb7, v7, rfl, ho7⟩
          have hr7 := RowV.of_own ho7
          obtain ⟨q1, q2, rfl⟩ := own_slice ho7
          go_wp2_with fail
          refine then_normal ?_
          rw [HInv.out]
          refine ⟨b0, b1, b2, b3, b4, b5, b6, b7, true, b9, b10, b11, t8, t9, t10, t11, t12, _, _, _, _, t17, t18, rfl, rfl, bth hA hb7 (Nat.le_refl _), hP.below hb7 (lt_of_block hP), hR.below hb7 (lt_of_block hR), g0, g1, g2, g3, g4, (fun _ => rfl), (fun _ => rfl), (fun _ => rfl), (fun _ _ => hr7), g9, g10, (fun _ => rfl), (fun h => by first | exact g12 h | rfl | simp_all)⟩
        · -- 9
          obtain ⟨d4, d8⟩ : b4 = true ∧ b8 = true := by simpa [Region.binds] using hi2.2
          obtain rfl := g4 d4
          refine wpOp_last rfl (fun a w k => k) ?_
          go_wp2_with fail
          refine (HTM.out W _ hA (g8 d8 (by simpa using hi2.1))).mono ?_
          rintro e w7 ⟨he7, hb7⟩
          simp only [if_true] at he7
          subst he7
          go_wp2_with fail
          refine then_normal ?_
          rw [HInv.out]
          refine ⟨b0, b1, b2, b3, b4, b5, b6, b7, b8, true, b10, b11, t8, t9, t10, t11, _, t13, t14, t15, t16, _, t18, rfl, rfl, bth hA hb7 (Nat.le_refl _), hP.below hb7 (lt_of_block hP), hR.below hb7 (lt_of_block hR), g0, g1, g2, g3, (fun _ => rfl), g5, g6, g7, (fun _ h => absurd h (by simp)), (fun _ => rfl), g10, (fun h => by first | exact g11 h | rfl | simp_all), (fun _ => rfl)⟩
        · -- 10
          have d9 : b9 = true := by simpa [Region.binds] using hi2.2
          obtain rfl := g9 d9
          refine wpOp_last rfl (fun a w k => k) ?_
          go_wp2_with fail
          refine then_normal ?_
          rw [HInv.out]
          refine ⟨b0, b1, b2, b3, b4, b5, b6, b7, b8, true, true, b11, t8, t9, t10, t11, t12, t13, t14, t15, t16, _, _, rfl, rfl, hA, hP, hR, g0, g1, g2, g3, g4, g5, g6, g7, (fun _ h => absurd h (by simp)), (fun _ => rfl), (fun _ => rfl), (fun h => by first | exact g11 h | rfl | simp_all), (fun h => by first | exact g12 d9 | rfl | simp_all)⟩
        · -- 11
          have hd9 := hi2.2
          simp [Region.binds] at hd9
          have d10 : b10 = true := hd9.1
          have d9 : b9 = true := hd9.2.1
          clear hd9
          clear hi2
          obtain rfl := g10 d10
          obtain ⟨r0, r1⟩ := hR.cells
          have z0 := hR.soft 0
          have z1 := hR.soft 1
          refine wpOp_last rfl (fun a w k => k) ?_
          go_wp2_with fail
          refine then_normal ?_
          rw [HInv.out]
          (subst d10 d9; refine ⟨b0, b1, b2, b3, b4, b5, b6, b7, b8, true, true, true, t8, t9, t10, t11, t12, t13, t14, t15, t16, _, _, rfl, rfl, (hA.setCell (p := ⟨w.heap.size + 1, 0, none⟩) (by show _ ≤ _ + 1; omega) _).setCell (p := ⟨w.heap.size + 1, 1, none⟩) (by show _ ≤ _ + 1; omega) _, (hP.other (p := ⟨w.heap.size + 1, 0, none⟩) (by show _ ≠ _ + 1; omega) _).other (p := ⟨w.heap.size + 1, 1, none⟩) (by show _ ≠ _ + 1; omega) _, (hR.set0 _).set1 _, g0, g1, g2, g3, g4, g5, g6, g7, (fun _ h => absurd h (by simp)), (fun _ => rfl), (fun _ => rfl), (fun h => by first | exact g11 h | rfl | simp_all), (fun h => by first | exact g12 d9 | rfl | simp_all)⟩)
      · intro L a W hI hd
        rw [HInv.out] at hI
        obtain ⟨b0, b1, b2, b3, b4, b5, b6, b7, b8, b9, b10, b11, t8, t9, t10, t11, t12, t13, t14, t15, t16, t17, t18, hL, hact, hA, hP, hR, g0, g1, g2, g3, g4, g5, g6, g7, g8, g9, g10, g11, g12⟩ := hI
        subst hL hact
        have hall := List.filter_eq_nil_iff.1 hd
        clear hd
        have e0 : b0 = true := by have := hall 0 (by simp); simpa using this
        have e2 : b2 = true := by have := hall 2 (by simp); simpa using this
        have e5 : b5 = true := by have := hall 5 (by simp); simpa using this
        have e6 : b6 = true := by have := hall 6 (by simp); simpa using this
        have e7 : b7 = true := by have := hall 7 (by simp); simpa using this
        subst e0 e2 e5 e6 e7
        have e1 : b1 = true := by have := hall 1 (by simp); simpa [Region.binds] using this
        subst e1
        have e3 : b3 = true := by have := hall 3 (by simp); simpa [Region.binds] using this
        subst e3
        have e4 : b4 = true := by have := hall 4 (by simp); simpa [Region.binds] using this
        have e8 : b8 = true := by have := hall 8 (by simp); simpa [Region.binds] using this
        subst e4 e8
        have e9 : b9 = true := by have := hall 9 (by simp); simpa [Region.binds] using this
        subst e9
        have e10 : b10 = true := by have := hall 10 (by simp); simpa [Region.binds] using this
        subst e10
        have e11 : b11 = true := by have := hall 11 (by simp); simpa [Region.binds] using this
        subst e11
        clear hall
        go_wp2_with fail
        refine leaves_cons (f := 117) (args := #[.pointer (some ⟨w.heap.size + 1, 0, none⟩)]) (by simp) (by simp [go_sem]) ?_
        refine (catch_idle (w.heap.size + 1) W).mono ?_
        rintro e u' w'' ⟨rfl, rfl, rfl⟩
        exact ⟨_, results_cellR rfl rfl (load_res hR.cells.1 hR.cells.2), rfl, hA⟩
    | false =>
      obtain ⟨Inv, hInv⟩ : ∃ Inv, Inv = MakeAt (.agg #[.slice an ls.length cn, .slice ao l.length co, .slice as0 bs.length cs, .slice (some ⟨gr, or', none⟩) rs.length cr]) (.slice am m.length cm) (.slice (some ⟨gr, or', none⟩) rs.length cr) (.slice ar2 rs[t].length cr2) (.slice an ls.length cn) (.slice ao l.length co) (.slice as0 bs.length cs) (.slice (some ⟨gr, or', none⟩) rs.length cr) t gr or' (bodiesL m ls[t]) tx [{ target := .fn (.func 117) #[.pointer (some ⟨w.heap.size + 1, 0, none⟩)], args := #[] }] false false w := ⟨_, rfl⟩
      have HInv := Lib.hid hInv
      clear hInv
      refine wp_region_inv (by kernel_rfl) Inv ?_ ?_ ?_
      · rw [HInv.out]
        exact ⟨false, false, false, false, false, false, false, false, false, false, false, false, undef, undef, undef, undef, undef, undef, undef, undef, undef, undef, undef, rfl, rfl, Below.drew HA.out, P0.out, R0.out, by simp, by simp, by simp, by simp, by simp, by simp, by simp, by simp, by simp, by simp, by simp, by simp, by simp⟩
      · intro L a W i hI hi
        rw [HInv.out] at hI
        obtain ⟨b0, b1, b2, b3, b4, b5, b6, b7, b8, b9, b10, b11, t8, t9, t10, t11, t12, t13, t14, t15, t16, t17, t18, hL, hact, hA, hP, hR, g0, g1, g2, g3, g4, g5, g6, g7, g8, g9, g10, g11, g12⟩ := hI
        subst hL hact
        obtain ⟨hi1, hi2⟩ := List.mem_filter.1 hi
        clear hi
        rw [Bool.and_eq_true] at hi2
        have hi3 : i < 12 := by simpa using hi1
        clear hi1
        rcases (by omega : i = 0 ∨ i = 1 ∨ i = 2 ∨ i = 3 ∨ i = 4 ∨ i = 5 ∨ i = 6 ∨ i = 7 ∨ i = 8 ∨ i = 9 ∨ i = 10 ∨ i = 11) with rfl | rfl | rfl | rfl | rfl | rfl | rfl | rfl | rfl | rfl | rfl | rfl
        · -- 0
          refine wpOp_last rfl (fun a w k => k) ?_
          go_wp2_with fail
          refine then_normal ?_
          rw [HInv.out]
          refine ⟨true, b1, b2, b3, b4, b5, b6, b7, b8, b9, b10, b11, _, t9, t10, t11, t12, t13, t14, t15, t16, t17, t18, rfl, rfl, hA, hP, hR, (fun _ => rfl), g1, g2, g3, g4, g5, g6, g7, g8, g9, g10, (fun h => by first | exact g11 h | rfl | simp_all), (fun h => by first | exact g12 h | rfl | simp_all)⟩
        · -- 1
          have d0 : b0 = true := by simpa [Region.binds] using hi2.2
          obtain rfl := g0 d0
          obtain ⟨c0, c1, c2, c3⟩ := hP.cells
          refine wpOp_last rfl (fun a w k => k) ?_
          go_wp2_with fail
          refine then_normal ?_
          rw [HInv.out]
          refine ⟨true, true, b2, b3, b4, b5, b6, b7, b8, b9, b10, b11, _, _, t10, t11, t12, t13, t14, t15, t16, t17, t18, rfl, rfl, hA, hP, hR, (fun _ => rfl), (fun _ => rfl), g2, g3, g4, g5, g6, g7, g8, g9, g10, (fun h => by first | exact g11 h | rfl | simp_all), (fun h => by first | exact g12 h | rfl | simp_all)⟩
        · -- 2
          refine wpOp_last rfl (fun a w k => k) ?_
          go_wp2_with fail
          refine then_normal ?_
          rw [HInv.out]
          refine ⟨b0, b1, true, b3, b4, b5, b6, b7, b8, b9, b10, b11, t8, t9, _, t11, t12, t13, t14, t15, t16, t17, t18, rfl, rfl, hA, hP, hR, g0, g1, (fun _ => rfl), g3, g4, g5, g6, g7, g8, g9, g10, (fun h => by first | exact g11 h | rfl | simp_all), (fun h => by first | exact g12 h | rfl | simp_all)⟩
        · -- 3
          obtain ⟨d1, d2⟩ : b1 = true ∧ b2 = true := by simpa [Region.binds] using hi2.2
          obtain rfl := g1 d1
          obtain rfl := g2 d2
          refine wpOp_last rfl (fun a w k => k) ?_
          go_wp2_with fail
          refine then_normal ?_
          rw [HInv.out]
          refine ⟨b0, true, true, true, b4, b5, b6, b7, b8, b9, b10, b11, t8, _, _, _, t12, t13, t14, t15, t16, t17, t18, rfl, rfl, hA, hP, hR, g0, (fun _ => rfl), (fun _ => rfl), (fun _ => rfl), g4, g5, g6, g7, g8, g9, g10, (fun h => by first | exact g11 h | rfl | simp_all), (fun h => by first | exact g12 h | rfl | simp_all)⟩
        · -- 4
          have d3 : b3 = true := by simpa [Region.binds] using hi2.2
          obtain rfl := g3 d3
          have hcw := (hA.cell (p := ⟨gr, or' + t, none⟩) hgr).trans hcr0
          refine wpOp_last rfl (fun a w k => k) ?_
          go_wp2_with fail
          refine then_normal ?_
          rw [HInv.out]
          refine ⟨b0, b1, b2, true, true, b5, b6, b7, b8, b9, b10, b11, t8, t9, t10, _, _, t13, t14, t15, t16, t17, t18, rfl, rfl, hA, hP, hR, g0, g1, g2, (fun _ => rfl), (fun _ => rfl), g5, g6, g7, g8, g9, g10, (fun h => by first | exact g11 h | rfl | simp_all), (fun h => by first | exact g12 h | rfl | simp_all)⟩
        · -- 5
          obtain ⟨c0, c1, c2, c3⟩ := hP.cells
          refine wpOp_last rfl (fun a w k => k) ?_
          go_wp2_with fail
          refine then_normal ?_
          rw [HInv.out]
          refine ⟨b0, b1, b2, b3, b4, true, b6, b7, b8, b9, b10, b11, t8, t9, t10, t11, t12, _, t14, t15, t16, t17, t18, rfl, rfl, hA, hP, hR, g0, g1, g2, g3, g4, (fun _ => rfl), g6, g7, g8, g9, g10, (fun h => by first | exact g11 h | rfl | simp_all), (fun h => by first | exact g12 h | rfl | simp_all)⟩
        · -- 6
          refine wpOp_last rfl (fun a w k => k) ?_
          go_wp2_with fail
          refine then_normal ?_
          rw [HInv.out]
          refine ⟨b0, b1, b2, b3, b4, b5, true, b7, b8, b9, b10, b11, t8, t9, t10, t11, t12, t13, _, t15, t16, t17, t18, rfl, rfl, hA, hP, hR, g0, g1, g2, g3, g4, g5, (fun _ => rfl), g7, g8, g9, g10, (fun h => by first | exact g11 h | rfl | simp_all), (fun h => by first | exact g12 h | rfl | simp_all)⟩
        · -- 7
          refine wpOp_last rfl (fun a w k => k) ?_
          go_wp2_with fail
          refine then_normal ?_
          rw [HInv.out]
          refine ⟨b0, b1, b2, b3, b4, b5, b6, true, b8, b9, b10, b11, t8, t9, t10, t11, t12, t13, t14, _, t16, t17, t18, rfl, rfl, hA, hP, hR, g0, g1, g2, g3, g4, g5, g6, (fun _ => rfl), g8, g9, g10, (fun h => by first | exact g11 h | rfl | simp_all), (fun h => by first | exact g12 h | rfl | simp_all)⟩
        · -- 8
          obtain ⟨d5, d6, d7⟩ : b5 = true ∧ b6 = true ∧ b7 = true := by simpa [Region.binds] using hi2.2
          obtain rfl := g5 d5
          obtain rfl := g6 d6
          obtain rfl := g7 d7
          refine wpOp_last rfl (fun a w k => k) ?_
          go_wp2_with fail
          refine (HBR.out W hA).mono ?_
          rintro e w7 ⟨hb7, v7, rfl, ho7⟩
          have hr7 := RowV.of_own ho7
          obtain ⟨q1, q2, rfl⟩ := own_slice ho7
          go_wp2_with fail
          refine then_normal ?_
          rw [HInv.out]
          refine ⟨b0, b1, b2, b3, b4, b5, b6, b7, true, b9, b10, b11, t8, t9, t10, t11, t12, _, _, _, _, t17, t18, rfl, rfl, bth hA hb7 (Nat.le_refl _), hP.below hb7 (lt_of_block hP), hR.below hb7 (lt_of_block hR), g0, g1, g2, g3, g4, (fun _ => rfl), (fun _ => rfl), (fun _ => rfl), (fun _ _ => hr7), g9, g10, (fun _ => rfl), (fun h => by first | exact g12 h | rfl | simp_all)⟩
        · -- 9
          obtain ⟨d4, d8⟩ : b4 = true ∧ b8 = true := by simpa [Region.binds] using hi2.2
          obtain rfl := g4 d4
          refine wpOp_last rfl (fun a w k => k) ?_
          go_wp2_with fail
          refine (HTM.out W _ hA (g8 d8 (by simpa using hi2.1))).mono ?_
          rintro e w7 ⟨he7, hb7⟩
          simp only [Bool.false_eq_true, if_false] at he7
          subst he7
          go_wp2_with fail
          refine leaves_cons (f := 117) (args := #[.pointer (some ⟨w.heap.size + 1, 0, none⟩)]) (by simp) (by simp [go_sem]) ?_
          have hR7 := hR.below hb7 (lt_of_block hR)
          refine (catch_up (w.heap.size + 1) 1 _ _ [] w7 hR7.cells.1 hR7.cells.2 (hR7.soft 0) (hR7.soft 1)).mono ?_
          rintro e u' w'' ⟨rfl, rfl, rfl⟩
          have hZ := (hR7.set0 (.string ByteArray.empty)).set1 (.int .i64 1)
          exact ⟨_, results_cellR rfl rfl (load_res hZ.cells.1 hZ.cells.2), rfl, ((bth hA hb7 (Nat.le_refl _)).setCell (p := ⟨w.heap.size + 1, 0, none⟩) (by show _ ≤ _ + 1; omega) _).setCell (p := ⟨w.heap.size + 1, 1, none⟩) (by show _ ≤ _ + 1; omega) _⟩
        · -- 10
          have d9 : b9 = true := by simpa [Region.binds] using hi2.2
          exact absurd (g12 d9) (by simp)
        · -- 11
          have hd9 := hi2.2
          simp [Region.binds] at hd9
          exact absurd (g12 hd9.2.1) (by simp)
      · intro L a W hI hd
        rw [HInv.out] at hI
        obtain ⟨b0, b1, b2, b3, b4, b5, b6, b7, b8, b9, b10, b11, t8, t9, t10, t11, t12, t13, t14, t15, t16, t17, t18, hL, hact, hA, hP, hR, g0, g1, g2, g3, g4, g5, g6, g7, g8, g9, g10, g11, g12⟩ := hI
        subst hL hact
        have hall := List.filter_eq_nil_iff.1 hd
        clear hd
        have e0 : b0 = true := by have := hall 0 (by simp); simpa using this
        have e2 : b2 = true := by have := hall 2 (by simp); simpa using this
        have e5 : b5 = true := by have := hall 5 (by simp); simpa using this
        have e6 : b6 = true := by have := hall 6 (by simp); simpa using this
        have e7 : b7 = true := by have := hall 7 (by simp); simpa using this
        subst e0 e2 e5 e6 e7
        have e1 : b1 = true := by have := hall 1 (by simp); simpa [Region.binds] using this
        subst e1
        have e3 : b3 = true := by have := hall 3 (by simp); simpa [Region.binds] using this
        subst e3
        have e4 : b4 = true := by have := hall 4 (by simp); simpa [Region.binds] using this
        have e8 : b8 = true := by have := hall 8 (by simp); simpa [Region.binds] using this
        subst e4 e8
        have e9 : b9 = true := by have := hall 9 (by simp); simpa [Region.binds] using this
        subst e9
        have e10 : b10 = true := by have := hall 10 (by simp); simpa [Region.binds] using this
        subst e10
        have e11 : b11 = true := by have := hall 11 (by simp); simpa [Region.binds] using this
        subst e11
        clear hall
        exact absurd (g12 rfl) (by simp)
  | true =>
    simp only [if_true] at HBR
    obtain ⟨Inv, hInv⟩ : ∃ Inv, Inv = MakeAt (.agg #[.slice an ls.length cn, .slice ao l.length co, .slice as0 bs.length cs, .slice (some ⟨gr, or', none⟩) rs.length cr]) (.slice am m.length cm) (.slice (some ⟨gr, or', none⟩) rs.length cr) (.slice ar2 rs[t].length cr2) (.slice an ls.length cn) (.slice ao l.length co) (.slice as0 bs.length cs) (.slice (some ⟨gr, or', none⟩) rs.length cr) t gr or' (bodiesL m ls[t]) tx [{ target := .fn (.func 117) #[.pointer (some ⟨w.heap.size + 1, 0, none⟩)], args := #[] }] true did w := ⟨_, rfl⟩
    have HInv := Lib.hid hInv
    clear hInv
    refine wp_region_inv (by kernel_rfl) Inv ?_ ?_ ?_
    · rw [HInv.out]
      exact ⟨false, false, false, false, false, false, false, false, false, false, false, false, undef, undef, undef, undef, undef, undef, undef, undef, undef, undef, undef, rfl, rfl, Below.drew HA.out, P0.out, R0.out, by simp, by simp, by simp, by simp, by simp, by simp, by simp, by simp, by simp, by simp, by simp, by simp, by simp⟩
    · intro L a W i hI hi
      rw [HInv.out] at hI
      obtain ⟨b0, b1, b2, b3, b4, b5, b6, b7, b8, b9, b10, b11, t8, t9, t10, t11, t12, t13, t14, t15, t16, t17, t18, hL, hact, hA, hP, hR, g0, g1, g2, g3, g4, g5, g6, g7, g8, g9, g10, g11, g12⟩ := hI
      subst hL hact
      obtain ⟨hi1, hi2⟩ := List.mem_filter.1 hi
      clear hi
      rw [Bool.and_eq_true] at hi2
      have hi3 : i < 12 := by simpa using hi1
      clear hi1
      rcases (by omega : i = 0 ∨ i = 1 ∨ i = 2 ∨ i = 3 ∨ i = 4 ∨ i = 5 ∨ i = 6 ∨ i = 7 ∨ i = 8 ∨ i = 9 ∨ i = 10 ∨ i = 11) with rfl | rfl | rfl | rfl | rfl | rfl | rfl | rfl | rfl | rfl | rfl | rfl
      · -- 0
        refine wpOp_last rfl (fun a w k => k) ?_
        go_wp2_with fail
        refine then_normal ?_
        rw [HInv.out]
        refine ⟨true, b1, b2, b3, b4, b5, b6, b7, b8, b9, b10, b11, _, t9, t10, t11, t12, t13, t14, t15, t16, t17, t18, rfl, rfl, hA, hP, hR, (fun _ => rfl), g1, g2, g3, g4, g5, g6, g7, g8, g9, g10, (fun h => by first | exact g11 h | rfl | simp_all), (fun h => by first | exact g12 h | rfl | simp_all)⟩
      · -- 1
        have d0 : b0 = true := by simpa [Region.binds] using hi2.2
        obtain rfl := g0 d0
        obtain ⟨c0, c1, c2, c3⟩ := hP.cells
        refine wpOp_last rfl (fun a w k => k) ?_
        go_wp2_with fail
        refine then_normal ?_
        rw [HInv.out]
        refine ⟨true, true, b2, b3, b4, b5, b6, b7, b8, b9, b10, b11, _, _, t10, t11, t12, t13, t14, t15, t16, t17, t18, rfl, rfl, hA, hP, hR, (fun _ => rfl), (fun _ => rfl), g2, g3, g4, g5, g6, g7, g8, g9, g10, (fun h => by first | exact g11 h | rfl | simp_all), (fun h => by first | exact g12 h | rfl | simp_all)⟩
      · -- 2
        refine wpOp_last rfl (fun a w k => k) ?_
        go_wp2_with fail
        refine then_normal ?_
        rw [HInv.out]
        refine ⟨b0, b1, true, b3, b4, b5, b6, b7, b8, b9, b10, b11, t8, t9, _, t11, t12, t13, t14, t15, t16, t17, t18, rfl, rfl, hA, hP, hR, g0, g1, (fun _ => rfl), g3, g4, g5, g6, g7, g8, g9, g10, (fun h => by first | exact g11 h | rfl | simp_all), (fun h => by first | exact g12 h | rfl | simp_all)⟩
      · -- 3
        obtain ⟨d1, d2⟩ : b1 = true ∧ b2 = true := by simpa [Region.binds] using hi2.2
        obtain rfl := g1 d1
        obtain rfl := g2 d2
        refine wpOp_last rfl (fun a w k => k) ?_
        go_wp2_with fail
        refine then_normal ?_
        rw [HInv.out]
        refine ⟨b0, true, true, true, b4, b5, b6, b7, b8, b9, b10, b11, t8, _, _, _, t12, t13, t14, t15, t16, t17, t18, rfl, rfl, hA, hP, hR, g0, (fun _ => rfl), (fun _ => rfl), (fun _ => rfl), g4, g5, g6, g7, g8, g9, g10, (fun h => by first | exact g11 h | rfl | simp_all), (fun h => by first | exact g12 h | rfl | simp_all)⟩
      · -- 4
        have d3 : b3 = true := by simpa [Region.binds] using hi2.2
        obtain rfl := g3 d3
        have hcw := (hA.cell (p := ⟨gr, or' + t, none⟩) hgr).trans hcr0
        refine wpOp_last rfl (fun a w k => k) ?_
        go_wp2_with fail
        refine then_normal ?_
        rw [HInv.out]
        refine ⟨b0, b1, b2, true, true, b5, b6, b7, b8, b9, b10, b11, t8, t9, t10, _, _, t13, t14, t15, t16, t17, t18, rfl, rfl, hA, hP, hR, g0, g1, g2, (fun _ => rfl), (fun _ => rfl), g5, g6, g7, g8, g9, g10, (fun h => by first | exact g11 h | rfl | simp_all), (fun h => by first | exact g12 h | rfl | simp_all)⟩
      · -- 5
        obtain ⟨c0, c1, c2, c3⟩ := hP.cells
        refine wpOp_last rfl (fun a w k => k) ?_
        go_wp2_with fail
        refine then_normal ?_
        rw [HInv.out]
        refine ⟨b0, b1, b2, b3, b4, true, b6, b7, b8, b9, b10, b11, t8, t9, t10, t11, t12, _, t14, t15, t16, t17, t18, rfl, rfl, hA, hP, hR, g0, g1, g2, g3, g4, (fun _ => rfl), g6, g7, g8, g9, g10, (fun h => by first | exact g11 h | rfl | simp_all), (fun h => by first | exact g12 h | rfl | simp_all)⟩
      · -- 6
        refine wpOp_last rfl (fun a w k => k) ?_
        go_wp2_with fail
        refine then_normal ?_
        rw [HInv.out]
        refine ⟨b0, b1, b2, b3, b4, b5, true, b7, b8, b9, b10, b11, t8, t9, t10, t11, t12, t13, _, t15, t16, t17, t18, rfl, rfl, hA, hP, hR, g0, g1, g2, g3, g4, g5, (fun _ => rfl), g7, g8, g9, g10, (fun h => by first | exact g11 h | rfl | simp_all), (fun h => by first | exact g12 h | rfl | simp_all)⟩
      · -- 7
        refine wpOp_last rfl (fun a w k => k) ?_
        go_wp2_with fail
        refine then_normal ?_
        rw [HInv.out]
        refine ⟨b0, b1, b2, b3, b4, b5, b6, true, b8, b9, b10, b11, t8, t9, t10, t11, t12, t13, t14, _, t16, t17, t18, rfl, rfl, hA, hP, hR, g0, g1, g2, g3, g4, g5, g6, (fun _ => rfl), g8, g9, g10, (fun h => by first | exact g11 h | rfl | simp_all), (fun h => by first | exact g12 h | rfl | simp_all)⟩
      · -- 8
        obtain ⟨d5, d6, d7⟩ : b5 = true ∧ b6 = true ∧ b7 = true := by simpa [Region.binds] using hi2.2
        obtain rfl := g5 d5
        obtain rfl := g6 d6
        obtain rfl := g7 d7
        refine wpOp_last rfl (fun a w k => k) ?_
        go_wp2_with fail
        refine (HBR.out W hA).mono ?_
        rintro e w7 ⟨hb7, rfl⟩
        go_wp2_with fail
        refine leaves_cons (f := 117) (args := #[.pointer (some ⟨w.heap.size + 1, 0, none⟩)]) (by simp) (by simp [go_sem]) ?_
        have hR7 := hR.below hb7 (lt_of_block hR)
        refine (catch_up (w.heap.size + 1) 2 _ _ [] w7 hR7.cells.1 hR7.cells.2 (hR7.soft 0) (hR7.soft 1)).mono ?_
        rintro e u' w'' ⟨rfl, rfl, rfl⟩
        have hZ := (hR7.set0 (.string ByteArray.empty)).set1 (.int .i64 2)
        exact ⟨_, results_cellR rfl rfl (load_res hZ.cells.1 hZ.cells.2), rfl, ((bth hA hb7 (Nat.le_refl _)).setCell (p := ⟨w.heap.size + 1, 0, none⟩) (by show _ ≤ _ + 1; omega) _).setCell (p := ⟨w.heap.size + 1, 1, none⟩) (by show _ ≤ _ + 1; omega) _⟩
      · -- 9
        obtain ⟨d4, d8⟩ : b4 = true ∧ b8 = true := by simpa [Region.binds] using hi2.2
        exact absurd (g11 d8) (by simp)
      · -- 10
        have d9 : b9 = true := by simpa [Region.binds] using hi2.2
        obtain rfl := g9 d9
        refine wpOp_last rfl (fun a w k => k) ?_
        go_wp2_with fail
        refine then_normal ?_
        rw [HInv.out]
        refine ⟨b0, b1, b2, b3, b4, b5, b6, b7, b8, true, true, b11, t8, t9, t10, t11, t12, t13, t14, t15, t16, _, _, rfl, rfl, hA, hP, hR, g0, g1, g2, g3, g4, g5, g6, g7, (fun _ h => absurd h (by simp)), (fun _ => rfl), (fun _ => rfl), (fun h => by first | exact g11 h | rfl | simp_all), (fun h => by first | exact g12 d9 | rfl | simp_all)⟩
      · -- 11
        have hd9 := hi2.2
        simp [Region.binds] at hd9
        have d10 : b10 = true := hd9.1
        have d9 : b9 = true := hd9.2.1
        clear hd9
        clear hi2
        obtain rfl := g10 d10
        obtain ⟨r0, r1⟩ := hR.cells
        have z0 := hR.soft 0
        have z1 := hR.soft 1
        refine wpOp_last rfl (fun a w k => k) ?_
        go_wp2_with fail
        refine then_normal ?_
        rw [HInv.out]
        (subst d10 d9; refine ⟨b0, b1, b2, b3, b4, b5, b6, b7, b8, true, true, true, t8, t9, t10, t11, t12, t13, t14, t15, t16, _, _, rfl, rfl, (hA.setCell (p := ⟨w.heap.size + 1, 0, none⟩) (by show _ ≤ _ + 1; omega) _).setCell (p := ⟨w.heap.size + 1, 1, none⟩) (by show _ ≤ _ + 1; omega) _, (hP.other (p := ⟨w.heap.size + 1, 0, none⟩) (by show _ ≠ _ + 1; omega) _).other (p := ⟨w.heap.size + 1, 1, none⟩) (by show _ ≠ _ + 1; omega) _, (hR.set0 _).set1 _, g0, g1, g2, g3, g4, g5, g6, g7, (fun _ h => absurd h (by simp)), (fun _ => rfl), (fun _ => rfl), (fun h => by first | exact g11 h | rfl | simp_all), (fun h => by first | exact g12 d9 | rfl | simp_all)⟩)
    · intro L a W hI hd
      rw [HInv.out] at hI
      obtain ⟨b0, b1, b2, b3, b4, b5, b6, b7, b8, b9, b10, b11, t8, t9, t10, t11, t12, t13, t14, t15, t16, t17, t18, hL, hact, hA, hP, hR, g0, g1, g2, g3, g4, g5, g6, g7, g8, g9, g10, g11, g12⟩ := hI
      subst hL hact
      have hall := List.filter_eq_nil_iff.1 hd
      clear hd
      have e0 : b0 = true := by have := hall 0 (by simp); simpa using this
      have e2 : b2 = true := by have := hall 2 (by simp); simpa using this
      have e5 : b5 = true := by have := hall 5 (by simp); simpa using this
      have e6 : b6 = true := by have := hall 6 (by simp); simpa using this
      have e7 : b7 = true := by have := hall 7 (by simp); simpa using this
      subst e0 e2 e5 e6 e7
      have e1 : b1 = true := by have := hall 1 (by simp); simpa [Region.binds] using this
      subst e1
      have e3 : b3 = true := by have := hall 3 (by simp); simpa [Region.binds] using this
      subst e3
      have e4 : b4 = true := by have := hall 4 (by simp); simpa [Region.binds] using this
      have e8 : b8 = true := by have := hall 8 (by simp); simpa [Region.binds] using this
      subst e4 e8
      have e9 : b9 = true := by have := hall 9 (by simp); simpa [Region.binds] using this
      subst e9
      have e10 : b10 = true := by have := hall 10 (by simp); simpa [Region.binds] using this
      subst e10
      have e11 : b11 = true := by have := hall 11 (by simp); simpa [Region.binds] using this
      subst e11
      clear hall
      exact absurd (g11 rfl) (by simp)
end Go.Proofs.YtgolhfmmlanmlaaGreatDoor

/- Walks: the reference's RunRecipe, whole. -/
namespace Go.Proofs.YtgolhfmmlanmlaaGreatDoor
open Go.RowKit Pth

theorem goodR_all {r : List OpT} {ins : Int} (h : goodR r ins = true) : r.all (opOk ins) = true := (goodR_iff.1 h).2.2.2

end Go.Proofs.YtgolhfmmlanmlaaGreatDoor

/- Walks: slices.ContainsFunc at texts that are too long. -/
namespace Go.Proofs.YtgolhfmmlanmlaaGreatDoor
open Go.RowKit Pth

/-- Whether one is too long. -/
def longL (l : List (List UInt8)) : Bool := l.any (fun x => decide (40 < x.length))
theorem long_at {l : List (List UInt8)} {k : Nat} (h : k < l.length) (hx : 40 < l[k].length) : longL l = true := by
  rw [longL, List.any_eq_true]
  exact ⟨l[k], List.getElem_mem h, by simpa using hx⟩
theorem long_none {l : List (List UInt8)} (h : ∀ x ∈ l, x.length ≤ 40) : longL l = false := by
  rw [longL, List.any_eq_false]
  intro x hm
  have := h x hm
  simp; omega
/-- A place, or -1 where there is none. -/
def PlacePostO (b : Bool) (w : World) (e : Ending) (w' : World) : Prop := ∃ i : Int, e = .returned (.int .i64 i) ∧ (0 ≤ i ↔ b = true) ∧ w' = w

set_option maxRecDepth 20000 in
set_option maxHeartbeats 1000000 in
theorem index_anyO (l : List (List UInt8)) (v : Value) (w : World) (hrow : RowV w v (S l)) (hx : ∀ x ∈ l, x.length ≤ maxLen) :
    Calls Tryz.prog 155 #[v, .func (.func 82) #[] #[]] w (PlacePostO (longL l) w) := by
  obtain ⟨a, cap, rfl, hc1, hc2, hat⟩ := hrow.texts
  clear hrow
  have HL : Hid (∀ x ∈ l, ∀ W, Calls Tryz.prog 82 #[.string ⟨x.toArray⟩] W fun e w' => e = .returned (.bool (decide (40 < x.length))) ∧ w' = W) := fun x hm W => long_any x W (hx x hm)
  clear hx
  unfold maxLen at hc2
  go_enter Tryz.func155, Tryz.ntmps155
  go_wp2_with fail
  go_loop [8] (fun i => ∃ k : Nat, k ≤ l.length ∧ i = .int .i64 k ∧ Hid (∀ x ∈ l.take k, x.length ≤ 40)) (fun i => l.length - (intOf i).toNat)
  case atStart => exact ⟨0, Nat.zero_le _, by go_num, by simp [Hid]⟩
  case round =>
    obtain ⟨k, hk, rfl, HO⟩ := hrel
    by_cases hlt : k < l.length
    · obtain ⟨g, o, rfl, hg, hcell⟩ := hat k hlt
      have HC := Lib.hid (HL.out l[k] (List.getElem_mem hlt) w)
      have hltz : (k : Int) < (l.length : Int) := by omega
      by_cases hy : (l[k]).length ≤ 40
      · have HS := Lib.hid (take_next hlt HO.out hy)
        rw [show decide (40 < (l[k]).length) = false from decide_eq_false (by omega)] at HC
        generalize l[k] = x at hcell hy HC
        clear hat HO HL
        go_wp2_with (go_at_call 82; refine HC.out.mono ?_; rintro e w1 ⟨rfl, rfl⟩)
        go_round
        case rel => exact ⟨k + 1, by omega, by go_num, HS⟩
        case measure => simp [intOf]; omega
      · have HS := Lib.hid (long_at hlt (by omega))
        rw [show decide (40 < (l[k]).length) = true from decide_eq_true (by omega)] at HC
        generalize l[k] = x at hcell hy HC
        clear hat HO HL
        go_wp2_with (go_at_call 82; refine HC.out.mono ?_; rintro e w1 ⟨rfl, rfl⟩)
        go_ret
        exact ⟨(k : Int), rfl, by rw [HS.out]; simp, rfl⟩
    · have HS := Lib.hid (long_none (l := l) (fun x hm => HO.out x (by rw [List.take_of_length_le (by omega)]; exact hm)))
      have hltz : ¬ ((k : Int) < (l.length : Int)) := by omega
      clear hat HO HL
      go_wp2_with fail
      go_ret
      exact ⟨-1, rfl, by rw [HS.out]; simp, rfl⟩

set_option maxRecDepth 20000 in
set_option maxHeartbeats 1000000 in
theorem contains_anyO (l : List (List UInt8)) (v : Value) (w : World) (hrow : RowV w v (S l)) (hx : ∀ x ∈ l, x.length ≤ maxLen) :
    Calls Tryz.prog 138 #[v, .func (.func 82) #[] #[]] w fun e w' => e = .returned (.bool (longL l)) ∧ w' = w := by
  have HC := Lib.hid (index_anyO l v w hrow hx)
  clear hrow hx
  go_enter Tryz.func138, Tryz.ntmps138
  go_wp2_with fail
  refine HC.out.mono ?_
  rintro e w1 ⟨i, rfl, hi, rfl⟩
  have HI := Lib.hid hi
  clear hi HC
  go_wp2_with fail
  go_ret
  refine ⟨?_, rfl⟩
  show Ending.returned (.bool (decide (0 ≤ i))) = _
  congr 2
  rw [Bool.eq_iff_iff, decide_eq_true_eq]
  exact HI.out

end Go.Proofs.YtgolhfmmlanmlaaGreatDoor

/- Walks: the program's deeds on texts. -/
namespace Go.Proofs.YtgolhfmmlanmlaaGreatDoor
open Go.RowKit Pth

theorem runOk_is (r : List OpT) (ins : List (List UInt8)) : runOk r ins = (goodR r ins.length && !longL ins) := by
  rcases hg : goodR r (ins.length : Int) with _ | _
  · simp [runOk, hg]
  · have h10 : ins.length ≤ 10 := by have := (goodR_iff.1 hg).2.1; omega
    rcases hl : longL ins with _ | _
    · rw [longL, List.any_eq_false] at hl
      have : textsL ins = true := by
        simp only [textsL, Bool.and_eq_true, List.all_eq_true, decide_eq_true_eq]
        exact ⟨fun x hx => by have := hl x hx; simp at this; omega, h10⟩
      simp [runOk, hg, this]
    · rw [longL, List.any_eq_true] at hl
      obtain ⟨x, hx, hx2⟩ := hl
      have : textsL ins = false := by
        simp only [textsL, Bool.and_eq_false_iff]
        exact .inl (List.all_eq_false.2 ⟨x, hx, by simp at hx2 ⊢; omega⟩)
      simp [runOk, this]

set_option maxRecDepth 20000 in
set_option maxHeartbeats 1000000 in
theorem deedsOn_any (r : List OpT) (ins : List (List UInt8)) (v u : Value) (w : World) (hrow : RowO w v r) (hins : RowV w u (S ins)) (hx : ∀ x ∈ ins, x.length ≤ maxLen) :
    Calls Tryz.prog 156 #[v, u] w (DeedsPost r (runOk r ins) w) := by
  rw [runOk_is]
  have HD := Lib.hid (deedsOf_any r (ins.length : Int) v w hrow)
  have HL := Lib.hid (fun (W : World) (hb : Below w.heap.size w W) => contains_anyO ins u W (hins.below hb) hx)
  obtain ⟨a, cap, rfl, hc1, hc2, hat⟩ := hins.texts
  clear hins hat hx hrow
  unfold maxLen at hc2
  rcases hg : goodR r (ins.length : Int) with _ | _
  · rw [hg] at HD
    clear hg
    go_enter Tryz.func156, Tryz.ntmps156
    go_wp2_with fail
    refine HD.out.mono ?_
    rintro e w1 ⟨d, rfl, _, hb⟩
    go_wp2_with fail
    go_ret2
    exact deeds_bad rfl hb
  · rw [hg] at HD
    clear hg
    rcases hl : longL ins with _ | _
    · rw [hl] at HL
      clear hl
      go_enter Tryz.func156, Tryz.ntmps156
      go_wp2_with fail
      refine HD.out.mono ?_
      rintro e w1 ⟨d, rfl, hn, hb⟩
      have HC := Lib.hid (HL.out w1 hb)
      have HN := Lib.hid hn
      have HB := Lib.hid hb
      clear hn hb HL
      go_wp2_with fail
      refine HC.out.mono ?_
      rintro e w2 ⟨rfl, rfl⟩
      go_wp2_with fail
      go_ret2
      exact deeds_good rfl HN.out HB.out
    · rw [hl] at HL
      clear hl
      go_enter Tryz.func156, Tryz.ntmps156
      go_wp2_with fail
      refine HD.out.mono ?_
      rintro e w1 ⟨d, rfl, hn, hb⟩
      have HC := Lib.hid (HL.out w1 hb)
      have HB := Lib.hid hb
      clear hn hb HL
      go_wp2_with fail
      refine HC.out.mono ?_
      rintro e w2 ⟨rfl, rfl⟩
      go_wp2_with fail
      go_ret2
      exact deeds_bad rfl HB.out

end Go.Proofs.YtgolhfmmlanmlaaGreatDoor

/- Walks: the program's doDeed, a kind each. -/
namespace Go.Proofs.YtgolhfmmlanmlaaGreatDoor
open Go.RowKit Pth

set_option maxRecDepth 20000 in
set_option maxHeartbeats 2000000 in
theorem do_upper (n : Int) (t : List UInt8) (ins : List (List UInt8)) (u : Value) (acc : List UInt8) (w : World) (ha : acc.length ≤ 40) :
    Calls Tryz.prog 165 #[upperV, u, .string ⟨acc.toArray⟩] w (StepPost (rawT (3, n, t) ins acc) w) := by
  have HT := Lib.hid (show rawT (3, n, t) ins acc = some (upT acc) by simp [rawT])
  have HC := Lib.hid (fun W => upper_any acc W (by omega))
  unfold upperV
  have qcat := ta_upper_cat (.agg #[])
  have qtext := ta_upper_text (.agg #[])
  have qupper := ta_upper_upper (.agg #[])
  go_enter Tryz.func165, Tryz.ntmps165
  go_wp2_with fail
  refine (HC.out _).mono ?_
  rintro e w1 ⟨rfl, hb⟩
  have HB := Lib.hid (below_new hb)
  clear hb
  go_wp2_with fail
  go_ret2
  exact ⟨by rw [HT.out]; rfl, HB.out⟩

set_option maxRecDepth 20000 in
set_option maxHeartbeats 2000000 in
theorem do_sort (n : Int) (t : List UInt8) (ins : List (List UInt8)) (u : Value) (acc : List UInt8) (w : World) (ha : acc.length ≤ 40) :
    Calls Tryz.prog 165 #[sortV, u, .string ⟨acc.toArray⟩] w (StepPost (rawT (4, n, t) ins acc) w) := by
  have HT := Lib.hid (show rawT (4, n, t) ins acc = some (sortT acc) by simp [rawT])
  have HC := Lib.hid (fun W => sortBytes_any acc W (by omega))
  unfold sortV
  have qcat := ta_sort_cat (.agg #[])
  have qtext := ta_sort_text (.agg #[])
  have qupper := ta_sort_upper (.agg #[])
  have qsort := ta_sort_sort (.agg #[])
  go_enter Tryz.func165, Tryz.ntmps165
  go_wp2_with fail
  refine (HC.out _).mono ?_
  rintro e w1 ⟨rfl, hb⟩
  have HB := Lib.hid (below_new hb)
  clear hb
  go_wp2_with fail
  go_ret2
  exact ⟨by rw [HT.out]; rfl, HB.out⟩

set_option maxRecDepth 20000 in
set_option maxHeartbeats 2000000 in
theorem do_count (n : Int) (t : List UInt8) (ins : List (List UInt8)) (u : Value) (acc : List UInt8) (w : World) (ha : acc.length ≤ 40) :
    Calls Tryz.prog 165 #[countV, u, .string ⟨acc.toArray⟩] w (StepPost (rawT (6, n, t) ins acc) w) := by
  have HT := Lib.hid (show rawT (6, n, t) ins acc = some (numT acc.length) by simp [rawT])
  have HC := Lib.hid (fun W => itoa_any acc.length W (by omega))
  unfold countV
  have qcat := ta_count_cat (.agg #[])
  have qtext := ta_count_text (.agg #[])
  have qupper := ta_count_upper (.agg #[])
  have qsort := ta_count_sort (.agg #[])
  have qdrop := ta_count_drop (.agg #[])
  have qcount := ta_count_count (.agg #[])
  go_enter Tryz.func165, Tryz.ntmps165
  go_wp2_with fail
  refine (HC.out _).mono ?_
  rintro e w1 ⟨rfl, rfl⟩
  go_wp2_with fail
  go_ret2
  exact ⟨by rw [HT.out]; rfl, (Below.refl _ _).alloc (Nat.le_refl _) _⟩

set_option maxRecDepth 20000 in
set_option maxHeartbeats 2000000 in
theorem do_fail (n : Int) (t : List UInt8) (ins : List (List UInt8)) (u : Value) (acc : List UInt8) (w : World) :
    Calls Tryz.prog 165 #[failV, u, .string ⟨acc.toArray⟩] w (StepPost (rawT (7, n, t) ins acc) w) := by
  have HT := Lib.hid (show rawT (7, n, t) ins acc = none by simp [rawT])
  unfold failV
  have qcat := ta_fail_cat (.agg #[])
  have qtext := ta_fail_text (.agg #[])
  have qupper := ta_fail_upper (.agg #[])
  have qsort := ta_fail_sort (.agg #[])
  have qdrop := ta_fail_drop (.agg #[])
  have qcount := ta_fail_count (.agg #[])
  have qfail := ta_fail_fail (.agg #[])
  go_enter Tryz.func165, Tryz.ntmps165
  go_wp2_with fail
  go_ret2
  exact ⟨by rw [HT.out]; rfl, (Below.refl _ _).alloc (Nat.le_refl _) _⟩

set_option maxRecDepth 20000 in
set_option maxHeartbeats 2000000 in
theorem do_text (n : Int) (t : List UInt8) (ins : List (List UInt8)) (u : Value) (acc : List UInt8) (w : World) (ha : acc.length ≤ 40) (ht : t.length ≤ 10) :
    Calls Tryz.prog 165 #[textV t, u, .string ⟨acc.toArray⟩] w (StepPost (rawT (2, n, t) ins acc) w) := by
  have HT := Lib.hid (show rawT (2, n, t) ins acc = some (acc ++ t) by simp [rawT])
  unfold textV
  have qcat := ta_text_cat (.agg #[.string ⟨t.toArray⟩])
  have qtext := ta_text_text (.agg #[.string ⟨t.toArray⟩])
  go_enter Tryz.func165, Tryz.ntmps165
  go_wp2_with fail
  go_ret2
  exact ⟨by rw [HT.out]; show _ = Ending.returned (.tuple #[.string ⟨(acc ++ t).toArray⟩, .bool true]); rw [← data_app]; rfl, (Below.refl _ _).alloc (Nat.le_refl _) _⟩

set_option maxRecDepth 20000 in
set_option maxHeartbeats 2000000 in
theorem do_cat (ins : List (List UInt8)) (n : Nat) (t : List UInt8) (u : Value) (acc : List UInt8) (w : World) (hrow : RowV w u (S ins)) (ha : acc.length ≤ 40) (hn : n < ins.length) (hx : ∀ x ∈ ins, x.length ≤ 40) (_hi : ins.length ≤ 10) :
    Calls Tryz.prog 165 #[catV n, u, .string ⟨acc.toArray⟩] w (StepPost (rawT (1, n, t) ins acc) w) := by
  obtain ⟨a, cap, rfl, hc1, hc2, hat⟩ := hrow.texts
  clear hrow
  obtain ⟨g, o, rfl, hg, hcell⟩ := hat n hn
  have hxl := hx ins[n] (List.getElem_mem hn)
  have hcell2 : (w.alloc (.cells #[.int .i64 (n : Int)] 203)).cell? ⟨g, o + n, none⟩ = some (.string ⟨ins[n].toArray⟩) := by rw [World.cell?_alloc_lt _ _ _ hg]; exact hcell
  have HT := Lib.hid (show rawT (1, n, t) ins acc = some (acc ++ ins[n]) by
    show some (acc ++ (ins[(n : Int).toNat]?).getD []) = _
    simp [hn])
  obtain ⟨y, hy⟩ : ∃ y, y = ins[n] := ⟨_, rfl⟩
  rw [← hy] at hcell hxl hcell2 HT
  have hnz : (n : Int) < (ins.length : Int) := by omega
  clear hat hx hy hc1 hc2
  unfold catV
  have qcat := ta_cat_cat (.agg #[.int .i64 (n : Int)])
  go_enter Tryz.func165, Tryz.ntmps165
  go_wp2_with fail
  go_ret2
  exact ⟨by rw [HT.out]; show _ = Ending.returned (.tuple #[.string ⟨(acc ++ y).toArray⟩, .bool true]); rw [← data_app]; rfl, (Below.refl _ _).alloc (Nat.le_refl _) _⟩

set_option maxRecDepth 20000 in
set_option maxHeartbeats 2000000 in
theorem do_drop (ins : List (List UInt8)) (n : Nat) (t : List UInt8) (u : Value) (acc : List UInt8) (w : World) (_ha : acc.length ≤ 40) (_hn : n ≤ 40) :
    Calls Tryz.prog 165 #[dropV n, u, .string ⟨acc.toArray⟩] w (StepPost (rawT (5, n, t) ins acc) w) := by
  have HT := Lib.hid (show rawT (5, n, t) ins acc = some (acc.drop n) by
    show some (acc.drop (n : Int).toNat) = _
    simp only [Int.toNat_natCast])
  have HD := Lib.hid (drop_min acc n)
  by_cases hle : n ≤ acc.length
  · have hz : (n : Int) ≤ (acc.length : Int) := by omega
    have hm : min (n : Int) (acc.length : Int) = (n : Int) := by omega
    rw [Nat.min_eq_right hle] at HD
    unfold dropV
    have qcat := ta_drop_cat (.agg #[.int .i64 (n : Int)])
    have qtext := ta_drop_text (.agg #[.int .i64 (n : Int)])
    have qupper := ta_drop_upper (.agg #[.int .i64 (n : Int)])
    have qsort := ta_drop_sort (.agg #[.int .i64 (n : Int)])
    have qdrop := ta_drop_drop (.agg #[.int .i64 (n : Int)])
    go_enter Tryz.func165, Tryz.ntmps165
    go_wp2_with fail
    go_ret2
    exact ⟨by rw [HT.out]; show _ = Ending.returned (.tuple #[.string ⟨(acc.drop n).toArray⟩, .bool true]); rw [← HD.out]; rfl, (Below.refl _ _).alloc (Nat.le_refl _) _⟩
  · have hz : (acc.length : Int) < (n : Int) := by omega
    have hm : min (n : Int) (acc.length : Int) = (acc.length : Int) := by omega
    rw [Nat.min_eq_left (by omega)] at HD
    unfold dropV
    have qcat := ta_drop_cat (.agg #[.int .i64 (n : Int)])
    have qtext := ta_drop_text (.agg #[.int .i64 (n : Int)])
    have qupper := ta_drop_upper (.agg #[.int .i64 (n : Int)])
    have qsort := ta_drop_sort (.agg #[.int .i64 (n : Int)])
    have qdrop := ta_drop_drop (.agg #[.int .i64 (n : Int)])
    go_enter Tryz.func165, Tryz.ntmps165
    go_wp2_with fail
    go_ret2
    exact ⟨by rw [HT.out, show acc.drop n = [] from List.drop_eq_nil_of_le (by omega)]; rfl, (Below.refl _ _).alloc (Nat.le_refl _) _⟩

theorem do_any (o : OpT) (ins : List (List UInt8)) (u : Value) (acc : List UInt8) (w : World) (hrow : RowV w u (S ins)) (hok : opOk ins.length o = true) (ht : textsL ins = true) (ha : acc.length ≤ 40) :
    Calls Tryz.prog 165 #[deedV o, u, .string ⟨acc.toArray⟩] w (StepPost (rawT o ins acc) w) := by
  obtain ⟨k, n, t⟩ := o
  simp only [textsL, Bool.and_eq_true, List.all_eq_true, decide_eq_true_eq] at ht
  simp only [opOk] at hok
  split at hok
  · rename_i h; subst h
    simp only [Bool.and_eq_true, decide_eq_true_eq] at hok
    obtain ⟨m, rfl⟩ : ∃ m : Nat, n = m := ⟨n.toNat, by omega⟩
    exact do_cat ins m t u acc w hrow ha (by omega) ht.1 ht.2
  split at hok
  · rename_i h; subst h
    simp only [Bool.and_eq_true, decide_eq_true_eq] at hok
    exact do_text n t ins u acc w ha hok.2
  split at hok
  · rename_i h; subst h
    simp only [Bool.and_eq_true, decide_eq_true_eq] at hok
    obtain ⟨m, rfl⟩ : ∃ m : Nat, n = m := ⟨n.toNat, by omega⟩
    exact do_drop ins m t u acc w ha (by omega)
  split at hok
  · rename_i h
    rcases h with h | h | h | h <;> subst h
    · exact do_upper n t ins u acc w ha
    · exact do_sort n t ins u acc w ha
    · exact do_count n t ins u acc w ha
    · exact do_fail n t ins u acc w
  · cases hok

end Go.Proofs.YtgolhfmmlanmlaaGreatDoor

/- Walks: the program's runDeeds. -/
namespace Go.Proofs.YtgolhfmmlanmlaaGreatDoor
open Go.RowKit Pth

theorem raw_len {o : OpT} {ins : List (List UInt8)} {acc z : List UInt8} (hok : opOk ins.length o = true) (ht : textsL ins = true) (ha : acc.length ≤ 40) (h : rawT o ins acc = some z) : z.length ≤ 80 := by
  obtain ⟨k, n, t⟩ := o
  simp only [textsL, Bool.and_eq_true, List.all_eq_true, decide_eq_true_eq] at ht
  unfold rawT at h
  simp only at h
  split at h
  · simp only [Option.some.injEq] at h; subst h
    rcases hm : ins[n.toNat]? with _ | y
    · simp; omega
    · have := ht.1 y (List.mem_of_getElem? hm)
      simp; omega
  split at h
  · rename_i h1 h2
    simp only [Option.some.injEq] at h; subst h
    simp only [opOk, h2, if_true] at hok
    simp at hok ⊢; omega
  split at h
  · simp only [Option.some.injEq] at h; subst h; rw [upT_len]; omega
  split at h
  · simp only [Option.some.injEq] at h; subst h; rw [sortT_len]; omega
  split at h
  · simp only [Option.some.injEq] at h; subst h; simp; omega
  split at h
  · simp only [Option.some.injEq] at h; subst h; have := numT_len acc.length; omega
  · cases h

set_option maxRecDepth 20000 in
set_option maxHeartbeats 2000000 in
theorem runD_any (r : List OpT) (ins : List (List UInt8)) (v u : Value) (acc0 : List UInt8) (w : World) (hrow : RowV w v (DC r)) (hins : RowV w u (S ins)) (hok : r.all (opOk ins.length) = true) (ht : textsL ins = true) (ha0 : acc0.length ≤ 40) :
    Calls Tryz.prog 157 #[v, u, .string ⟨acc0.toArray⟩] w (StepPost (Pth.runT ins r acc0) w) := by
  obtain ⟨a, cap, rfl, hc1, hc2, hat⟩ := hrow
  have hdc : (DC r).length = r.length := by simp [DC]
  rw [hdc] at hc1 ⊢
  have hat2 : ∀ k (hk : k < r.length), ∃ g o, a = some ⟨g, o, none⟩ ∧ g < w.heap.size ∧ w.cell? ⟨g, o + k, none⟩ = some (deedV r[k]) := fun k hk => by
    obtain ⟨g, o, h1, h2, h3⟩ := hat k (by rw [hdc]; exact hk)
    exact ⟨g, o, h1, h2, by rw [h3]; simp [DC]⟩
  have HI := Lib.hid hins
  have HK : Hid (∀ k (hk : k < r.length), opOk ins.length r[k] = true) := fun k hk => List.all_eq_true.1 hok _ (List.getElem_mem hk)
  have HX := Lib.hid ht
  clear hat hins hok ht hdc
  unfold maxLen at hc2
  obtain ⟨R, hR⟩ : ∃ R, R = Pth.runT ins r acc0 := ⟨_, rfl⟩
  rw [← hR]
  go_enter Tryz.func157, Tryz.ntmps157
  go_wp2_with fail
  go_loopw [2, 14] (fun s i wr => ∃ (k : Nat) (acc : List UInt8), k ≤ r.length ∧ acc.length ≤ 40 ∧ s = .string ⟨acc.toArray⟩ ∧ i = .int .i64 k ∧ Hid (Below w.heap.size w wr) ∧ Hid (R = Pth.runT ins (r.drop k) acc)) (fun _ i _ => r.length - (intOf i).toNat)
  case atStart => exact ⟨0, acc0, Nat.zero_le _, ha0, rfl, by go_num, Below.refl _ _, hR⟩
  case round =>
    clear hR ha0
    obtain ⟨k, acc, hk, hacc, rfl, rfl, HB, HO⟩ := hrel
    by_cases hlt : k < r.length
    · obtain ⟨g, o, rfl, hg, hcell⟩ := hat2 k hlt
      have s1 := (HB.out.cell (p := ⟨g, o + k, none⟩) hg).trans hcell
      have hltz : (k : Int) < (r.length : Int) := by omega
      have HC := Lib.hid (do_any r[k] ins u acc wr (HI.out.below HB.out) (HK.out k hlt) HX.out hacc)
      rcases hy : rawT r[k] ins acc with _ | z
      · have HV := Lib.hid (run_none HO.out hlt (by rw [Pth.stepT, hy]; rfl))
        rw [hy] at HC
        clear hcell hat2 HO hy
        generalize deedV r[k] = x at s1 HC
        go_wp2_with fail
        refine HC.out.mono ?_
        rintro e w1 ⟨rfl, hb1⟩
        have HB1 := Lib.hid (below_step HB.out hb1)
        clear hb1 HC
        go_wp2_with fail
        go_ret2
        exact ⟨by rw [HV.out]; rfl, HB1.out⟩
      · have hz := raw_len (HK.out k hlt) HX.out hacc hy
        have HL := Lib.hid (fun W => long_any z W (by unfold maxLen; omega))
        rw [hy] at HC
        by_cases h40 : z.length ≤ 40
        · have HV := Lib.hid (run_some HO.out hlt (show Pth.stepT r[k] ins acc = some z by rw [Pth.stepT, hy]; exact if_pos h40))
          rw [show decide (40 < z.length) = false from decide_eq_false (by omega)] at HL
          clear hcell hat2 HO hy
          generalize deedV r[k] = x at s1 HC
          go_wp2_with fail
          refine HC.out.mono ?_
          rintro e w1 ⟨rfl, hb1⟩
          have HB1 := Lib.hid (below_step HB.out hb1)
          clear hb1 HC
          go_wp2_with (go_at_call 82; refine (HL.out _).mono ?_; rintro e w2 ⟨rfl, rfl⟩)
          go_roundw
          case rel => exact ⟨k + 1, z, by omega, h40, rfl, by go_num, HB1, HV⟩
          case measure => simp [intOf]; omega
        · have HV := Lib.hid (run_none HO.out hlt (show Pth.stepT r[k] ins acc = none by rw [Pth.stepT, hy]; exact if_neg h40))
          rw [show decide (40 < z.length) = true from decide_eq_true (by omega)] at HL
          clear hcell hat2 HO hy
          generalize deedV r[k] = x at s1 HC
          go_wp2_with fail
          refine HC.out.mono ?_
          rintro e w1 ⟨rfl, hb1⟩
          have HB1 := Lib.hid (below_step HB.out hb1)
          clear hb1 HC
          go_wp2_with (go_at_call 82; refine (HL.out _).mono ?_; rintro e w2 ⟨rfl, rfl⟩)
          go_ret2
          exact ⟨by rw [HV.out]; rfl, HB1.out⟩
    · have HV := Lib.hid (show R = some acc by rw [HO.out, List.drop_eq_nil_of_le (by omega)]; rfl)
      have hltz : ¬ ((k : Int) < (r.length : Int)) := by omega
      have HC := Lib.hid (fun W => clone_text acc W (by omega))
      clear HO hat2
      go_wp2_with fail
      refine (HC.out _).mono ?_
      rintro e w1 ⟨rfl, hb1⟩
      have HB1 := Lib.hid (below_step HB.out hb1)
      clear hb1 HC
      go_wp2_with fail
      go_ret2
      exact ⟨by rw [HV.out]; rfl, HB1.out⟩

end Go.Proofs.YtgolhfmmlanmlaaGreatDoor

/- Walks: the program's RunRecipe. -/
namespace Go.Proofs.YtgolhfmmlanmlaaGreatDoor
open Go.RowKit Pth

set_option maxRecDepth 20000 in
set_option maxHeartbeats 2000000 in
theorem implRun_any (r : List OpT) (ins : List (List UInt8)) (v u : Value) (w : World) (hrow : RowO w v r) (hins : RowV w u (S ins)) (hx : ∀ x ∈ ins, x.length ≤ maxLen) :
    Calls Tryz.prog 140 #[v, u] w (TellPost (runOk r ins) (runA r ins) w) := by
  have HD := Lib.hid (deedsOn_any r ins v u w hrow hins hx)
  have HI := Lib.hid hins
  clear hrow hins hx
  rcases hg : runOk r ins with _ | _
  · have HA := Lib.hid (show runA r ins = none by rw [runA, hg]; rfl)
    rw [hg] at HD
    clear hg
    go_enter Tryz.func140, Tryz.ntmps140
    go_wp2_with fail
    refine HD.out.mono ?_
    rintro e w1 ⟨d, rfl, hn, hb⟩
    have HB := Lib.hid hb
    clear hn hb HD
    go_wp2_with fail
    go_ret3
    exact ⟨by rw [HA.out]; rfl, HB.out⟩
  · have HA := Lib.hid (show runA r ins = Pth.runT ins r [] by rw [runA, hg]; rfl)
    have hh : textsL ins = true ∧ goodR r ins.length = true := by simpa [runOk] using hg
    have HR := Lib.hid (fun (W : World) (d : Value) (h1 : RowV W d (DC r)) (h2 : RowV W u (S ins)) => runD_any r ins d u [] W h1 h2 (goodR_all hh.2) hh.1 (by simp))
    rw [hg] at HD
    clear hg hh
    go_enter Tryz.func140, Tryz.ntmps140
    go_wp2_with fail
    refine HD.out.mono ?_
    rintro e w1 ⟨d, rfl, hn, hb⟩
    have HC := Lib.hid (HR.out w1 d (by have := RowV.of_own hn; simpa using this) (HI.out.below hb))
    have HB := Lib.hid hb
    clear hn hb HD HR
    go_wp2_with fail
    refine HC.out.mono ?_
    rintro e w2 ⟨rfl, hb2⟩
    have HB2 := Lib.hid (below_step HB.out hb2)
    clear hb2 HC
    generalize Pth.runT ins r [] = y at HA
    go_wp2_with fail
    go_ret3
    exact ⟨by rw [HA.out]; rfl, HB2.out⟩

end Go.Proofs.YtgolhfmmlanmlaaGreatDoor

/- Walks: what a task is to be, of the program. -/
namespace Go.Proofs.YtgolhfmmlanmlaaGreatDoor
open Go.RowKit Pth

theorem makeTask_of (ls : List (List Int)) (l : List Int) (bs : List Bool) (rs : List (List OpT)) (m : List ResT) (t : Nat) (v u : Value) (w : World) (hp : PlanV w v ls l bs rs) (hr : RowR w u m) (hpl : planA ls l bs rs = true) (hmb : m.length = bs.length) (ht : t < ls.length) (hxm : Sml m) :
    Calls Tryz.prog 88 #[v, u, .int .i64 (t : Int)] w fun e w' => e = .returned (resV (makeM ls rs m t)) ∧ Below w.heap.size w w' := by
  have hrl := (plan_parts hpl).2.2.1
  have htr : t < rs.length := by omega
  obtain ⟨hl10, _⟩ := plan_task hpl ht
  have htx : textsL (bodiesL m ls[t]) = true := texts_of_sml hxm (by omega)
  have hgood : goodR rs[t] (ls[t].length : Int) = true := by
    have h1 := (plan_parts hpl).2.1
    have := (plan_parts hpl).2.2.2 t ht
    rw [planP_at ht (by omega) htr, Bool.and_eq_true] at this
    exact this.1
  have hok : runOk rs[t] (bodiesL m ls[t]) = true := by unfold runOk; rw [htx, bodies_len, hgood]; rfl
  have hra : runA rs[t] (bodiesL m ls[t]) = Pth.runT (bodiesL m ls[t]) rs[t] [] := by unfold runA; rw [hok]; rfl
  have e : makeM ls rs m t = madeR (firstL m ls[t]).2 (Pth.runT (bodiesL m ls[t]) rs[t] []).isSome (txtO (Pth.runT (bodiesL m ls[t]) rs[t] [])) := by unfold makeM; rw [getD_at _ ht, getD_at _ htr]
  rw [e]
  refine makeTask_any ls l bs rs m t _ _ (runOk rs[t] (bodiesL m ls[t])) v u w hp hr hpl hmb ht htr hxm (fun W a b ha hb => ?_)
  have := implRun_any rs[t] (bodiesL m ls[t]) a b W ha hb (fun x hx => by
    have h2 : (bodiesL m ls[t]).all (fun x => decide (x.length ≤ 40)) = true := by unfold textsL at htx; rw [Bool.and_eq_true] at htx; exact htx.1
    have := List.all_eq_true.1 h2 x hx
    rw [decide_eq_true_eq] at this
    unfold maxLen; omega)
  unfold TellPost at this
  rw [hra] at this
  exact this

set_option maxRecDepth 20000 in
set_option maxHeartbeats 8000000 in
theorem implOne_any (ls : List (List Int)) (l : List Int) (bs : List Bool) (rs : List (List OpT)) (m : List ResT) (ts : List (List UInt8)) (t : Nat) (v u x : Value) (w : World) (hp : PlanV w v ls l bs rs) (hr : RowR w u m) (hts : RowV w x (S ts)) (hpl : planA ls l bs rs = true) (hmb : m.length = bs.length) (htb : ts.length = bs.length) (ht : t < ls.length) (hxm : Sml m) (hxt : ∀ y ∈ ts, y.length ≤ 40) :
    Calls Tryz.prog 85 #[v, x, u, .int .i64 (t : Int)] w fun e w' => e = .returned (resV (oneM ls bs rs ts m t)) ∧ Below w.heap.size w w' := by
  have hbl := (plan_parts hpl).2.1
  have htb' : t < bs.length := by omega
  have htt : t < ts.length := by omega
  have HV := Lib.hid hp
  obtain ⟨nv, ov, sv, rv, rfl, h1, h2, h3, h4⟩ := hp
  obtain ⟨as0, cs, rfl, hs1, hs2, hats⟩ := h3.boolsW
  obtain ⟨an, cn, rfl, hn1, hn2, _⟩ := h1.lists
  obtain ⟨ao, co, rfl, ho1, ho2, _⟩ := h2.ints
  obtain ⟨ar, cr, rfl, hr1, hr2, _⟩ := h4.lists
  clear h1 h2 h3 h4
  have HR := Lib.hid hr
  obtain ⟨am, cm, rfl, hm1, hm2, _⟩ := hr.res
  clear hr
  have HT := Lib.hid hts
  obtain ⟨at0, ct, rfl, ht1, ht2, hatt⟩ := hts.texts
  clear hts
  unfold maxLen at hs2 hn2 ho2 hr2 hm2 ht2
  obtain ⟨gs, os, rfl, hgs, hcs⟩ := hats t htb'
  obtain ⟨gt, ot, rfl, hgt, hct⟩ := hatt t htt
  obtain ⟨wp, hwp⟩ : ∃ wp, wp = w.alloc (.cells #[.slice an ls.length cn, .slice ao l.length co, .slice (some ⟨gs, os, none⟩) bs.length cs, .slice ar rs.length cr] 42) := ⟨_, rfl⟩
  obtain ⟨wa, hwa⟩ : ∃ wa, wa = wp.alloc (.cells #[.string ⟨#[]⟩, .int .i64 0] 75) := ⟨_, rfl⟩
  have ep : wp.heap.size = w.heap.size + 1 := by rw [hwp]; simp
  have ea : wa.heap.size = w.heap.size + 2 := by rw [hwa]; simp [ep]
  have P0 : Hid (Blk4 wa w.heap.size 42 (.slice an ls.length cn) (.slice ao l.length co) (.slice (some ⟨gs, os, none⟩) bs.length cs) (.slice ar rs.length cr)) := by rw [hwa, hwp]; exact Blk4.new.old _
  have R0 : Hid (Blk2 wa (w.heap.size + 1) 75 (.string ⟨#[]⟩) (.int .i64 0)) := by rw [hwa, ← ep]; exact Blk2.new
  have HA : Hid (Below w.heap.size w wa) := by rw [hwa, hwp]; exact ((Below.refl w.heap.size w).alloc (Nat.le_refl _) _).alloc (by simp) _
  have HWA : Hid ((w.alloc (.cells #[.slice an ls.length cn, .slice ao l.length co, .slice (some ⟨gs, os, none⟩) bs.length cs, .slice ar rs.length cr] 42)).alloc (.cells #[.string ⟨#[]⟩, .int .i64 0] 75) = wa) := by rw [hwa, hwp]; rfl
  have hsz : w.heap.size < wa.heap.size := by omega
  have hsz1 : w.heap.size + 1 < wa.heap.size := by omega
  clear hwa hwp ep
  have hzb : (t : Int) < (bs.length : Int) := by omega
  have hzt : (t : Int) < (ts.length : Int) := by omega
  have HMK := Lib.hid (makeTask_of ls l bs rs m t _ _ wa (HV.out.below HA.out) (HR.out.below HA.out) hpl hmb ht hxm)
  have hxl : ts[t].length ≤ 40 := hxt _ (List.getElem_mem htt)
  have HO : Hid (oneM ls bs rs ts m t = if bs[t] then (ts[t], 0) else makeM ls rs m t) := by show _ = _; unfold oneM; rw [getD_at _ htb', getD_at _ htt]
  rw [HO.out]
  have hRB := R0.out
  obtain ⟨r0, r1⟩ := hRB.cells
  have z0 := hRB.soft 0
  have z1 := hRB.soft 1
  obtain ⟨c0, c1, c2, c3⟩ := P0.out.cells
  clear hats hatt hpl hmb hxm hxt HO hRB htb hbl
  generalize bs[t] = b at *
  generalize ts[t] = y at *
  generalize makeM ls rs m t = M at *
  obtain ⟨M1, M2⟩ := M
  rcases b with _ | _
  · go_enter Tryz.func85, Tryz.ntmps85
    go_wp2_with fail
    rw [HWA.out]
    unfold resV at HMK
    simp only at HMK
    refine HMK.out.mono ?_
    rintro e w1 ⟨rfl, hb1⟩
    have HB1 := Lib.hid hb1
    clear hb1 c0 c1 c2 c3 r0 r1 z0 z1
    have hRB := R0.out.below HB1.out hsz1
    have HRB := Lib.hid hRB
    obtain ⟨r0, r1⟩ := hRB.cells
    have z0 := hRB.soft 0
    have z1 := hRB.soft 1
    clear hRB
    go_wp2_with fail
    have hZ := (HRB.out.set0 (.string ⟨M1.toArray⟩)).set1 (.int .i64 M2)
    refine bodyPost_ret (results_cellR rfl rfl (load_res hZ.cells.1 hZ.cells.2)) rfl ?_
    exact ⟨by rfl, ((bth HA.out HB1.out (Nat.le_refl _)).setCell (p := ⟨w.heap.size + 1, 0, none⟩) (by show _ ≤ _ + 1; omega) _).setCell (p := ⟨w.heap.size + 1, 1, none⟩) (by show _ ≤ _ + 1; omega) _⟩
  · go_enter Tryz.func85, Tryz.ntmps85
    go_wp2_with fail
    rw [HWA.out]
    refine (clone_any y _ (by omega)).mono ?_
    rintro e w1 ⟨rfl, hb1⟩
    have HB1 := Lib.hid hb1
    clear hb1 c0 c1 c2 c3 r0 r1 z0 z1
    have hRB := R0.out.below HB1.out hsz1
    have HRB := Lib.hid hRB
    obtain ⟨r0, r1⟩ := hRB.cells
    have z0 := hRB.soft 0
    have z1 := hRB.soft 1
    clear hRB
    go_wp2_with fail
    have hZ := (HRB.out.set0 (.string ⟨y.toArray⟩)).set1 (.int .i64 0)
    refine bodyPost_ret (results_cellR rfl rfl (load_res hZ.cells.1 hZ.cells.2)) rfl ?_
    exact ⟨by rfl, ((bth HA.out HB1.out (Nat.le_refl _)).setCell (p := ⟨w.heap.size + 1, 0, none⟩) (by show _ ≤ _ + 1; omega) _).setCell (p := ⟨w.heap.size + 1, 1, none⟩) (by show _ ≤ _ + 1; omega) _⟩

end Go.Proofs.YtgolhfmmlanmlaaGreatDoor

/- Walks: builds, of the reference and of the program. -/
namespace Go.Proofs.YtgolhfmmlanmlaaGreatDoor
open Go.RowKit Pth

theorem RC_set2 (m : List ResT) (y : Nat) (hy : y < m.length) (r : ResT) : ((RC m).set (y * 2) (.string ⟨r.1.toArray⟩)).set (y * 2 + 1) (.int .i64 r.2) = RC (m.set y r) := by
  have e : m = m.take y ++ m[y] :: m.drop (y + 1) := by rw [← List.drop_eq_getElem_cons hy, List.take_append_drop]
  have hl : (m.take y).length = y := by rw [List.length_take]; omega
  have h := set_two (m.take y) y hl m[y] (m.drop (y + 1)) r
  have e2 : m.set y r = m.take y ++ r :: m.drop (y + 1) := by
    rw [List.set_eq_take_append_cons_drop, if_pos hy]
  rw [e2]
  conv => lhs; rw [e]
  rw [RC_append, h, RC_append, RC_append, List.append_assoc]; rfl
/-- A result that is stored in a row of the call's own. -/
theorem own_setR {w : World} {B g c n y : Nat} {m : List ResT} (h : w.ownsRow B 75 2 (.slice (some ⟨g, 0, none⟩) n c) n (RC m)) (hy : y < m.length) (r : ResT) :
    ((w.setCell ⟨g, y * 2, none⟩ (.string ⟨r.1.toArray⟩)).setCell ⟨g, y * 2 + 1, none⟩ (.int .i64 r.2)).ownsRow B 75 2 (.slice (some ⟨g, 0, none⟩) n c) n (RC (m.set y r)) ∧
    w.grownBy ((w.setCell ⟨g, y * 2, none⟩ (.string ⟨r.1.toArray⟩)).setCell ⟨g, y * 2 + 1, none⟩ (.int .i64 r.2)) (some g) := by
  have h1 := h.stored (y * 2) (.string ⟨r.1.toArray⟩)
  have h2 := h1.1.stored (y * 2 + 1) (.int .i64 r.2)
  rw [RC_set2 m y hy r] at h2
  exact ⟨h2.1, grown_trans h1.2 h2.2⟩
/-- The cells of a result in a row of the call's own. -/
theorem own_atR {w : World} {B g c n y : Nat} {m : List ResT} (h : w.ownsRow B 75 2 (.slice (some ⟨g, 0, none⟩) n c) n (RC m)) (hm : m.length = n) (hy : y < m.length) :
    w.cell? ⟨g, y * 2, none⟩ = some (.string ⟨m[y].1.toArray⟩) ∧ w.cell? ⟨g, y * 2 + 1, none⟩ = some (.int .i64 m[y].2) ∧ w.frozen? ⟨g, y * 2, none⟩ = false ∧ w.frozen? ⟨g, y * 2 + 1, none⟩ = false := by
  obtain ⟨q0, q1⟩ := RC_at hy
  exact ⟨by rw [h.cellAt (y * 2) (by omega), q0], by rw [h.cellAt (y * 2 + 1) (by omega), q1], h.frozenAt _, h.frozenAt _⟩
theorem RowR.of_ownL {w : World} {B n : Nat} {v : Value} {l : List ResT} (h : w.ownsRow B 75 2 v n (RC l)) (hl : l.length = n) : RowR w v l := RowR.of_own (by rw [hl]; exact h)
theorem build_short (ls : List (List Int)) (l : List Int) (bs : List Bool) (rs : List (List OpT)) (ts : List (List UInt8)) : (buildA ls l bs rs ts).length ≤ 1000000 := by
  unfold buildA
  split
  · rename_i h
    have h1 := (src_parts h).1
    have h2 := (plan_parts h1).2.1
    have h3 := (plan_parts h1).1.high
    unfold buildM
    rw [pass_len]
    simp
    omega
  · simp
theorem none_ownR (w : World) (B : Nat) : w.ownsRow B 75 2 (.slice none 0 0) ([] : List ResT).length (RC []) := ⟨rfl, .inl ⟨rfl, rfl⟩⟩

end Go.Proofs.YtgolhfmmlanmlaaGreatDoor
