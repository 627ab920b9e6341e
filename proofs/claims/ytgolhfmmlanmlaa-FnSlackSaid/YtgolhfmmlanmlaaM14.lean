/- Texts of one claim, joined in their order. -/
import Derived.Test.YtgolhfmmlanmlaaM13

/- Walks: a graph is drawn. -/
namespace Go.Proofs.Ytgolhfmmlanmlaa
open Go.RowKit Pth

/-- Few tasks and needs, good or not. -/
def SmallG (ls : List (List Int)) (l : List Int) : Prop := ls.length ≤ 10 ∧ l.length ≤ 10 ∧ 1 ≤ ls.length ∧ ∀ k (hk : k < ls.length), ls[k].length ≤ 12
theorem GraphO.two {B : Nat} {w : World} {v : Value} {ls : List (List Int)} {l : List Int} (h : GraphO B w v ls l) : ∃ an n1 cn ao n2 co, v = .agg #[.slice an n1 cn, .slice ao n2 co] := by
  obtain ⟨nv, ov, sl, rfl, h1, h2, h3⟩ := h
  obtain ⟨an, cn, rfl⟩ := own_slice h2
  have h4 : w.ownsRow B 3 1 ov l.length (I l) := h3.1 (ov, l) (by simp)
  obtain ⟨ao, co, rfl⟩ := own_slice h4
  exact ⟨an, _, cn, ao, _, co, rfl⟩
/-- A graph is drawn: the reader is at most 100 further. -/
def GraphPost (B b : Nat) (A : Option Addr) (n c K : Nat) (w : World) (e : Ending) (w' : World) : Prop :=
  ∃ v ls l, e = .returned v ∧ GraphO w.heap.size w' v ls l ∧ SmallG ls l ∧ CurL B b A n c (K + 100) w' ∧ w.grownBy w' (some b)

set_option maxRecDepth 20000 in
set_option maxHeartbeats 8000000 in
theorem graph_any (B b : Nat) (A : Option Addr) (n c K : Nat) (w : World) (h : CurL B b A n c K w) (hn : n ≤ 2000000) (hK : K ≤ 1000000) (hB : B ≤ b) :
    Calls Try.prog 69 #[.pointer (some ⟨b, 0, none⟩)] w (GraphPost B b A n c K w) := by
  have hbl := h.lt
  obtain ⟨w0, hw0⟩ : ∃ w0, w0 = w.alloc (.cells #[.slice none 0 0, .slice none 0 0] 26) := ⟨_, rfl⟩
  have hz0 : w0.heap.size = w.heap.size + 1 := by rw [hw0]; simp
  have b0 : Below w.heap.size w w0 := by rw [hw0]; exact (Below.refl _ w).alloc (Nat.le_refl _) _
  have P0 : Hid (Blk2 w0 w.heap.size 26 (.slice none 0 0) (.slice none 0 0)) := by rw [hw0]; exact Blk2.new
  have C0 : Hid (CurL B b A n c K w0) := h.below b0
  have HB0 := Lib.hid b0
  have HW0 := Lib.hid hw0
  clear h b0 hw0
  have HP := Lib.hid (pickL_any B b A n c K 8 w0 C0.out hn (by omega) (by omega))
  go_enter Try.func69, Try.ntmps69
  go_wp2_with fail
  rw [← HW0.out]
  refine HP.out.mono ?_
  rintro e w1 ⟨x, hx, rfl, hc1, hg1⟩
  have hN : x < 8 := by omega
  have hsum : IntKind.i64.wrap (1 + (x : Int)) = ((1 + x : Nat) : Int) := by rw [IntKind.wrap_i64]; omega
  have C1 := Lib.hid hc1
  have HG1 := Lib.hid hg1
  clear hc1 hg1 HP C0 hx
  obtain ⟨N, hNx⟩ : ∃ N : Nat, 1 + x = N := ⟨_, rfl⟩
  rw [hNx] at hsum
  have hN1 : 1 ≤ N := by omega
  have hN2 : N ≤ 8 := by omega
  clear hN hNx
  have HNew := Lib.hid (specNew_yes N w1 hN1 (by omega))
  go_wp2_with fail
  refine HNew.out.mono ?_
  rintro e w2 ⟨v2, rfl, hgr2, hb2⟩
  obtain ⟨an2, n12, cn2, ao2, n22, co2, rfl⟩ := hgr2.two
  have s01 := HG1.out.size
  have s12 := hb2.size
  have b3 := (Below.refl w2.heap.size w2).alloc (Nat.le_refl _) (.cells #[.slice an2 n12 cn2, .slice ao2 n22 co2] 26)
  have D3 : Hid (DrawG B b A n c (K + 1) w2.heap.size w.heap.size N 11 (.slice an2 n12 cn2) (.slice ao2 n22 co2) (List.replicate N []) (upto N) w (w2.alloc (.cells #[.slice an2 n12 cn2, .slice ao2 n22 co2] 26))) := by
    have k1 : Blk2 w1 w.heap.size 26 (.slice none 0 0) (.slice none 0 0) := P0.out.beside HG1.out (by simp only [ne_eq, Option.some.injEq]; omega)
    have k2 := k1.below hb2 (lt_of_block k1)
    exact ⟨only_trans (only_trans ⟨HB0.out.os, HB0.out.tape, HB0.out.output, HB0.out.size, fun i hi _ => HB0.out.block i hi⟩ HG1.out (row := some b) (fun i hi => .inl hi)) ⟨(hb2.trans (b3.mono s12)).os, (hb2.trans (b3.mono s12)).tape, (hb2.trans (b3.mono s12)).output, (hb2.trans (b3.mono s12)).size, fun i hi _ => (hb2.trans (b3.mono s12)).block i hi⟩ (row' := some w1.heap.size) (fun i hi => by simp only [Option.some.injEq] at hi; exact .inr (by omega)), hbl, hB, (C1.out.below hb2).below b3, Blk2.new, k2.below b3 (lt_of_block k2), (hgr2.base (by omega)).below b3, by omega, Nat.le_refl _, by omega, by simp, by simp [upto], fun k hk => by simp⟩
  obtain ⟨w3, hw3⟩ : ∃ w3, w3 = w2.alloc (.cells #[.slice an2 n12 cn2, .slice ao2 n22 co2] 26) := ⟨_, rfl⟩
  obtain ⟨G, hG⟩ : ∃ G, G = w2.heap.size := ⟨_, rfl⟩
  rw [← hw3, ← hG] at D3
  have HW3 := Lib.hid hw3
  have HG := Lib.hid hG
  clear hw3 hG hgr2 hb2 b3 HNew P0 C1 HB0 HG1 HW0 hsum s01 s12 hz0
  have HP3 := Lib.hid (pickL_any B b A n c (K + 1) 16 w3 D3.out.cur hn (by omega) (by omega))
  go_wp2_with fail
  rw [← HW3.out, ← HG.out]
  refine HP3.out.mono ?_
  rintro e w4 ⟨y, hy, rfl, hc4, hg4⟩
  have hy2 : y ≤ 15 := by omega
  have D4 := Lib.hid (D3.out.pick hc4 hg4)
  clear hc4 hg4 HP3 D3 hy HW3 HG
  go_wp2_with fail
  go_loopw [6] (fun i wr => ∃ (k : Nat) (nv ov : Value) (ls : List (List Int)) (l : List Int), k ≤ 15 ∧ i = .int .i64 k ∧ Hid (DrawG B b A n c (K + 2 + 5 * (15 - k)) G w.heap.size N 11 nv ov ls l w wr)) (fun i _ => (intOf i).toNat)
  case atStart => exact ⟨y, _, _, _, _, hy2, rfl, D4.out.wide (by omega)⟩
  case round =>
    clear D4
    obtain ⟨k, nv, ov, ls, l, hk, rfl, D⟩ := hrel
    obtain ⟨an, n1, cn, ao, n2, co, hsl⟩ := D.out.gr.two
    injection hsl with hsl
    injection hsl with hsl
    injection hsl with hs1 hsl
    injection hsl with hs2 _
    subst hs1 hs2
    obtain ⟨KK, hKK⟩ : ∃ KK, KK = K + 2 + 5 * (15 - k) := ⟨_, rfl⟩
    rw [← hKK] at D
    by_cases hlt : 0 < k
    · have hd : decide ((k : Int) > 0) = true := decide_eq_true (by omega)
      go_wp2_with fail
      have hKb : KK ≤ 1000100 := by omega
      obtain ⟨Inv, hInv⟩ : ∃ Inv : Array Bool → Act → World → Prop, Inv = fun (L : Array Bool) (a : Act) (W : World) => ∃ (b0 b1 b2 b3 b4 b5 b6 b7 b8 b9 b10 b11 b12 b13 b14 b15 : Bool) (t27 t28 t29 t30 t31 t32 t33 t34 t26 t35 t36 t37 t7 t8 t9 : Value) (a1 : Option Addr) (m1 c1 : Nat) (a2 : Option Addr) (m2 c2 : Nat) (U : Value) (Q : Bool) (X : Nat) (XA XB : Value), L = #[b0, b1, b2, b3, b4, b5, b6, b7, b8, b9, b10, b11, b12, b13, b14, b15] ∧ a = { tmps := #[.pointer (some ⟨b, 0, none⟩), undef, .pointer (some ⟨w.heap.size, 0, none⟩), .int .i64 (N : Int), .pointer (some ⟨G, 0, none⟩), .bool true, .int .i64 (k : Int), t7, t8, t9, u10, u11, .pointer (some ⟨b, 0, none⟩), .int .i64 (x : Int), .int .i64 (N : Int), .tuple #[.agg #[.slice an2 n12 cn2, .slice ao2 n22 co2], .bool true], .int .i64 (N : Int), .tuple #[.agg #[.slice an2 n12 cn2, .slice ao2 n22 co2], .bool true], .agg #[.slice an2 n12 cn2, .slice ao2 n22 co2], .bool true, .pointer (some ⟨b, 0, none⟩), .int .i64 (y : Int), .int .i64 (k : Int), .bool true, u24, u25, t26, t27, t28, t29, t30, t31, t32, t33, t34, t35, t36, t37, u38, u39, u40, u41, u42, u43, u44, u45, u46, u47, u48, u49, u50, u51, u52, u53, u54, u55, u56, undef, undef, undef, undef, undef, undef, undef, undef, undef, undef, undef, undef, undef, undef, undef, undef, undef, undef, undef, undef, undef, undef, undef, undef, undef, undef, undef, undef], defers := [] } ∧ DrawG B b A n c (KK + (b3.toNat + b6.toNat)) G w.heap.size N 11 (.slice an n1 cn) (.slice ao n2 co) ls l w W ∧ (b0 = true → t27 = .agg #[.slice an n1 cn, .slice ao n2 co]) ∧ (b1 = true → t28 = .pointer (some ⟨b, 0, none⟩)) ∧ (b2 = true → t29 = .int .i64 (N : Int)) ∧ (b3 = true → ∃ p : Nat, t30 = .int .i64 (p : Int)) ∧ (b4 = true → t31 = .pointer (some ⟨b, 0, none⟩)) ∧ (b5 = true → t32 = .int .i64 (N : Int)) ∧ (b6 = true → ∃ p : Nat, t33 = .int .i64 (p : Int)) ∧ (b7 = true → t34 = .tuple #[.agg #[.slice a1 m1 c1, .slice a2 m2 c2], U, .bool Q] ∧ ∃ (ls' : List (List Int)) (l' : List Int), GraphO w.heap.size W (.agg #[.slice a1 m1 c1, .slice a2 m2 c2]) ls' l' ∧ (Q = true → Tasks N 11 ls' l')) ∧ (b8 = true → b7 = true ∧ t26 = .tuple #[.agg #[.slice a1 m1 c1, .slice a2 m2 c2], U, .bool Q]) ∧ (b9 = true → b7 = true ∧ t35 = .agg #[.slice a1 m1 c1, .slice a2 m2 c2]) ∧ (b10 = true → b7 = true ∧ t36 = U) ∧ (b11 = true → b7 = true ∧ t37 = .bool Q) ∧ (b12 = true → t7 = .pointer (some ⟨X, 0, none⟩) ∧ w.heap.size ≤ X ∧ X ≠ G ∧ X ≠ w.heap.size ∧ Blk2 W X 26 XA XB) ∧ (b13 = true → b7 = true ∧ b12 = true ∧ XA = .slice a1 m1 c1 ∧ XB = .slice a2 m2 c2) ∧ (b14 = true → b7 = true ∧ t8 = U) ∧ (b15 = true → b7 = true ∧ t9 = .bool Q) := ⟨_, rfl⟩
      have HInv := Lib.hid hInv
      clear hInv
      refine wp_region_inv (by kernel_rfl) Inv ?_ ?_ ?_
      · rw [HInv.out]
        exact ⟨false, false, false, false, false, false, false, false, false, false, false, false, false, false, false, false, _, _, _, _, _, _, _, _, _, _, _, _, _, _, _, none, 0, 0, none, 0, 0, undef, false, 0, undef, undef, rfl, rfl, (by exact D.out.more (Below.drew (Below.refl _ _))), fun h => absurd h (by decide), fun h => absurd h (by decide), fun h => absurd h (by decide), fun h => absurd h (by decide), fun h => absurd h (by decide), fun h => absurd h (by decide), fun h => absurd h (by decide), fun h => absurd h (by decide), fun h => absurd h (by decide), fun h => absurd h (by decide), fun h => absurd h (by decide), fun h => absurd h (by decide), fun h => absurd h (by decide), fun h => absurd h (by decide), fun h => absurd h (by decide), fun h => absurd h (by decide)⟩
      · intro L a W i hI hi
        rw [HInv.out] at hI
        obtain ⟨b0, b1, b2, b3, b4, b5, b6, b7, b8, b9, b10, b11, b12, b13, b14, b15, t27, t28, t29, t30, t31, t32, t33, t34, t26, t35, t36, t37, t7, t8, t9, a1, m1, c1, a2, m2, c2, U, Q, X, XA, XB, hL, hact, hD, g0, g1, g2, g3, g4, g5, g6, g7, g8, g9, g10, g11, g12, g13, g14, g15⟩ := hI
        subst hL hact
        obtain ⟨hi1, hi2⟩ := List.mem_filter.1 hi
        clear hi
        rw [Bool.and_eq_true] at hi2
        have hi3 : i < 16 := by simpa using hi1
        clear hi1
        rcases (by omega : i = 0 ∨ i = 1 ∨ i = 2 ∨ i = 3 ∨ i = 4 ∨ i = 5 ∨ i = 6 ∨ i = 7 ∨ i = 8 ∨ i = 9 ∨ i = 10 ∨ i = 11 ∨ i = 12 ∨ i = 13 ∨ i = 14 ∨ i = 15) with rfl | rfl | rfl | rfl | rfl | rfl | rfl | rfl | rfl | rfl | rfl | rfl | rfl | rfl | rfl | rfl
        · -- 0
            obtain ⟨r0, r1⟩ := hD.g.cells
            refine wpOp_last rfl (fun a w k => k) ?_
            go_wp2_with fail
            refine then_normal ?_
            rw [HInv.out]
            exact ⟨true, b1, b2, b3, b4, b5, b6, b7, b8, b9, b10, b11, b12, b13, b14, b15, _, _, _, _, _, _, _, _, _, _, _, _, _, _, _, a1, m1, c1, a2, m2, c2, U, Q, X, XA, XB, rfl, rfl, hD, (fun _ => rfl), g1, g2, g3, g4, g5, g6, g7, g8, g9, g10, g11, g12, g13, g14, g15⟩
        · -- 1
            refine wpOp_last rfl (fun a w k => k) ?_
            go_wp2_with fail
            refine then_normal ?_
            rw [HInv.out]
            exact ⟨b0, true, b2, b3, b4, b5, b6, b7, b8, b9, b10, b11, b12, b13, b14, b15, _, _, _, _, _, _, _, _, _, _, _, _, _, _, _, a1, m1, c1, a2, m2, c2, U, Q, X, XA, XB, rfl, rfl, hD, g0, (fun _ => rfl), g2, g3, g4, g5, g6, g7, g8, g9, g10, g11, g12, g13, g14, g15⟩
        · -- 2
            refine wpOp_last rfl (fun a w k => k) ?_
            go_wp2_with fail
            refine then_normal ?_
            rw [HInv.out]
            exact ⟨b0, b1, true, b3, b4, b5, b6, b7, b8, b9, b10, b11, b12, b13, b14, b15, _, _, _, _, _, _, _, _, _, _, _, _, _, _, _, a1, m1, c1, a2, m2, c2, U, Q, X, XA, XB, rfl, rfl, hD, g0, g1, (fun _ => rfl), g3, g4, g5, g6, g7, g8, g9, g10, g11, g12, g13, g14, g15⟩
        · -- 3
            have ek : b3 = false := by simpa using hi2.1
            have hdp := hi2.2
            simp [Region.binds] at hdp
            have d1 : b1 = true := by revert hdp; cases b1 <;> simp
            have d2 : b2 = true := by revert hdp; cases b2 <;> simp
            clear hdp hi2
            subst d1 d2
            obtain rfl := g1 rfl
            obtain rfl := g2 rfl
            refine wpOp_last rfl (fun a w k => k) ?_
            go_wp2_with fail
            refine (pickL_any B b A n c (KK + (b3.toNat + b6.toNat)) N W hD.cur hn (by have := b3.toNat_le; have := b6.toNat_le; omega) (by omega)).mono ?_
            rintro e w7 ⟨p, _, rfl, hc7, hg7⟩
            go_wp2_with fail
            refine then_normal ?_
            rw [HInv.out]
            exact ⟨b0, true, true, true, b4, b5, b6, b7, b8, b9, b10, b11, b12, b13, b14, b15, _, _, _, _, _, _, _, _, _, _, _, _, _, _, _, a1, m1, c1, a2, m2, c2, U, Q, X, XA, XB, rfl, rfl, (hD.pick (hc7.more (by rw [ek]; simp only [Bool.toNat_false, Bool.toNat_true]; omega)) hg7), g0, (fun _ => rfl), (fun _ => rfl), (fun _ => ⟨p, rfl⟩), g4, g5, g6, (fun h => by obtain ⟨e1, ls', l', e2, e3⟩ := g7 h; exact ⟨e1, ls', l', e2.onlyB (only_reader hg7 (by have := hD.out.size; have := hD.lt; omega)) (by have := hD.lt; omega), e3⟩), g8, g9, g10, g11, (fun h => by obtain ⟨e1, e2, e3, e4, e5⟩ := g12 h; exact ⟨e1, e2, e3, e4, e5.beside hg7 (by have := hD.lt; simp only [ne_eq, Option.some.injEq]; omega)⟩), g13, g14, g15⟩
        · -- 4
            refine wpOp_last rfl (fun a w k => k) ?_
            go_wp2_with fail
            refine then_normal ?_
            rw [HInv.out]
            exact ⟨b0, b1, b2, b3, true, b5, b6, b7, b8, b9, b10, b11, b12, b13, b14, b15, _, _, _, _, _, _, _, _, _, _, _, _, _, _, _, a1, m1, c1, a2, m2, c2, U, Q, X, XA, XB, rfl, rfl, hD, g0, g1, g2, g3, (fun _ => rfl), g5, g6, g7, g8, g9, g10, g11, g12, g13, g14, g15⟩
        · -- 5
            refine wpOp_last rfl (fun a w k => k) ?_
            go_wp2_with fail
            refine then_normal ?_
            rw [HInv.out]
            exact ⟨b0, b1, b2, b3, b4, true, b6, b7, b8, b9, b10, b11, b12, b13, b14, b15, _, _, _, _, _, _, _, _, _, _, _, _, _, _, _, a1, m1, c1, a2, m2, c2, U, Q, X, XA, XB, rfl, rfl, hD, g0, g1, g2, g3, g4, (fun _ => rfl), g6, g7, g8, g9, g10, g11, g12, g13, g14, g15⟩
        · -- 6
            have ek : b6 = false := by simpa using hi2.1
            have hdp := hi2.2
            simp [Region.binds] at hdp
            have d4 : b4 = true := by revert hdp; cases b4 <;> simp
            have d5 : b5 = true := by revert hdp; cases b5 <;> simp
            clear hdp hi2
            subst d4 d5
            obtain rfl := g4 rfl
            obtain rfl := g5 rfl
            refine wpOp_last rfl (fun a w k => k) ?_
            go_wp2_with fail
            refine (pickL_any B b A n c (KK + (b3.toNat + b6.toNat)) N W hD.cur hn (by have := b3.toNat_le; have := b6.toNat_le; omega) (by omega)).mono ?_
            rintro e w7 ⟨p, _, rfl, hc7, hg7⟩
            go_wp2_with fail
            refine then_normal ?_
            rw [HInv.out]
            exact ⟨b0, b1, b2, b3, true, true, true, b7, b8, b9, b10, b11, b12, b13, b14, b15, _, _, _, _, _, _, _, _, _, _, _, _, _, _, _, a1, m1, c1, a2, m2, c2, U, Q, X, XA, XB, rfl, rfl, (hD.pick (hc7.more (by rw [ek]; simp only [Bool.toNat_false, Bool.toNat_true]; omega)) hg7), g0, g1, g2, g3, (fun _ => rfl), (fun _ => rfl), (fun _ => ⟨p, rfl⟩), (fun h => by obtain ⟨e1, ls', l', e2, e3⟩ := g7 h; exact ⟨e1, ls', l', e2.onlyB (only_reader hg7 (by have := hD.out.size; have := hD.lt; omega)) (by have := hD.lt; omega), e3⟩), g8, g9, g10, g11, (fun h => by obtain ⟨e1, e2, e3, e4, e5⟩ := g12 h; exact ⟨e1, e2, e3, e4, e5.beside hg7 (by have := hD.lt; simp only [ne_eq, Option.some.injEq]; omega)⟩), g13, g14, g15⟩
        · -- 7
            have ek : b7 = false := by simpa using hi2.1
            have hdp := hi2.2
            simp [Region.binds] at hdp
            have d0 : b0 = true := by revert hdp; cases b0 <;> simp
            have d3 : b3 = true := by revert hdp; cases b3 <;> simp
            have d6 : b6 = true := by revert hdp; cases b6 <;> simp
            clear hdp hi2
            subst d0 d3 d6
            obtain rfl := g0 rfl
            obtain ⟨p, rfl⟩ := g3 rfl
            obtain ⟨q, rfl⟩ := g6 rfl
            refine wpOp_last rfl (fun a w k => k) ?_
            go_wp2_with fail
            refine (specAdd_any mendC ls l (p : Int) (q : Int) _ W hD.gr.view).mono ?_
            rintro e w7 ⟨v', u', rfl, hm7, hb7⟩
            have hg7 := hm7.graph.base (show w.heap.size ≤ W.heap.size from hD.out.size)
            clear hm7
            obtain ⟨x1, y1, z1, x2, y2, z2, rfl⟩ := hg7.two
            go_wp2_with fail
            refine then_normal ?_
            rw [HInv.out]
            exact ⟨true, b1, b2, true, b4, b5, true, true, b8, b9, b10, b11, b12, b13, b14, b15, _, _, _, _, _, _, _, _, _, _, _, _, _, _, _, x1, y1, z1, x2, y2, z2, u', addOk ls l p q, X, XA, XB, rfl, rfl, (hD.more hb7), (fun _ => rfl), g1, g2, (fun _ => ⟨_, rfl⟩), g4, g5, (fun _ => ⟨_, rfl⟩), (fun _ => ⟨rfl, _, _, hg7, fun h => tasks_add hD.tasks.1 h⟩), (fun h => absurd ((g8 h).1.symm.trans ek) (by decide)), (fun h => absurd ((g9 h).1.symm.trans ek) (by decide)), (fun h => absurd ((g10 h).1.symm.trans ek) (by decide)), (fun h => absurd ((g11 h).1.symm.trans ek) (by decide)), (fun h => by obtain ⟨e1, e2, e3, e4, e5⟩ := g12 h; exact ⟨e1, e2, e3, e4, e5.below hb7 (lt_of_block e5)⟩), (fun h => absurd ((g13 h).1.symm.trans ek) (by decide)), (fun h => absurd ((g14 h).1.symm.trans ek) (by decide)), (fun h => absurd ((g15 h).1.symm.trans ek) (by decide))⟩
        · -- 8
            have hdp := hi2.2
            simp [Region.binds] at hdp
            have d7 : b7 = true := by revert hdp; cases b7 <;> simp
            clear hdp hi2
            subst d7
            obtain ⟨rfl, hcall⟩ := g7 rfl
            refine wpOp_last rfl (fun a w k => k) ?_
            go_wp2_with fail
            refine then_normal ?_
            rw [HInv.out]
            exact ⟨b0, b1, b2, b3, b4, b5, b6, true, true, b9, b10, b11, b12, b13, b14, b15, _, _, _, _, _, _, _, _, _, _, _, _, _, _, _, a1, m1, c1, a2, m2, c2, U, Q, X, XA, XB, rfl, rfl, hD, g0, g1, g2, g3, g4, g5, g6, (fun _ => ⟨rfl, hcall⟩), (fun _ => ⟨rfl, rfl⟩), (fun h => by have := g9 h; first | exact this | exact ⟨rfl, this.2⟩), (fun h => by have := g10 h; first | exact this | exact ⟨rfl, this.2⟩), (fun h => by have := g11 h; first | exact this | exact ⟨rfl, this.2⟩), g12, (fun h => by have := g13 h; first | exact this | exact ⟨rfl, this.2⟩), (fun h => by have := g14 h; first | exact this | exact ⟨rfl, this.2⟩), (fun h => by have := g15 h; first | exact this | exact ⟨rfl, this.2⟩)⟩
        · -- 9
            have hdp := hi2.2
            simp [Region.binds] at hdp
            have d8 : b8 = true := by revert hdp; cases b8 <;> simp
            clear hdp hi2
            subst d8
            obtain ⟨ec, rfl⟩ := g8 rfl
            subst ec
            obtain ⟨rfl, hcall⟩ := g7 rfl
            refine wpOp_last rfl (fun a w k => k) ?_
            go_wp2_with fail
            refine then_normal ?_
            rw [HInv.out]
            exact ⟨b0, b1, b2, b3, b4, b5, b6, true, true, true, b10, b11, b12, b13, b14, b15, _, _, _, _, _, _, _, _, _, _, _, _, _, _, _, a1, m1, c1, a2, m2, c2, U, Q, X, XA, XB, rfl, rfl, hD, g0, g1, g2, g3, g4, g5, g6, (fun _ => ⟨rfl, hcall⟩), (fun _ => ⟨rfl, rfl⟩), (fun _ => ⟨rfl, rfl⟩), (fun h => by have := g10 h; first | exact this | exact ⟨rfl, this.2⟩), (fun h => by have := g11 h; first | exact this | exact ⟨rfl, this.2⟩), g12, (fun h => by have := g13 h; first | exact this | exact ⟨rfl, this.2⟩), (fun h => by have := g14 h; first | exact this | exact ⟨rfl, this.2⟩), (fun h => by have := g15 h; first | exact this | exact ⟨rfl, this.2⟩)⟩
        · -- 10
            have hdp := hi2.2
            simp [Region.binds] at hdp
            have d8 : b8 = true := by revert hdp; cases b8 <;> simp
            clear hdp hi2
            subst d8
            obtain ⟨ec, rfl⟩ := g8 rfl
            subst ec
            obtain ⟨rfl, hcall⟩ := g7 rfl
            refine wpOp_last rfl (fun a w k => k) ?_
            go_wp2_with fail
            refine then_normal ?_
            rw [HInv.out]
            exact ⟨b0, b1, b2, b3, b4, b5, b6, true, true, b9, true, b11, b12, b13, b14, b15, _, _, _, _, _, _, _, _, _, _, _, _, _, _, _, a1, m1, c1, a2, m2, c2, U, Q, X, XA, XB, rfl, rfl, hD, g0, g1, g2, g3, g4, g5, g6, (fun _ => ⟨rfl, hcall⟩), (fun _ => ⟨rfl, rfl⟩), (fun h => by have := g9 h; first | exact this | exact ⟨rfl, this.2⟩), (fun _ => ⟨rfl, rfl⟩), (fun h => by have := g11 h; first | exact this | exact ⟨rfl, this.2⟩), g12, (fun h => by have := g13 h; first | exact this | exact ⟨rfl, this.2⟩), (fun h => by have := g14 h; first | exact this | exact ⟨rfl, this.2⟩), (fun h => by have := g15 h; first | exact this | exact ⟨rfl, this.2⟩)⟩
        · -- 11
            have hdp := hi2.2
            simp [Region.binds] at hdp
            have d8 : b8 = true := by revert hdp; cases b8 <;> simp
            clear hdp hi2
            subst d8
            obtain ⟨ec, rfl⟩ := g8 rfl
            subst ec
            obtain ⟨rfl, hcall⟩ := g7 rfl
            refine wpOp_last rfl (fun a w k => k) ?_
            go_wp2_with fail
            refine then_normal ?_
            rw [HInv.out]
            exact ⟨b0, b1, b2, b3, b4, b5, b6, true, true, b9, b10, true, b12, b13, b14, b15, _, _, _, _, _, _, _, _, _, _, _, _, _, _, _, a1, m1, c1, a2, m2, c2, U, Q, X, XA, XB, rfl, rfl, hD, g0, g1, g2, g3, g4, g5, g6, (fun _ => ⟨rfl, hcall⟩), (fun _ => ⟨rfl, rfl⟩), (fun h => by have := g9 h; first | exact this | exact ⟨rfl, this.2⟩), (fun h => by have := g10 h; first | exact this | exact ⟨rfl, this.2⟩), (fun _ => ⟨rfl, rfl⟩), g12, (fun h => by have := g13 h; first | exact this | exact ⟨rfl, this.2⟩), (fun h => by have := g14 h; first | exact this | exact ⟨rfl, this.2⟩), (fun h => by have := g15 h; first | exact this | exact ⟨rfl, this.2⟩)⟩
        · -- 12
            have ek : b12 = false := by simpa using hi2.1
            have hba := (Below.refl W.heap.size W).alloc (Nat.le_refl _) (.cells #[.slice none 0 0, .slice none 0 0] 26)
            refine wpOp_last rfl (fun a w k => k) ?_
            go_wp2_with fail
            refine then_normal ?_
            rw [HInv.out]
            exact ⟨b0, b1, b2, b3, b4, b5, b6, b7, b8, b9, b10, b11, true, b13, b14, b15, _, _, _, _, _, _, _, _, _, _, _, _, _, _, _, a1, m1, c1, a2, m2, c2, U, Q, W.heap.size, .slice none 0 0, .slice none 0 0, rfl, rfl, (hD.more hba), g0, g1, g2, g3, g4, g5, g6, (fun h => by obtain ⟨e1, ls', l', e2, e3⟩ := g7 h; exact ⟨e1, ls', l', e2.below hba, e3⟩), g8, g9, g10, g11, (fun _ => ⟨rfl, hD.out.size, by have := lt_of_block hD.g; omega, by have := lt_of_block hD.r; omega, Blk2.new⟩), (fun h => absurd ((g13 h).2.1.symm.trans ek) (by decide)), g14, g15⟩
        · -- 13
            have hdp := hi2.2
            simp [Region.binds] at hdp
            have d12 : b12 = true := by revert hdp; cases b12 <;> simp
            have d9 : b9 = true := by revert hdp; cases b9 <;> simp
            clear hdp hi2
            subst d12 d9
            obtain ⟨ec, rfl⟩ := g9 rfl
            subst ec
            obtain ⟨rfl, hcall⟩ := g7 rfl
            obtain ⟨f1, f2, f3, f4, hX⟩ := g12 rfl
            obtain rfl := f1
            obtain ⟨r0, r1⟩ := hX.cells
            have z0 := hX.soft 0
            have z1 := hX.soft 1
            refine wpOp_last rfl (fun a w k => k) ?_
            go_wp2_with fail
            refine then_normal ?_
            rw [HInv.out]
            exact ⟨b0, b1, b2, b3, b4, b5, b6, true, b8, true, b10, b11, true, true, b14, b15, _, _, _, _, _, _, _, _, _, _, _, _, _, _, _, a1, m1, c1, a2, m2, c2, U, Q, X, .slice a1 m1 c1, .slice a2 m2 c2, rfl, rfl, ((hD.set hX f2 f3 f4 _).set (hX.set0 _) f2 f3 f4 _), g0, g1, g2, g3, g4, g5, g6, (fun _ => by obtain ⟨ls', l', e2, e3⟩ := hcall; exact ⟨rfl, ls', l', graph_setG (graph_setG e2 hX _) (hX.set0 _) _, e3⟩), (fun h => by have := g8 h; first | exact this | exact ⟨rfl, this.2⟩), (fun _ => ⟨rfl, rfl⟩), (fun h => by have := g10 h; first | exact this | exact ⟨rfl, this.2⟩), (fun h => by have := g11 h; first | exact this | exact ⟨rfl, this.2⟩), (fun _ => ⟨rfl, f2, f3, f4, (hX.set0 _).set1 _⟩), (fun _ => ⟨rfl, rfl, rfl, rfl⟩), (fun h => by have := g14 h; first | exact this | exact ⟨rfl, this.2⟩), (fun h => by have := g15 h; first | exact this | exact ⟨rfl, this.2⟩)⟩
        · -- 14
            have hdp := hi2.2
            simp [Region.binds] at hdp
            have d10 : b10 = true := by revert hdp; cases b10 <;> simp
            clear hdp hi2
            subst d10
            obtain ⟨ec, rfl⟩ := g10 rfl
            subst ec
            obtain ⟨rfl, hcall⟩ := g7 rfl
            refine wpOp_last rfl (fun a w k => k) ?_
            go_wp2_with fail
            refine then_normal ?_
            rw [HInv.out]
            exact ⟨b0, b1, b2, b3, b4, b5, b6, true, b8, b9, true, b11, b12, b13, true, b15, _, _, _, _, _, _, _, _, _, _, _, _, _, _, _, a1, m1, c1, a2, m2, c2, t36, Q, X, XA, XB, rfl, rfl, hD, g0, g1, g2, g3, g4, g5, g6, (fun _ => ⟨rfl, hcall⟩), (fun h => by have := g8 h; first | exact this | exact ⟨rfl, this.2⟩), (fun h => by have := g9 h; first | exact this | exact ⟨rfl, this.2⟩), (fun _ => ⟨rfl, rfl⟩), (fun h => by have := g11 h; first | exact this | exact ⟨rfl, this.2⟩), g12, (fun h => by have := g13 h; first | exact this | exact ⟨rfl, this.2⟩), (fun _ => ⟨rfl, rfl⟩), (fun h => by have := g15 h; first | exact this | exact ⟨rfl, this.2⟩)⟩
        · -- 15
            have hdp := hi2.2
            simp [Region.binds] at hdp
            have d11 : b11 = true := by revert hdp; cases b11 <;> simp
            clear hdp hi2
            subst d11
            obtain ⟨ec, rfl⟩ := g11 rfl
            subst ec
            obtain ⟨rfl, hcall⟩ := g7 rfl
            refine wpOp_last rfl (fun a w k => k) ?_
            go_wp2_with fail
            refine then_normal ?_
            rw [HInv.out]
            exact ⟨b0, b1, b2, b3, b4, b5, b6, true, b8, b9, b10, true, b12, b13, b14, true, _, _, _, _, _, _, _, _, _, _, _, _, _, _, _, a1, m1, c1, a2, m2, c2, U, Q, X, XA, XB, rfl, rfl, hD, g0, g1, g2, g3, g4, g5, g6, (fun _ => ⟨rfl, hcall⟩), (fun h => by have := g8 h; first | exact this | exact ⟨rfl, this.2⟩), (fun h => by have := g9 h; first | exact this | exact ⟨rfl, this.2⟩), (fun h => by have := g10 h; first | exact this | exact ⟨rfl, this.2⟩), (fun _ => ⟨rfl, rfl⟩), g12, (fun h => by have := g13 h; first | exact this | exact ⟨rfl, this.2⟩), (fun h => by have := g14 h; first | exact this | exact ⟨rfl, this.2⟩), (fun _ => ⟨rfl, rfl⟩)⟩
      · intro L a W hI hdn
        rw [HInv.out] at hI
        obtain ⟨b0, b1, b2, b3, b4, b5, b6, b7, b8, b9, b10, b11, b12, b13, b14, b15, t27, t28, t29, t30, t31, t32, t33, t34, t26, t35, t36, t37, t7, t8, t9, a1, m1, c1, a2, m2, c2, U, Q, X, XA, XB, hL, hact, hD, g0, g1, g2, g3, g4, g5, g6, g7, g8, g9, g10, g11, g12, g13, g14, g15⟩ := hI
        subst hL hact
        have hall := List.filter_eq_nil_iff.1 hdn
        clear hdn
        have e0 : b0 = true := by have hq := hall 0 (by simp); revert hq; cases b0 <;> simp [Region.binds]
        subst e0
        have e1 : b1 = true := by have hq := hall 1 (by simp); revert hq; cases b1 <;> simp [Region.binds]
        subst e1
        have e2 : b2 = true := by have hq := hall 2 (by simp); revert hq; cases b2 <;> simp [Region.binds]
        subst e2
        have e3 : b3 = true := by have hq := hall 3 (by simp); revert hq; cases b3 <;> simp [Region.binds]
        subst e3
        have e4 : b4 = true := by have hq := hall 4 (by simp); revert hq; cases b4 <;> simp [Region.binds]
        subst e4
        have e5 : b5 = true := by have hq := hall 5 (by simp); revert hq; cases b5 <;> simp [Region.binds]
        subst e5
        have e6 : b6 = true := by have hq := hall 6 (by simp); revert hq; cases b6 <;> simp [Region.binds]
        subst e6
        have e7 : b7 = true := by have hq := hall 7 (by simp); revert hq; cases b7 <;> simp [Region.binds]
        subst e7
        have e8 : b8 = true := by have hq := hall 8 (by simp); revert hq; cases b8 <;> simp [Region.binds]
        subst e8
        have e9 : b9 = true := by have hq := hall 9 (by simp); revert hq; cases b9 <;> simp [Region.binds]
        subst e9
        have e10 : b10 = true := by have hq := hall 10 (by simp); revert hq; cases b10 <;> simp [Region.binds]
        subst e10
        have e11 : b11 = true := by have hq := hall 11 (by simp); revert hq; cases b11 <;> simp [Region.binds]
        subst e11
        have e12 : b12 = true := by have hq := hall 12 (by simp); revert hq; cases b12 <;> simp [Region.binds]
        subst e12
        have e13 : b13 = true := by have hq := hall 13 (by simp); revert hq; cases b13 <;> simp [Region.binds]
        subst e13
        have e14 : b14 = true := by have hq := hall 14 (by simp); revert hq; cases b14 <;> simp [Region.binds]
        subst e14
        have e15 : b15 = true := by have hq := hall 15 (by simp); revert hq; cases b15 <;> simp [Region.binds]
        subst e15
        clear hall
        clear Inv HInv
        obtain rfl := g0 rfl
        obtain rfl := g1 rfl
        obtain rfl := g2 rfl
        obtain ⟨p30, rfl⟩ := g3 rfl
        obtain rfl := g4 rfl
        obtain rfl := g5 rfl
        obtain ⟨p33, rfl⟩ := g6 rfl
        obtain ⟨rfl, ls', l', hG', hT'⟩ := g7 rfl
        obtain ⟨_, rfl⟩ := g8 rfl
        obtain ⟨_, rfl⟩ := g9 rfl
        obtain ⟨_, rfl⟩ := g10 rfl
        obtain ⟨_, rfl⟩ := g11 rfl
        obtain ⟨rfl, f2, f3, f4, hX⟩ := g12 rfl
        obtain ⟨_, _, rfl, rfl⟩ := g13 rfl
        obtain ⟨_, rfl⟩ := g14 rfl
        obtain ⟨_, rfl⟩ := g15 rfl
        have DD := Lib.hid (hD.wide (K' := KK + 2) (Nat.le_refl _))
        clear hD D
        clear g0 g1 g2 g3 g4 g5 g6 g7 g8 g9 g10 g11 g12 g13 g14 g15
        rcases Q with _ | _
        · go_wp2_with fail
          have D := DD
          clear DD hX f2 f3 f4 hG' hT'
          obtain ⟨Inv, hInv⟩ : ∃ Inv : Array Bool → Act → World → Prop, Inv = fun (L : Array Bool) (a : Act) (W : World) => ∃ (b0 b1 b2 b3 b4 b5 b6 b7 b8 b9 b10 b11 b12 b13 : Bool) (t41 t42 t43 t44 t45 t46 t47 t48 t40 t49 t50 t10 t11 : Value) (a1z : Option Addr) (m1z c1z : Nat) (a2z : Option Addr) (m2z c2z : Nat) (Uz : Value) (Qz : Bool) (Xz : Nat) (XAz XBz : Value), L = #[b0, b1, b2, b3, b4, b5, b6, b7, b8, b9, b10, b11, b12, b13] ∧ a = { tmps := #[.pointer (some ⟨b, 0, none⟩), undef, .pointer (some ⟨w.heap.size, 0, none⟩), .int .i64 (N : Int), .pointer (some ⟨G, 0, none⟩), .bool true, .int .i64 (k : Int), .pointer (some ⟨X, 0, none⟩), t8, .bool false, t10, t11, .pointer (some ⟨b, 0, none⟩), .int .i64 (x : Int), .int .i64 (N : Int), .tuple #[.agg #[.slice an2 n12 cn2, .slice ao2 n22 co2], .bool true], .int .i64 (N : Int), .tuple #[.agg #[.slice an2 n12 cn2, .slice ao2 n22 co2], .bool true], .agg #[.slice an2 n12 cn2, .slice ao2 n22 co2], .bool true, .pointer (some ⟨b, 0, none⟩), .int .i64 (y : Int), .int .i64 (k : Int), .bool true, u24, u25, .tuple #[.agg #[.slice a1 m1 c1, .slice a2 m2 c2], t8, .bool false], .agg #[.slice an n1 cn, .slice ao n2 co], .pointer (some ⟨b, 0, none⟩), .int .i64 (N : Int), .int .i64 (p30 : Int), .pointer (some ⟨b, 0, none⟩), .int .i64 (N : Int), .int .i64 (p33 : Int), .tuple #[.agg #[.slice a1 m1 c1, .slice a2 m2 c2], t8, .bool false], .agg #[.slice a1 m1 c1, .slice a2 m2 c2], t8, .bool false, .bool false, u39, t40, t41, t42, t43, t44, t45, t46, t47, t48, t49, t50, u51, u52, u53, u54, u55, u56, undef, undef, undef, undef, undef, undef, undef, undef, undef, undef, undef, undef, undef, undef, undef, undef, undef, undef, undef, undef, undef, undef, undef, undef, undef, undef, undef, undef], defers := [] } ∧ DrawG B b A n c ((KK + 2) + (b3.toNat + b6.toNat)) G w.heap.size N 11 (.slice an n1 cn) (.slice ao n2 co) ls l w W ∧ (b0 = true → t41 = .agg #[.slice an n1 cn, .slice ao n2 co]) ∧ (b1 = true → t42 = .pointer (some ⟨b, 0, none⟩)) ∧ (b2 = true → t43 = .int .i64 (N : Int)) ∧ (b3 = true → ∃ p : Nat, t44 = .int .i64 (p : Int)) ∧ (b4 = true → t45 = .pointer (some ⟨b, 0, none⟩)) ∧ (b5 = true → t46 = .int .i64 (N : Int)) ∧ (b6 = true → ∃ p : Nat, t47 = .int .i64 (p : Int)) ∧ (b7 = true → t48 = .tuple #[.agg #[.slice a1z m1z c1z, .slice a2z m2z c2z], .bool Qz] ∧ ∃ (ls' : List (List Int)) (l' : List Int), GraphO w.heap.size W (.agg #[.slice a1z m1z c1z, .slice a2z m2z c2z]) ls' l' ∧ (Qz = true → Tasks N 11 ls' l')) ∧ (b8 = true → b7 = true ∧ t40 = .tuple #[.agg #[.slice a1z m1z c1z, .slice a2z m2z c2z], .bool Qz]) ∧ (b9 = true → b7 = true ∧ t49 = .agg #[.slice a1z m1z c1z, .slice a2z m2z c2z]) ∧ (b10 = true → b7 = true ∧ t50 = .bool Qz) ∧ (b11 = true → t10 = .pointer (some ⟨Xz, 0, none⟩) ∧ w.heap.size ≤ Xz ∧ Xz ≠ G ∧ Xz ≠ w.heap.size ∧ Blk2 W Xz 26 XAz XBz) ∧ (b12 = true → b7 = true ∧ b11 = true ∧ XAz = .slice a1z m1z c1z ∧ XBz = .slice a2z m2z c2z) ∧ (b13 = true → b7 = true ∧ t11 = .bool Qz) := ⟨_, rfl⟩
          have HInv := Lib.hid hInv
          clear hInv
          refine wp_region_inv (by kernel_rfl) Inv ?_ ?_ ?_
          · rw [HInv.out]
            exact ⟨false, false, false, false, false, false, false, false, false, false, false, false, false, false, _, _, _, _, _, _, _, _, _, _, _, _, _, none, 0, 0, none, 0, 0, undef, false, 0, undef, undef, rfl, rfl, (by exact D.out.more (Below.drew (Below.refl _ _))), fun h => absurd h (by decide), fun h => absurd h (by decide), fun h => absurd h (by decide), fun h => absurd h (by decide), fun h => absurd h (by decide), fun h => absurd h (by decide), fun h => absurd h (by decide), fun h => absurd h (by decide), fun h => absurd h (by decide), fun h => absurd h (by decide), fun h => absurd h (by decide), fun h => absurd h (by decide), fun h => absurd h (by decide), fun h => absurd h (by decide)⟩
          · intro L a W i hI hi
            rw [HInv.out] at hI
            obtain ⟨b0, b1, b2, b3, b4, b5, b6, b7, b8, b9, b10, b11, b12, b13, t41, t42, t43, t44, t45, t46, t47, t48, t40, t49, t50, t10, t11, a1z, m1z, c1z, a2z, m2z, c2z, Uz, Qz, Xz, XAz, XBz, hL, hact, hD, g0, g1, g2, g3, g4, g5, g6, g7, g8, g9, g10, g11, g12, g13⟩ := hI
            subst hL hact
            obtain ⟨hi1, hi2⟩ := List.mem_filter.1 hi
            clear hi
            rw [Bool.and_eq_true] at hi2
            have hi3 : i < 14 := by simpa using hi1
            clear hi1
            rcases (by omega : i = 0 ∨ i = 1 ∨ i = 2 ∨ i = 3 ∨ i = 4 ∨ i = 5 ∨ i = 6 ∨ i = 7 ∨ i = 8 ∨ i = 9 ∨ i = 10 ∨ i = 11 ∨ i = 12 ∨ i = 13) with rfl | rfl | rfl | rfl | rfl | rfl | rfl | rfl | rfl | rfl | rfl | rfl | rfl | rfl
            · -- 0
                obtain ⟨r0, r1⟩ := hD.g.cells
                refine wpOp_last rfl (fun a w k => k) ?_
                go_wp2_with fail
                refine then_normal ?_
                rw [HInv.out]
                exact ⟨true, b1, b2, b3, b4, b5, b6, b7, b8, b9, b10, b11, b12, b13, _, _, _, _, _, _, _, _, _, _, _, _, _, a1z, m1z, c1z, a2z, m2z, c2z, Uz, Qz, Xz, XAz, XBz, rfl, rfl, hD, (fun _ => rfl), g1, g2, g3, g4, g5, g6, g7, g8, g9, g10, g11, g12, g13⟩
            · -- 1
                refine wpOp_last rfl (fun a w k => k) ?_
                go_wp2_with fail
                refine then_normal ?_
                rw [HInv.out]
                exact ⟨b0, true, b2, b3, b4, b5, b6, b7, b8, b9, b10, b11, b12, b13, _, _, _, _, _, _, _, _, _, _, _, _, _, a1z, m1z, c1z, a2z, m2z, c2z, Uz, Qz, Xz, XAz, XBz, rfl, rfl, hD, g0, (fun _ => rfl), g2, g3, g4, g5, g6, g7, g8, g9, g10, g11, g12, g13⟩
            · -- 2
                refine wpOp_last rfl (fun a w k => k) ?_
                go_wp2_with fail
                refine then_normal ?_
                rw [HInv.out]
                exact ⟨b0, b1, true, b3, b4, b5, b6, b7, b8, b9, b10, b11, b12, b13, _, _, _, _, _, _, _, _, _, _, _, _, _, a1z, m1z, c1z, a2z, m2z, c2z, Uz, Qz, Xz, XAz, XBz, rfl, rfl, hD, g0, g1, (fun _ => rfl), g3, g4, g5, g6, g7, g8, g9, g10, g11, g12, g13⟩
            · -- 3
                have ek : b3 = false := by simpa using hi2.1
                have hdp := hi2.2
                simp [Region.binds] at hdp
                have d1 : b1 = true := by revert hdp; cases b1 <;> simp
                have d2 : b2 = true := by revert hdp; cases b2 <;> simp
                clear hdp hi2
                subst d1 d2
                obtain rfl := g1 rfl
                obtain rfl := g2 rfl
                refine wpOp_last rfl (fun a w k => k) ?_
                go_wp2_with fail
                refine (pickL_any B b A n c ((KK + 2) + (b3.toNat + b6.toNat)) N W hD.cur hn (by have := b3.toNat_le; have := b6.toNat_le; omega) (by omega)).mono ?_
                rintro e w7 ⟨p, _, rfl, hc7, hg7⟩
                go_wp2_with fail
                refine then_normal ?_
                rw [HInv.out]
                exact ⟨b0, true, true, true, b4, b5, b6, b7, b8, b9, b10, b11, b12, b13, _, _, _, _, _, _, _, _, _, _, _, _, _, a1z, m1z, c1z, a2z, m2z, c2z, Uz, Qz, Xz, XAz, XBz, rfl, rfl, (hD.pick (hc7.more (by rw [ek]; simp only [Bool.toNat_false, Bool.toNat_true]; omega)) hg7), g0, (fun _ => rfl), (fun _ => rfl), (fun _ => ⟨p, rfl⟩), g4, g5, g6, (fun h => by obtain ⟨e1, ls', l', e2, e3⟩ := g7 h; exact ⟨e1, ls', l', e2.onlyB (only_reader hg7 (by have := hD.out.size; have := hD.lt; omega)) (by have := hD.lt; omega), e3⟩), g8, g9, g10, (fun h => by obtain ⟨e1, e2, e3, e4, e5⟩ := g11 h; exact ⟨e1, e2, e3, e4, e5.beside hg7 (by have := hD.lt; simp only [ne_eq, Option.some.injEq]; omega)⟩), g12, g13⟩
            · -- 4
                refine wpOp_last rfl (fun a w k => k) ?_
                go_wp2_with fail
                refine then_normal ?_
                rw [HInv.out]
                exact ⟨b0, b1, b2, b3, true, b5, b6, b7, b8, b9, b10, b11, b12, b13, _, _, _, _, _, _, _, _, _, _, _, _, _, a1z, m1z, c1z, a2z, m2z, c2z, Uz, Qz, Xz, XAz, XBz, rfl, rfl, hD, g0, g1, g2, g3, (fun _ => rfl), g5, g6, g7, g8, g9, g10, g11, g12, g13⟩
            · -- 5
                refine wpOp_last rfl (fun a w k => k) ?_
                go_wp2_with fail
                refine then_normal ?_
                rw [HInv.out]
                exact ⟨b0, b1, b2, b3, b4, true, b6, b7, b8, b9, b10, b11, b12, b13, _, _, _, _, _, _, _, _, _, _, _, _, _, a1z, m1z, c1z, a2z, m2z, c2z, Uz, Qz, Xz, XAz, XBz, rfl, rfl, hD, g0, g1, g2, g3, g4, (fun _ => rfl), g6, g7, g8, g9, g10, g11, g12, g13⟩
            · -- 6
                have ek : b6 = false := by simpa using hi2.1
                have hdp := hi2.2
                simp [Region.binds] at hdp
                have d4 : b4 = true := by revert hdp; cases b4 <;> simp
                have d5 : b5 = true := by revert hdp; cases b5 <;> simp
                clear hdp hi2
                subst d4 d5
                obtain rfl := g4 rfl
                obtain rfl := g5 rfl
                refine wpOp_last rfl (fun a w k => k) ?_
                go_wp2_with fail
                refine (pickL_any B b A n c ((KK + 2) + (b3.toNat + b6.toNat)) N W hD.cur hn (by have := b3.toNat_le; have := b6.toNat_le; omega) (by omega)).mono ?_
                rintro e w7 ⟨p, _, rfl, hc7, hg7⟩
                go_wp2_with fail
                refine then_normal ?_
                rw [HInv.out]
                exact ⟨b0, b1, b2, b3, true, true, true, b7, b8, b9, b10, b11, b12, b13, _, _, _, _, _, _, _, _, _, _, _, _, _, a1z, m1z, c1z, a2z, m2z, c2z, Uz, Qz, Xz, XAz, XBz, rfl, rfl, (hD.pick (hc7.more (by rw [ek]; simp only [Bool.toNat_false, Bool.toNat_true]; omega)) hg7), g0, g1, g2, g3, (fun _ => rfl), (fun _ => rfl), (fun _ => ⟨p, rfl⟩), (fun h => by obtain ⟨e1, ls', l', e2, e3⟩ := g7 h; exact ⟨e1, ls', l', e2.onlyB (only_reader hg7 (by have := hD.out.size; have := hD.lt; omega)) (by have := hD.lt; omega), e3⟩), g8, g9, g10, (fun h => by obtain ⟨e1, e2, e3, e4, e5⟩ := g11 h; exact ⟨e1, e2, e3, e4, e5.beside hg7 (by have := hD.lt; simp only [ne_eq, Option.some.injEq]; omega)⟩), g12, g13⟩
            · -- 7
                have ek : b7 = false := by simpa using hi2.1
                have hdp := hi2.2
                simp [Region.binds] at hdp
                have d0 : b0 = true := by revert hdp; cases b0 <;> simp
                have d3 : b3 = true := by revert hdp; cases b3 <;> simp
                have d6 : b6 = true := by revert hdp; cases b6 <;> simp
                clear hdp hi2
                subst d0 d3 d6
                obtain rfl := g0 rfl
                obtain ⟨p, rfl⟩ := g3 rfl
                obtain ⟨q, rfl⟩ := g6 rfl
                refine wpOp_last rfl (fun a w k => k) ?_
                go_wp2_with fail
                refine (specDrop_any ls l (p : Int) (q : Int) _ W hD.gr.view).mono ?_
                rintro e w7 ⟨v', rfl, hg7, hb7⟩
                have hg7 := hg7.base (show w.heap.size ≤ W.heap.size from hD.out.size)
                obtain ⟨x1, y1, z1, x2, y2, z2, rfl⟩ := hg7.two
                go_wp2_with fail
                refine then_normal ?_
                rw [HInv.out]
                exact ⟨true, b1, b2, true, b4, b5, true, true, b8, b9, b10, b11, b12, b13, _, _, _, _, _, _, _, _, _, _, _, _, _, x1, y1, z1, x2, y2, z2, Uz, dropOk ls l p q, Xz, XAz, XBz, rfl, rfl, (hD.more hb7), (fun _ => rfl), g1, g2, (fun _ => ⟨_, rfl⟩), g4, g5, (fun _ => ⟨_, rfl⟩), (fun _ => ⟨rfl, _, _, hg7, fun h => tasks_drop hD.tasks.1 h⟩), (fun h => absurd ((g8 h).1.symm.trans ek) (by decide)), (fun h => absurd ((g9 h).1.symm.trans ek) (by decide)), (fun h => absurd ((g10 h).1.symm.trans ek) (by decide)), (fun h => by obtain ⟨e1, e2, e3, e4, e5⟩ := g11 h; exact ⟨e1, e2, e3, e4, e5.below hb7 (lt_of_block e5)⟩), (fun h => absurd ((g12 h).1.symm.trans ek) (by decide)), (fun h => absurd ((g13 h).1.symm.trans ek) (by decide))⟩
            · -- 8
                have hdp := hi2.2
                simp [Region.binds] at hdp
                have d7 : b7 = true := by revert hdp; cases b7 <;> simp
                clear hdp hi2
                subst d7
                obtain ⟨rfl, hcall⟩ := g7 rfl
                refine wpOp_last rfl (fun a w k => k) ?_
                go_wp2_with fail
                refine then_normal ?_
                rw [HInv.out]
                exact ⟨b0, b1, b2, b3, b4, b5, b6, true, true, b9, b10, b11, b12, b13, _, _, _, _, _, _, _, _, _, _, _, _, _, a1z, m1z, c1z, a2z, m2z, c2z, Uz, Qz, Xz, XAz, XBz, rfl, rfl, hD, g0, g1, g2, g3, g4, g5, g6, (fun _ => ⟨rfl, hcall⟩), (fun _ => ⟨rfl, rfl⟩), (fun h => by have := g9 h; first | exact this | exact ⟨rfl, this.2⟩), (fun h => by have := g10 h; first | exact this | exact ⟨rfl, this.2⟩), g11, (fun h => by have := g12 h; first | exact this | exact ⟨rfl, this.2⟩), (fun h => by have := g13 h; first | exact this | exact ⟨rfl, this.2⟩)⟩
            · -- 9
                have hdp := hi2.2
                simp [Region.binds] at hdp
                have d8 : b8 = true := by revert hdp; cases b8 <;> simp
                clear hdp hi2
                subst d8
                obtain ⟨ec, rfl⟩ := g8 rfl
                subst ec
                obtain ⟨rfl, hcall⟩ := g7 rfl
                refine wpOp_last rfl (fun a w k => k) ?_
                go_wp2_with fail
                refine then_normal ?_
                rw [HInv.out]
                exact ⟨b0, b1, b2, b3, b4, b5, b6, true, true, true, b10, b11, b12, b13, _, _, _, _, _, _, _, _, _, _, _, _, _, a1z, m1z, c1z, a2z, m2z, c2z, Uz, Qz, Xz, XAz, XBz, rfl, rfl, hD, g0, g1, g2, g3, g4, g5, g6, (fun _ => ⟨rfl, hcall⟩), (fun _ => ⟨rfl, rfl⟩), (fun _ => ⟨rfl, rfl⟩), (fun h => by have := g10 h; first | exact this | exact ⟨rfl, this.2⟩), g11, (fun h => by have := g12 h; first | exact this | exact ⟨rfl, this.2⟩), (fun h => by have := g13 h; first | exact this | exact ⟨rfl, this.2⟩)⟩
            · -- 10
                have hdp := hi2.2
                simp [Region.binds] at hdp
                have d8 : b8 = true := by revert hdp; cases b8 <;> simp
                clear hdp hi2
                subst d8
                obtain ⟨ec, rfl⟩ := g8 rfl
                subst ec
                obtain ⟨rfl, hcall⟩ := g7 rfl
                refine wpOp_last rfl (fun a w k => k) ?_
                go_wp2_with fail
                refine then_normal ?_
                rw [HInv.out]
                exact ⟨b0, b1, b2, b3, b4, b5, b6, true, true, b9, true, b11, b12, b13, _, _, _, _, _, _, _, _, _, _, _, _, _, a1z, m1z, c1z, a2z, m2z, c2z, Uz, Qz, Xz, XAz, XBz, rfl, rfl, hD, g0, g1, g2, g3, g4, g5, g6, (fun _ => ⟨rfl, hcall⟩), (fun _ => ⟨rfl, rfl⟩), (fun h => by have := g9 h; first | exact this | exact ⟨rfl, this.2⟩), (fun _ => ⟨rfl, rfl⟩), g11, (fun h => by have := g12 h; first | exact this | exact ⟨rfl, this.2⟩), (fun h => by have := g13 h; first | exact this | exact ⟨rfl, this.2⟩)⟩
            · -- 11
                have ek : b11 = false := by simpa using hi2.1
                have hba := (Below.refl W.heap.size W).alloc (Nat.le_refl _) (.cells #[.slice none 0 0, .slice none 0 0] 26)
                refine wpOp_last rfl (fun a w k => k) ?_
                go_wp2_with fail
                refine then_normal ?_
                rw [HInv.out]
                exact ⟨b0, b1, b2, b3, b4, b5, b6, b7, b8, b9, b10, true, b12, b13, _, _, _, _, _, _, _, _, _, _, _, _, _, a1z, m1z, c1z, a2z, m2z, c2z, Uz, Qz, W.heap.size, .slice none 0 0, .slice none 0 0, rfl, rfl, (hD.more hba), g0, g1, g2, g3, g4, g5, g6, (fun h => by obtain ⟨e1, ls', l', e2, e3⟩ := g7 h; exact ⟨e1, ls', l', e2.below hba, e3⟩), g8, g9, g10, (fun _ => ⟨rfl, hD.out.size, by have := lt_of_block hD.g; omega, by have := lt_of_block hD.r; omega, Blk2.new⟩), (fun h => absurd ((g12 h).2.1.symm.trans ek) (by decide)), g13⟩
            · -- 12
                have hdp := hi2.2
                simp [Region.binds] at hdp
                have d11 : b11 = true := by revert hdp; cases b11 <;> simp
                have d9 : b9 = true := by revert hdp; cases b9 <;> simp
                clear hdp hi2
                subst d11 d9
                obtain ⟨ec, rfl⟩ := g9 rfl
                subst ec
                obtain ⟨rfl, hcall⟩ := g7 rfl
                obtain ⟨f1, f2, f3, f4, hXz⟩ := g11 rfl
                obtain rfl := f1
                obtain ⟨r0, r1⟩ := hXz.cells
                have z0 := hXz.soft 0
                have z1 := hXz.soft 1
                refine wpOp_last rfl (fun a w k => k) ?_
                go_wp2_with fail
                refine then_normal ?_
                rw [HInv.out]
                exact ⟨b0, b1, b2, b3, b4, b5, b6, true, b8, true, b10, true, true, b13, _, _, _, _, _, _, _, _, _, _, _, _, _, a1z, m1z, c1z, a2z, m2z, c2z, Uz, Qz, Xz, .slice a1z m1z c1z, .slice a2z m2z c2z, rfl, rfl, ((hD.set hXz f2 f3 f4 _).set (hXz.set0 _) f2 f3 f4 _), g0, g1, g2, g3, g4, g5, g6, (fun _ => by obtain ⟨ls', l', e2, e3⟩ := hcall; exact ⟨rfl, ls', l', graph_setG (graph_setG e2 hXz _) (hXz.set0 _) _, e3⟩), (fun h => by have := g8 h; first | exact this | exact ⟨rfl, this.2⟩), (fun _ => ⟨rfl, rfl⟩), (fun h => by have := g10 h; first | exact this | exact ⟨rfl, this.2⟩), (fun _ => ⟨rfl, f2, f3, f4, (hXz.set0 _).set1 _⟩), (fun _ => ⟨rfl, rfl, rfl, rfl⟩), (fun h => by have := g13 h; first | exact this | exact ⟨rfl, this.2⟩)⟩
            · -- 13
                have hdp := hi2.2
                simp [Region.binds] at hdp
                have d10 : b10 = true := by revert hdp; cases b10 <;> simp
                clear hdp hi2
                subst d10
                obtain ⟨ec, rfl⟩ := g10 rfl
                subst ec
                obtain ⟨rfl, hcall⟩ := g7 rfl
                refine wpOp_last rfl (fun a w k => k) ?_
                go_wp2_with fail
                refine then_normal ?_
                rw [HInv.out]
                exact ⟨b0, b1, b2, b3, b4, b5, b6, true, b8, b9, true, b11, b12, true, _, _, _, _, _, _, _, _, _, _, _, _, _, a1z, m1z, c1z, a2z, m2z, c2z, Uz, Qz, Xz, XAz, XBz, rfl, rfl, hD, g0, g1, g2, g3, g4, g5, g6, (fun _ => ⟨rfl, hcall⟩), (fun h => by have := g8 h; first | exact this | exact ⟨rfl, this.2⟩), (fun h => by have := g9 h; first | exact this | exact ⟨rfl, this.2⟩), (fun _ => ⟨rfl, rfl⟩), g11, (fun h => by have := g12 h; first | exact this | exact ⟨rfl, this.2⟩), (fun _ => ⟨rfl, rfl⟩)⟩
          · intro L a W hI hdn
            rw [HInv.out] at hI
            obtain ⟨b0, b1, b2, b3, b4, b5, b6, b7, b8, b9, b10, b11, b12, b13, t41, t42, t43, t44, t45, t46, t47, t48, t40, t49, t50, t10, t11, a1z, m1z, c1z, a2z, m2z, c2z, Uz, Qz, Xz, XAz, XBz, hL, hact, hD, g0, g1, g2, g3, g4, g5, g6, g7, g8, g9, g10, g11, g12, g13⟩ := hI
            subst hL hact
            have hall := List.filter_eq_nil_iff.1 hdn
            clear hdn
            have e0 : b0 = true := by have hq := hall 0 (by simp); revert hq; cases b0 <;> simp [Region.binds]
            subst e0
            have e1 : b1 = true := by have hq := hall 1 (by simp); revert hq; cases b1 <;> simp [Region.binds]
            subst e1
            have e2 : b2 = true := by have hq := hall 2 (by simp); revert hq; cases b2 <;> simp [Region.binds]
            subst e2
            have e3 : b3 = true := by have hq := hall 3 (by simp); revert hq; cases b3 <;> simp [Region.binds]
            subst e3
            have e4 : b4 = true := by have hq := hall 4 (by simp); revert hq; cases b4 <;> simp [Region.binds]
            subst e4
            have e5 : b5 = true := by have hq := hall 5 (by simp); revert hq; cases b5 <;> simp [Region.binds]
            subst e5
            have e6 : b6 = true := by have hq := hall 6 (by simp); revert hq; cases b6 <;> simp [Region.binds]
            subst e6
            have e7 : b7 = true := by have hq := hall 7 (by simp); revert hq; cases b7 <;> simp [Region.binds]
            subst e7
            have e8 : b8 = true := by have hq := hall 8 (by simp); revert hq; cases b8 <;> simp [Region.binds]
            subst e8
            have e9 : b9 = true := by have hq := hall 9 (by simp); revert hq; cases b9 <;> simp [Region.binds]
            subst e9
            have e10 : b10 = true := by have hq := hall 10 (by simp); revert hq; cases b10 <;> simp [Region.binds]
            subst e10
            have e11 : b11 = true := by have hq := hall 11 (by simp); revert hq; cases b11 <;> simp [Region.binds]
            subst e11
            have e12 : b12 = true := by have hq := hall 12 (by simp); revert hq; cases b12 <;> simp [Region.binds]
            subst e12
            have e13 : b13 = true := by have hq := hall 13 (by simp); revert hq; cases b13 <;> simp [Region.binds]
            subst e13
            clear hall
            clear Inv HInv
            obtain rfl := g0 rfl
            obtain rfl := g1 rfl
            obtain rfl := g2 rfl
            obtain ⟨p44, rfl⟩ := g3 rfl
            obtain rfl := g4 rfl
            obtain rfl := g5 rfl
            obtain ⟨p47, rfl⟩ := g6 rfl
            obtain ⟨rfl, ls'z, l'z, hG'z, hT'z⟩ := g7 rfl
            obtain ⟨_, rfl⟩ := g8 rfl
            obtain ⟨_, rfl⟩ := g9 rfl
            obtain ⟨_, rfl⟩ := g10 rfl
            obtain ⟨rfl, f2, f3, f4, hXz⟩ := g11 rfl
            obtain ⟨_, _, rfl, rfl⟩ := g12 rfl
            obtain ⟨_, rfl⟩ := g13 rfl
            have DD := Lib.hid (hD.wide (K' := (KK + 2) + 2) (Nat.le_refl _))
            clear hD D
            clear g0 g1 g2 g3 g4 g5 g6 g7 g8 g9 g10 g11 g12 g13
            have hsub : IntKind.i64.wrap ((k : Int) - 1) = ((k - 1 : Nat) : Int) := by rw [IntKind.wrap_i64]; omega
            rcases Qz with _ | _
            · go_wp2_with fail
              go_roundw
              case rel => exact ⟨k - 1, _, _, _, _, by omega, rfl, DD.out.wide (by omega)⟩
              case measure => simp [intOf]; omega
            · have H1 := Lib.hid (oneL_any B b A n c ((KK + 2) + 2) 4 W DD.out.cur hn (by omega) (by omega) (by omega))
              go_wp2_with fail
              refine H1.out.mono ?_
              rintro e w8 ⟨qq, rfl, hc8, hg8⟩
              have hw8 : b < W.heap.size := by have := DD.out.out.size; have := DD.out.lt; omega
              have hXz := hXz.beside hg8 (by have := DD.out.lt; simp only [ne_eq, Option.some.injEq]; omega)
              have hG'z := hG'z.onlyB (only_reader hg8 hw8) (by have := DD.out.lt; omega)
              have D8 := Lib.hid (DD.out.pick hc8 hg8)
              clear H1 hc8 hg8 DD
              rcases qq with _ | _
              · go_wp2_with fail
                have DD := D8
                go_roundw
                case rel => exact ⟨k - 1, _, _, _, _, by omega, rfl, DD.out.wide (by omega)⟩
                case measure => simp [intOf]; omega
              · obtain ⟨r0, r1⟩ := hXz.cells
                obtain ⟨q0, q1⟩ := D8.out.g.cells
                have z0 := D8.out.g.soft 0
                have z1 := D8.out.g.soft 1
                have DD := Lib.hid (D8.out.put hG'z (by first | exact hT'z rfl | exact hT'z trivial))
                go_wp2_with fail
                go_roundw
                case rel => exact ⟨k - 1, _, _, _, _, by omega, rfl, DD.out.wide (by omega)⟩
                case measure => simp [intOf]; omega
        · obtain ⟨r0, r1⟩ := hX.cells
          obtain ⟨q0, q1⟩ := DD.out.g.cells
          have z0 := DD.out.g.soft 0
          have z1 := DD.out.g.soft 1
          have D := Lib.hid (DD.out.put hG' (hT' rfl))
          go_wp2_with fail
          clear DD hX f2 f3 f4 hG' hT' r0 r1 q0 q1 z0 z1
          obtain ⟨Inv, hInv⟩ : ∃ Inv : Array Bool → Act → World → Prop, Inv = fun (L : Array Bool) (a : Act) (W : World) => ∃ (b0 b1 b2 b3 b4 b5 b6 b7 b8 b9 b10 b11 b12 b13 : Bool) (t41 t42 t43 t44 t45 t46 t47 t48 t40 t49 t50 t10 t11 : Value) (a1z : Option Addr) (m1z c1z : Nat) (a2z : Option Addr) (m2z c2z : Nat) (Uz : Value) (Qz : Bool) (Xz : Nat) (XAz XBz : Value), L = #[b0, b1, b2, b3, b4, b5, b6, b7, b8, b9, b10, b11, b12, b13] ∧ a = { tmps := #[.pointer (some ⟨b, 0, none⟩), undef, .pointer (some ⟨w.heap.size, 0, none⟩), .int .i64 (N : Int), .pointer (some ⟨G, 0, none⟩), .bool true, .int .i64 (k : Int), .pointer (some ⟨X, 0, none⟩), t8, .bool true, t10, t11, .pointer (some ⟨b, 0, none⟩), .int .i64 (x : Int), .int .i64 (N : Int), .tuple #[.agg #[.slice an2 n12 cn2, .slice ao2 n22 co2], .bool true], .int .i64 (N : Int), .tuple #[.agg #[.slice an2 n12 cn2, .slice ao2 n22 co2], .bool true], .agg #[.slice an2 n12 cn2, .slice ao2 n22 co2], .bool true, .pointer (some ⟨b, 0, none⟩), .int .i64 (y : Int), .int .i64 (k : Int), .bool true, u24, u25, .tuple #[.agg #[.slice a1 m1 c1, .slice a2 m2 c2], t8, .bool true], .agg #[.slice an n1 cn, .slice ao n2 co], .pointer (some ⟨b, 0, none⟩), .int .i64 (N : Int), .int .i64 (p30 : Int), .pointer (some ⟨b, 0, none⟩), .int .i64 (N : Int), .int .i64 (p33 : Int), .tuple #[.agg #[.slice a1 m1 c1, .slice a2 m2 c2], t8, .bool true], .agg #[.slice a1 m1 c1, .slice a2 m2 c2], t8, .bool true, .bool true, .agg #[.slice a1 m1 c1, .slice a2 m2 c2], t40, t41, t42, t43, t44, t45, t46, t47, t48, t49, t50, u51, u52, u53, u54, u55, u56, undef, undef, undef, undef, undef, undef, undef, undef, undef, undef, undef, undef, undef, undef, undef, undef, undef, undef, undef, undef, undef, undef, undef, undef, undef, undef, undef, undef], defers := [] } ∧ DrawG B b A n c ((KK + 2) + (b3.toNat + b6.toNat)) G w.heap.size N 11 (.slice a1 m1 c1) (.slice a2 m2 c2) ls' l' w W ∧ (b0 = true → t41 = .agg #[.slice a1 m1 c1, .slice a2 m2 c2]) ∧ (b1 = true → t42 = .pointer (some ⟨b, 0, none⟩)) ∧ (b2 = true → t43 = .int .i64 (N : Int)) ∧ (b3 = true → ∃ p : Nat, t44 = .int .i64 (p : Int)) ∧ (b4 = true → t45 = .pointer (some ⟨b, 0, none⟩)) ∧ (b5 = true → t46 = .int .i64 (N : Int)) ∧ (b6 = true → ∃ p : Nat, t47 = .int .i64 (p : Int)) ∧ (b7 = true → t48 = .tuple #[.agg #[.slice a1z m1z c1z, .slice a2z m2z c2z], .bool Qz] ∧ ∃ (ls' : List (List Int)) (l' : List Int), GraphO w.heap.size W (.agg #[.slice a1z m1z c1z, .slice a2z m2z c2z]) ls' l' ∧ (Qz = true → Tasks N 11 ls' l')) ∧ (b8 = true → b7 = true ∧ t40 = .tuple #[.agg #[.slice a1z m1z c1z, .slice a2z m2z c2z], .bool Qz]) ∧ (b9 = true → b7 = true ∧ t49 = .agg #[.slice a1z m1z c1z, .slice a2z m2z c2z]) ∧ (b10 = true → b7 = true ∧ t50 = .bool Qz) ∧ (b11 = true → t10 = .pointer (some ⟨Xz, 0, none⟩) ∧ w.heap.size ≤ Xz ∧ Xz ≠ G ∧ Xz ≠ w.heap.size ∧ Blk2 W Xz 26 XAz XBz) ∧ (b12 = true → b7 = true ∧ b11 = true ∧ XAz = .slice a1z m1z c1z ∧ XBz = .slice a2z m2z c2z) ∧ (b13 = true → b7 = true ∧ t11 = .bool Qz) := ⟨_, rfl⟩
          have HInv := Lib.hid hInv
          clear hInv
          refine wp_region_inv (by kernel_rfl) Inv ?_ ?_ ?_
          · rw [HInv.out]
            exact ⟨false, false, false, false, false, false, false, false, false, false, false, false, false, false, _, _, _, _, _, _, _, _, _, _, _, _, _, none, 0, 0, none, 0, 0, undef, false, 0, undef, undef, rfl, rfl, (by exact D.out.more (Below.drew (Below.refl _ _))), fun h => absurd h (by decide), fun h => absurd h (by decide), fun h => absurd h (by decide), fun h => absurd h (by decide), fun h => absurd h (by decide), fun h => absurd h (by decide), fun h => absurd h (by decide), fun h => absurd h (by decide), fun h => absurd h (by decide), fun h => absurd h (by decide), fun h => absurd h (by decide), fun h => absurd h (by decide), fun h => absurd h (by decide), fun h => absurd h (by decide)⟩
          · intro L a W i hI hi
            rw [HInv.out] at hI
            obtain ⟨b0, b1, b2, b3, b4, b5, b6, b7, b8, b9, b10, b11, b12, b13, t41, t42, t43, t44, t45, t46, t47, t48, t40, t49, t50, t10, t11, a1z, m1z, c1z, a2z, m2z, c2z, Uz, Qz, Xz, XAz, XBz, hL, hact, hD, g0, g1, g2, g3, g4, g5, g6, g7, g8, g9, g10, g11, g12, g13⟩ := hI
            subst hL hact
            obtain ⟨hi1, hi2⟩ := List.mem_filter.1 hi
            clear hi
            rw [Bool.and_eq_true] at hi2
            have hi3 : i < 14 := by simpa using hi1
            clear hi1
            rcases (by omega : i = 0 ∨ i = 1 ∨ i = 2 ∨ i = 3 ∨ i = 4 ∨ i = 5 ∨ i = 6 ∨ i = 7 ∨ i = 8 ∨ i = 9 ∨ i = 10 ∨ i = 11 ∨ i = 12 ∨ i = 13) with rfl | rfl | rfl | rfl | rfl | rfl | rfl | rfl | rfl | rfl | rfl | rfl | rfl | rfl
            · -- 0
                obtain ⟨r0, r1⟩ := hD.g.cells
                refine wpOp_last rfl (fun a w k => k) ?_
                go_wp2_with fail
                refine then_normal ?_
                rw [HInv.out]
                exact ⟨true, b1, b2, b3, b4, b5, b6, b7, b8, b9, b10, b11, b12, b13, _, _, _, _, _, _, _, _, _, _, _, _, _, a1z, m1z, c1z, a2z, m2z, c2z, Uz, Qz, Xz, XAz, XBz, rfl, rfl, hD, (fun _ => rfl), g1, g2, g3, g4, g5, g6, g7, g8, g9, g10, g11, g12, g13⟩
            · -- 1
                refine wpOp_last rfl (fun a w k => k) ?_
                go_wp2_with fail
                refine then_normal ?_
                rw [HInv.out]
                exact ⟨b0, true, b2, b3, b4, b5, b6, b7, b8, b9, b10, b11, b12, b13, _, _, _, _, _, _, _, _, _, _, _, _, _, a1z, m1z, c1z, a2z, m2z, c2z, Uz, Qz, Xz, XAz, XBz, rfl, rfl, hD, g0, (fun _ => rfl), g2, g3, g4, g5, g6, g7, g8, g9, g10, g11, g12, g13⟩
            · -- 2
                refine wpOp_last rfl (fun a w k => k) ?_
                go_wp2_with fail
                refine then_normal ?_
                rw [HInv.out]
                exact ⟨b0, b1, true, b3, b4, b5, b6, b7, b8, b9, b10, b11, b12, b13, _, _, _, _, _, _, _, _, _, _, _, _, _, a1z, m1z, c1z, a2z, m2z, c2z, Uz, Qz, Xz, XAz, XBz, rfl, rfl, hD, g0, g1, (fun _ => rfl), g3, g4, g5, g6, g7, g8, g9, g10, g11, g12, g13⟩
            · -- 3
                have ek : b3 = false := by simpa using hi2.1
                have hdp := hi2.2
                simp [Region.binds] at hdp
                have d1 : b1 = true := by revert hdp; cases b1 <;> simp
                have d2 : b2 = true := by revert hdp; cases b2 <;> simp
                clear hdp hi2
                subst d1 d2
                obtain rfl := g1 rfl
                obtain rfl := g2 rfl
                refine wpOp_last rfl (fun a w k => k) ?_
                go_wp2_with fail
                refine (pickL_any B b A n c ((KK + 2) + (b3.toNat + b6.toNat)) N W hD.cur hn (by have := b3.toNat_le; have := b6.toNat_le; omega) (by omega)).mono ?_
                rintro e w7 ⟨p, _, rfl, hc7, hg7⟩
                go_wp2_with fail
                refine then_normal ?_
                rw [HInv.out]
                exact ⟨b0, true, true, true, b4, b5, b6, b7, b8, b9, b10, b11, b12, b13, _, _, _, _, _, _, _, _, _, _, _, _, _, a1z, m1z, c1z, a2z, m2z, c2z, Uz, Qz, Xz, XAz, XBz, rfl, rfl, (hD.pick (hc7.more (by rw [ek]; simp only [Bool.toNat_false, Bool.toNat_true]; omega)) hg7), g0, (fun _ => rfl), (fun _ => rfl), (fun _ => ⟨p, rfl⟩), g4, g5, g6, (fun h => by obtain ⟨e1, ls', l', e2, e3⟩ := g7 h; exact ⟨e1, ls', l', e2.onlyB (only_reader hg7 (by have := hD.out.size; have := hD.lt; omega)) (by have := hD.lt; omega), e3⟩), g8, g9, g10, (fun h => by obtain ⟨e1, e2, e3, e4, e5⟩ := g11 h; exact ⟨e1, e2, e3, e4, e5.beside hg7 (by have := hD.lt; simp only [ne_eq, Option.some.injEq]; omega)⟩), g12, g13⟩
            · -- 4
                refine wpOp_last rfl (fun a w k => k) ?_
                go_wp2_with fail
                refine then_normal ?_
                rw [HInv.out]
                exact ⟨b0, b1, b2, b3, true, b5, b6, b7, b8, b9, b10, b11, b12, b13, _, _, _, _, _, _, _, _, _, _, _, _, _, a1z, m1z, c1z, a2z, m2z, c2z, Uz, Qz, Xz, XAz, XBz, rfl, rfl, hD, g0, g1, g2, g3, (fun _ => rfl), g5, g6, g7, g8, g9, g10, g11, g12, g13⟩
            · -- 5
                refine wpOp_last rfl (fun a w k => k) ?_
                go_wp2_with fail
                refine then_normal ?_
                rw [HInv.out]
                exact ⟨b0, b1, b2, b3, b4, true, b6, b7, b8, b9, b10, b11, b12, b13, _, _, _, _, _, _, _, _, _, _, _, _, _, a1z, m1z, c1z, a2z, m2z, c2z, Uz, Qz, Xz, XAz, XBz, rfl, rfl, hD, g0, g1, g2, g3, g4, (fun _ => rfl), g6, g7, g8, g9, g10, g11, g12, g13⟩
            · -- 6
                have ek : b6 = false := by simpa using hi2.1
                have hdp := hi2.2
                simp [Region.binds] at hdp
                have d4 : b4 = true := by revert hdp; cases b4 <;> simp
                have d5 : b5 = true := by revert hdp; cases b5 <;> simp
                clear hdp hi2
                subst d4 d5
                obtain rfl := g4 rfl
                obtain rfl := g5 rfl
                refine wpOp_last rfl (fun a w k => k) ?_
                go_wp2_with fail
                refine (pickL_any B b A n c ((KK + 2) + (b3.toNat + b6.toNat)) N W hD.cur hn (by have := b3.toNat_le; have := b6.toNat_le; omega) (by omega)).mono ?_
                rintro e w7 ⟨p, _, rfl, hc7, hg7⟩
                go_wp2_with fail
                refine then_normal ?_
                rw [HInv.out]
                exact ⟨b0, b1, b2, b3, true, true, true, b7, b8, b9, b10, b11, b12, b13, _, _, _, _, _, _, _, _, _, _, _, _, _, a1z, m1z, c1z, a2z, m2z, c2z, Uz, Qz, Xz, XAz, XBz, rfl, rfl, (hD.pick (hc7.more (by rw [ek]; simp only [Bool.toNat_false, Bool.toNat_true]; omega)) hg7), g0, g1, g2, g3, (fun _ => rfl), (fun _ => rfl), (fun _ => ⟨p, rfl⟩), (fun h => by obtain ⟨e1, ls', l', e2, e3⟩ := g7 h; exact ⟨e1, ls', l', e2.onlyB (only_reader hg7 (by have := hD.out.size; have := hD.lt; omega)) (by have := hD.lt; omega), e3⟩), g8, g9, g10, (fun h => by obtain ⟨e1, e2, e3, e4, e5⟩ := g11 h; exact ⟨e1, e2, e3, e4, e5.beside hg7 (by have := hD.lt; simp only [ne_eq, Option.some.injEq]; omega)⟩), g12, g13⟩
            · -- 7
                have ek : b7 = false := by simpa using hi2.1
                have hdp := hi2.2
                simp [Region.binds] at hdp
                have d0 : b0 = true := by revert hdp; cases b0 <;> simp
                have d3 : b3 = true := by revert hdp; cases b3 <;> simp
                have d6 : b6 = true := by revert hdp; cases b6 <;> simp
                clear hdp hi2
                subst d0 d3 d6
                obtain rfl := g0 rfl
                obtain ⟨p, rfl⟩ := g3 rfl
                obtain ⟨q, rfl⟩ := g6 rfl
                refine wpOp_last rfl (fun a w k => k) ?_
                go_wp2_with fail
                refine (specDrop_any ls' l' (p : Int) (q : Int) _ W hD.gr.view).mono ?_
                rintro e w7 ⟨v', rfl, hg7, hb7⟩
                have hg7 := hg7.base (show w.heap.size ≤ W.heap.size from hD.out.size)
                obtain ⟨x1, y1, z1, x2, y2, z2, rfl⟩ := hg7.two
                go_wp2_with fail
                refine then_normal ?_
                rw [HInv.out]
                exact ⟨true, b1, b2, true, b4, b5, true, true, b8, b9, b10, b11, b12, b13, _, _, _, _, _, _, _, _, _, _, _, _, _, x1, y1, z1, x2, y2, z2, Uz, dropOk ls' l' p q, Xz, XAz, XBz, rfl, rfl, (hD.more hb7), (fun _ => rfl), g1, g2, (fun _ => ⟨_, rfl⟩), g4, g5, (fun _ => ⟨_, rfl⟩), (fun _ => ⟨rfl, _, _, hg7, fun h => tasks_drop hD.tasks.1 h⟩), (fun h => absurd ((g8 h).1.symm.trans ek) (by decide)), (fun h => absurd ((g9 h).1.symm.trans ek) (by decide)), (fun h => absurd ((g10 h).1.symm.trans ek) (by decide)), (fun h => by obtain ⟨e1, e2, e3, e4, e5⟩ := g11 h; exact ⟨e1, e2, e3, e4, e5.below hb7 (lt_of_block e5)⟩), (fun h => absurd ((g12 h).1.symm.trans ek) (by decide)), (fun h => absurd ((g13 h).1.symm.trans ek) (by decide))⟩
            · -- 8
                have hdp := hi2.2
                simp [Region.binds] at hdp
                have d7 : b7 = true := by revert hdp; cases b7 <;> simp
                clear hdp hi2
                subst d7
                obtain ⟨rfl, hcall⟩ := g7 rfl
                refine wpOp_last rfl (fun a w k => k) ?_
                go_wp2_with fail
                refine then_normal ?_
                rw [HInv.out]
                exact ⟨b0, b1, b2, b3, b4, b5, b6, true, true, b9, b10, b11, b12, b13, _, _, _, _, _, _, _, _, _, _, _, _, _, a1z, m1z, c1z, a2z, m2z, c2z, Uz, Qz, Xz, XAz, XBz, rfl, rfl, hD, g0, g1, g2, g3, g4, g5, g6, (fun _ => ⟨rfl, hcall⟩), (fun _ => ⟨rfl, rfl⟩), (fun h => by have := g9 h; first | exact this | exact ⟨rfl, this.2⟩), (fun h => by have := g10 h; first | exact this | exact ⟨rfl, this.2⟩), g11, (fun h => by have := g12 h; first | exact this | exact ⟨rfl, this.2⟩), (fun h => by have := g13 h; first | exact this | exact ⟨rfl, this.2⟩)⟩
            · -- 9
                have hdp := hi2.2
                simp [Region.binds] at hdp
                have d8 : b8 = true := by revert hdp; cases b8 <;> simp
                clear hdp hi2
                subst d8
                obtain ⟨ec, rfl⟩ := g8 rfl
                subst ec
                obtain ⟨rfl, hcall⟩ := g7 rfl
                refine wpOp_last rfl (fun a w k => k) ?_
                go_wp2_with fail
                refine then_normal ?_
                rw [HInv.out]
                exact ⟨b0, b1, b2, b3, b4, b5, b6, true, true, true, b10, b11, b12, b13, _, _, _, _, _, _, _, _, _, _, _, _, _, a1z, m1z, c1z, a2z, m2z, c2z, Uz, Qz, Xz, XAz, XBz, rfl, rfl, hD, g0, g1, g2, g3, g4, g5, g6, (fun _ => ⟨rfl, hcall⟩), (fun _ => ⟨rfl, rfl⟩), (fun _ => ⟨rfl, rfl⟩), (fun h => by have := g10 h; first | exact this | exact ⟨rfl, this.2⟩), g11, (fun h => by have := g12 h; first | exact this | exact ⟨rfl, this.2⟩), (fun h => by have := g13 h; first | exact this | exact ⟨rfl, this.2⟩)⟩
            · -- 10
                have hdp := hi2.2
                simp [Region.binds] at hdp
                have d8 : b8 = true := by revert hdp; cases b8 <;> simp
                clear hdp hi2
                subst d8
                obtain ⟨ec, rfl⟩ := g8 rfl
                subst ec
                obtain ⟨rfl, hcall⟩ := g7 rfl
                refine wpOp_last rfl (fun a w k => k) ?_
                go_wp2_with fail
                refine then_normal ?_
                rw [HInv.out]
                exact ⟨b0, b1, b2, b3, b4, b5, b6, true, true, b9, true, b11, b12, b13, _, _, _, _, _, _, _, _, _, _, _, _, _, a1z, m1z, c1z, a2z, m2z, c2z, Uz, Qz, Xz, XAz, XBz, rfl, rfl, hD, g0, g1, g2, g3, g4, g5, g6, (fun _ => ⟨rfl, hcall⟩), (fun _ => ⟨rfl, rfl⟩), (fun h => by have := g9 h; first | exact this | exact ⟨rfl, this.2⟩), (fun _ => ⟨rfl, rfl⟩), g11, (fun h => by have := g12 h; first | exact this | exact ⟨rfl, this.2⟩), (fun h => by have := g13 h; first | exact this | exact ⟨rfl, this.2⟩)⟩
            · -- 11
                have ek : b11 = false := by simpa using hi2.1
                have hba := (Below.refl W.heap.size W).alloc (Nat.le_refl _) (.cells #[.slice none 0 0, .slice none 0 0] 26)
                refine wpOp_last rfl (fun a w k => k) ?_
                go_wp2_with fail
                refine then_normal ?_
                rw [HInv.out]
                exact ⟨b0, b1, b2, b3, b4, b5, b6, b7, b8, b9, b10, true, b12, b13, _, _, _, _, _, _, _, _, _, _, _, _, _, a1z, m1z, c1z, a2z, m2z, c2z, Uz, Qz, W.heap.size, .slice none 0 0, .slice none 0 0, rfl, rfl, (hD.more hba), g0, g1, g2, g3, g4, g5, g6, (fun h => by obtain ⟨e1, ls', l', e2, e3⟩ := g7 h; exact ⟨e1, ls', l', e2.below hba, e3⟩), g8, g9, g10, (fun _ => ⟨rfl, hD.out.size, by have := lt_of_block hD.g; omega, by have := lt_of_block hD.r; omega, Blk2.new⟩), (fun h => absurd ((g12 h).2.1.symm.trans ek) (by decide)), g13⟩
            · -- 12
                have hdp := hi2.2
                simp [Region.binds] at hdp
                have d11 : b11 = true := by revert hdp; cases b11 <;> simp
                have d9 : b9 = true := by revert hdp; cases b9 <;> simp
                clear hdp hi2
                subst d11 d9
                obtain ⟨ec, rfl⟩ := g9 rfl
                subst ec
                obtain ⟨rfl, hcall⟩ := g7 rfl
                obtain ⟨f1, f2, f3, f4, hXz⟩ := g11 rfl
                obtain rfl := f1
                obtain ⟨r0, r1⟩ := hXz.cells
                have z0 := hXz.soft 0
                have z1 := hXz.soft 1
                refine wpOp_last rfl (fun a w k => k) ?_
                go_wp2_with fail
                refine then_normal ?_
                rw [HInv.out]
                exact ⟨b0, b1, b2, b3, b4, b5, b6, true, b8, true, b10, true, true, b13, _, _, _, _, _, _, _, _, _, _, _, _, _, a1z, m1z, c1z, a2z, m2z, c2z, Uz, Qz, Xz, .slice a1z m1z c1z, .slice a2z m2z c2z, rfl, rfl, ((hD.set hXz f2 f3 f4 _).set (hXz.set0 _) f2 f3 f4 _), g0, g1, g2, g3, g4, g5, g6, (fun _ => by obtain ⟨ls', l', e2, e3⟩ := hcall; exact ⟨rfl, ls', l', graph_setG (graph_setG e2 hXz _) (hXz.set0 _) _, e3⟩), (fun h => by have := g8 h; first | exact this | exact ⟨rfl, this.2⟩), (fun _ => ⟨rfl, rfl⟩), (fun h => by have := g10 h; first | exact this | exact ⟨rfl, this.2⟩), (fun _ => ⟨rfl, f2, f3, f4, (hXz.set0 _).set1 _⟩), (fun _ => ⟨rfl, rfl, rfl, rfl⟩), (fun h => by have := g13 h; first | exact this | exact ⟨rfl, this.2⟩)⟩
            · -- 13
                have hdp := hi2.2
                simp [Region.binds] at hdp
                have d10 : b10 = true := by revert hdp; cases b10 <;> simp
                clear hdp hi2
                subst d10
                obtain ⟨ec, rfl⟩ := g10 rfl
                subst ec
                obtain ⟨rfl, hcall⟩ := g7 rfl
                refine wpOp_last rfl (fun a w k => k) ?_
                go_wp2_with fail
                refine then_normal ?_
                rw [HInv.out]
                exact ⟨b0, b1, b2, b3, b4, b5, b6, true, b8, b9, true, b11, b12, true, _, _, _, _, _, _, _, _, _, _, _, _, _, a1z, m1z, c1z, a2z, m2z, c2z, Uz, Qz, Xz, XAz, XBz, rfl, rfl, hD, g0, g1, g2, g3, g4, g5, g6, (fun _ => ⟨rfl, hcall⟩), (fun h => by have := g8 h; first | exact this | exact ⟨rfl, this.2⟩), (fun h => by have := g9 h; first | exact this | exact ⟨rfl, this.2⟩), (fun _ => ⟨rfl, rfl⟩), g11, (fun h => by have := g12 h; first | exact this | exact ⟨rfl, this.2⟩), (fun _ => ⟨rfl, rfl⟩)⟩
          · intro L a W hI hdn
            rw [HInv.out] at hI
            obtain ⟨b0, b1, b2, b3, b4, b5, b6, b7, b8, b9, b10, b11, b12, b13, t41, t42, t43, t44, t45, t46, t47, t48, t40, t49, t50, t10, t11, a1z, m1z, c1z, a2z, m2z, c2z, Uz, Qz, Xz, XAz, XBz, hL, hact, hD, g0, g1, g2, g3, g4, g5, g6, g7, g8, g9, g10, g11, g12, g13⟩ := hI
            subst hL hact
            have hall := List.filter_eq_nil_iff.1 hdn
            clear hdn
            have e0 : b0 = true := by have hq := hall 0 (by simp); revert hq; cases b0 <;> simp [Region.binds]
            subst e0
            have e1 : b1 = true := by have hq := hall 1 (by simp); revert hq; cases b1 <;> simp [Region.binds]
            subst e1
            have e2 : b2 = true := by have hq := hall 2 (by simp); revert hq; cases b2 <;> simp [Region.binds]
            subst e2
            have e3 : b3 = true := by have hq := hall 3 (by simp); revert hq; cases b3 <;> simp [Region.binds]
            subst e3
            have e4 : b4 = true := by have hq := hall 4 (by simp); revert hq; cases b4 <;> simp [Region.binds]
            subst e4
            have e5 : b5 = true := by have hq := hall 5 (by simp); revert hq; cases b5 <;> simp [Region.binds]
            subst e5
            have e6 : b6 = true := by have hq := hall 6 (by simp); revert hq; cases b6 <;> simp [Region.binds]
            subst e6
            have e7 : b7 = true := by have hq := hall 7 (by simp); revert hq; cases b7 <;> simp [Region.binds]
            subst e7
            have e8 : b8 = true := by have hq := hall 8 (by simp); revert hq; cases b8 <;> simp [Region.binds]
            subst e8
            have e9 : b9 = true := by have hq := hall 9 (by simp); revert hq; cases b9 <;> simp [Region.binds]
            subst e9
            have e10 : b10 = true := by have hq := hall 10 (by simp); revert hq; cases b10 <;> simp [Region.binds]
            subst e10
            have e11 : b11 = true := by have hq := hall 11 (by simp); revert hq; cases b11 <;> simp [Region.binds]
            subst e11
            have e12 : b12 = true := by have hq := hall 12 (by simp); revert hq; cases b12 <;> simp [Region.binds]
            subst e12
            have e13 : b13 = true := by have hq := hall 13 (by simp); revert hq; cases b13 <;> simp [Region.binds]
            subst e13
            clear hall
            clear Inv HInv
            obtain rfl := g0 rfl
            obtain rfl := g1 rfl
            obtain rfl := g2 rfl
            obtain ⟨p44, rfl⟩ := g3 rfl
            obtain rfl := g4 rfl
            obtain rfl := g5 rfl
            obtain ⟨p47, rfl⟩ := g6 rfl
            obtain ⟨rfl, ls'z, l'z, hG'z, hT'z⟩ := g7 rfl
            obtain ⟨_, rfl⟩ := g8 rfl
            obtain ⟨_, rfl⟩ := g9 rfl
            obtain ⟨_, rfl⟩ := g10 rfl
            obtain ⟨rfl, f2, f3, f4, hXz⟩ := g11 rfl
            obtain ⟨_, _, rfl, rfl⟩ := g12 rfl
            obtain ⟨_, rfl⟩ := g13 rfl
            have DD := Lib.hid (hD.wide (K' := (KK + 2) + 2) (Nat.le_refl _))
            clear hD D
            clear g0 g1 g2 g3 g4 g5 g6 g7 g8 g9 g10 g11 g12 g13
            have hsub : IntKind.i64.wrap ((k : Int) - 1) = ((k - 1 : Nat) : Int) := by rw [IntKind.wrap_i64]; omega
            rcases Qz with _ | _
            · go_wp2_with fail
              go_roundw
              case rel => exact ⟨k - 1, _, _, _, _, by omega, rfl, DD.out.wide (by omega)⟩
              case measure => simp [intOf]; omega
            · have H1 := Lib.hid (oneL_any B b A n c ((KK + 2) + 2) 4 W DD.out.cur hn (by omega) (by omega) (by omega))
              go_wp2_with fail
              refine H1.out.mono ?_
              rintro e w8 ⟨qq, rfl, hc8, hg8⟩
              have hw8 : b < W.heap.size := by have := DD.out.out.size; have := DD.out.lt; omega
              have hXz := hXz.beside hg8 (by have := DD.out.lt; simp only [ne_eq, Option.some.injEq]; omega)
              have hG'z := hG'z.onlyB (only_reader hg8 hw8) (by have := DD.out.lt; omega)
              have D8 := Lib.hid (DD.out.pick hc8 hg8)
              clear H1 hc8 hg8 DD
              rcases qq with _ | _
              · go_wp2_with fail
                have DD := D8
                go_roundw
                case rel => exact ⟨k - 1, _, _, _, _, by omega, rfl, DD.out.wide (by omega)⟩
                case measure => simp [intOf]; omega
              · obtain ⟨r0, r1⟩ := hXz.cells
                obtain ⟨q0, q1⟩ := D8.out.g.cells
                have z0 := D8.out.g.soft 0
                have z1 := D8.out.g.soft 1
                have DD := Lib.hid (D8.out.put hG'z (by first | exact hT'z rfl | exact hT'z trivial))
                go_wp2_with fail
                go_roundw
                case rel => exact ⟨k - 1, _, _, _, _, by omega, rfl, DD.out.wide (by omega)⟩
                case measure => simp [intOf]; omega
    · have hd : decide ((k : Int) > 0) = false := decide_eq_false (by omega)
      have hk0 : k = 0 := by omega
      have H12 := Lib.hid (pickL_any B b A n c KK 30 wr D.out.cur hn (by omega) (by omega))
      go_wp2_with fail
      refine H12.out.mono ?_
      rintro e w5 ⟨z, hz, rfl, hc5, hg5⟩
      have D5 := Lib.hid (D.out.pick hc5 hg5)
      clear H12 hc5 hg5 D
      by_cases hz0 : z = 0
      · subst hz0
        go_wp2_with fail
        obtain ⟨go, hao, hn2, _, _, _, _⟩ := D5.out.order hN1
        subst hao
        have hlN := D5.out.tasks.2.1
        have hp0 : 0 < n2 := by omega
        clear hn2 hlN
        have hs2 : IntKind.i64.wrap ((N : Int) + 2) = ((N + 2 : Nat) : Int) := by rw [IntKind.wrap_i64]; omega
        obtain ⟨Inv, hInv⟩ : ∃ Inv : Array Bool → Act → World → Prop, Inv = fun (L : Array Bool) (a : Act) (W : World) => ∃ (b0 b1 b2 b3 b4 b5 b6 b7 b8 : Bool) (t61 t62 t63 t64 t65 t66 t67 t68 : Value) (l1 : List Int), L = #[b0, b1, b2, b3, b4, b5, b6, b7, b8] ∧ a = { tmps := #[.pointer (some ⟨b, 0, none⟩), undef, .pointer (some ⟨w.heap.size, 0, none⟩), .int .i64 (N : Int), .pointer (some ⟨G, 0, none⟩), .bool true, .int .i64 0, u7, u8, u9, u10, u11, .pointer (some ⟨b, 0, none⟩), .int .i64 (x : Int), .int .i64 (N : Int), .tuple #[.agg #[.slice an2 n12 cn2, .slice ao2 n22 co2], .bool true], .int .i64 (N : Int), .tuple #[.agg #[.slice an2 n12 cn2, .slice ao2 n22 co2], .bool true], .agg #[.slice an2 n12 cn2, .slice ao2 n22 co2], .bool true, .pointer (some ⟨b, 0, none⟩), .int .i64 (y : Int), .int .i64 0, .bool false, u24, u25, u26, u27, u28, u29, u30, u31, u32, u33, u34, u35, u36, u37, u38, u39, u40, u41, u42, u43, u44, u45, u46, u47, u48, u49, u50, u51, u52, u53, u54, u55, u56, .pointer (some ⟨b, 0, none⟩), .int .i64 0, .bool true, .bool true, t61, t62, t63, t64, t65, t66, t67, t68, undef, undef, undef, undef, undef, undef, undef, undef, undef, undef, undef, undef, undef, undef, undef, undef], defers := [] } ∧ DrawG B b A n c (KK + 1 + b5.toNat) G w.heap.size N 11 (.slice an n1 cn) (.slice (some ⟨go, 0, none⟩) n2 co) ls l1 w W ∧ (b0 = true → t61 = .pointer (some ⟨G, 1, none⟩)) ∧ (b1 = true → t62 = .slice (some ⟨go, 0, none⟩) n2 co) ∧ (b2 = true → t63 = .pointer (some ⟨b, 0, none⟩)) ∧ (b3 = true → t64 = .int .i64 (N : Int)) ∧ (b4 = true → t65 = .int .i64 ((N + 2 : Nat) : Int)) ∧ (b5 = true → ∃ p : Nat, t66 = .int .i64 (p : Int)) ∧ (b6 = true → ∃ q : Int, t67 = .int .i64 q) ∧ (b7 = true → t68 = .pointer (some ⟨go, 0, none⟩)) ∧ (b8 = true → True) := ⟨_, rfl⟩
        have HInv := Lib.hid hInv
        clear hInv
        refine wp_region_inv (by kernel_rfl) Inv ?_ ?_ ?_
        · rw [HInv.out]
          exact ⟨false, false, false, false, false, false, false, false, false, _, _, _, _, _, _, _, _, l, rfl, rfl, (by exact D5.out.more (Below.drew (Below.refl _ _))), fun h => absurd h (by decide), fun h => absurd h (by decide), fun h => absurd h (by decide), fun h => absurd h (by decide), fun h => absurd h (by decide), fun h => absurd h (by decide), fun h => absurd h (by decide), fun h => absurd h (by decide), fun h => absurd h (by decide)⟩
        · intro L a W i hI hi
          rw [HInv.out] at hI
          obtain ⟨b0, b1, b2, b3, b4, b5, b6, b7, b8, t61, t62, t63, t64, t65, t66, t67, t68, l1, hL, hact, hD, g0, g1, g2, g3, g4, g5, g6, g7, g8⟩ := hI
          subst hL hact
          obtain ⟨hi1, hi2⟩ := List.mem_filter.1 hi
          clear hi
          rw [Bool.and_eq_true] at hi2
          have hi3 : i < 9 := by simpa using hi1
          clear hi1
          rcases (by omega : i = 0 ∨ i = 1 ∨ i = 2 ∨ i = 3 ∨ i = 4 ∨ i = 5 ∨ i = 6 ∨ i = 7 ∨ i = 8) with rfl | rfl | rfl | rfl | rfl | rfl | rfl | rfl | rfl
          · -- 0
              refine wpOp_last rfl (fun a w k => k) ?_
              go_wp2_with fail
              refine then_normal ?_
              rw [HInv.out]
              exact ⟨true, b1, b2, b3, b4, b5, b6, b7, b8, _, _, _, _, _, _, _, _, l1, rfl, rfl, hD, (fun _ => rfl), g1, g2, g3, g4, g5, g6, g7, g8⟩
          · -- 1
              have hdp := hi2.2
              simp [Region.binds] at hdp
              have d0 : b0 = true := by revert hdp; cases b0 <;> simp
              clear hdp hi2
              subst d0
              obtain rfl := g0 rfl
              obtain ⟨r0, r1⟩ := hD.g.cells
              refine wpOp_last rfl (fun a w k => k) ?_
              go_wp2_with fail
              refine then_normal ?_
              rw [HInv.out]
              exact ⟨true, true, b2, b3, b4, b5, b6, b7, b8, _, _, _, _, _, _, _, _, l1, rfl, rfl, hD, (fun _ => rfl), (fun _ => rfl), g2, g3, g4, g5, g6, g7, g8⟩
          · -- 2
              refine wpOp_last rfl (fun a w k => k) ?_
              go_wp2_with fail
              refine then_normal ?_
              rw [HInv.out]
              exact ⟨b0, b1, true, b3, b4, b5, b6, b7, b8, _, _, _, _, _, _, _, _, l1, rfl, rfl, hD, g0, g1, (fun _ => rfl), g3, g4, g5, g6, g7, g8⟩
          · -- 3
              refine wpOp_last rfl (fun a w k => k) ?_
              go_wp2_with fail
              refine then_normal ?_
              rw [HInv.out]
              exact ⟨b0, b1, b2, true, b4, b5, b6, b7, b8, _, _, _, _, _, _, _, _, l1, rfl, rfl, hD, g0, g1, g2, (fun _ => rfl), g4, g5, g6, g7, g8⟩
          · -- 4
              have hdp := hi2.2
              simp [Region.binds] at hdp
              have d3 : b3 = true := by revert hdp; cases b3 <;> simp
              clear hdp hi2
              subst d3
              obtain rfl := g3 rfl
              refine wpOp_last rfl (fun a w k => k) ?_
              go_wp2_with fail
              refine then_normal ?_
              rw [HInv.out]
              exact ⟨b0, b1, b2, true, true, b5, b6, b7, b8, _, _, _, _, _, _, _, _, l1, rfl, rfl, hD, g0, g1, g2, (fun _ => rfl), (fun _ => rfl), g5, g6, g7, g8⟩
          · -- 5
              have ek : b5 = false := by simpa using hi2.1
              have hdp := hi2.2
              simp [Region.binds] at hdp
              have d2 : b2 = true := by revert hdp; cases b2 <;> simp
              have d4 : b4 = true := by revert hdp; cases b4 <;> simp
              clear hdp hi2
              subst d2 d4
              obtain rfl := g2 rfl
              obtain rfl := g4 rfl
              refine wpOp_last rfl (fun a w k => k) ?_
              go_wp2_with fail
              refine (pickL_any B b A n c (KK + 1 + b5.toNat) (N + 2) W hD.cur hn (by have := b5.toNat_le; omega) (by omega)).mono ?_
              rintro e w7 ⟨p, _, rfl, hc7, hg7⟩
              go_wp2_with fail
              refine then_normal ?_
              rw [HInv.out]
              exact ⟨b0, b1, true, b3, true, true, b6, b7, b8, _, _, _, _, _, _, _, _, l1, rfl, rfl, (hD.pick (hc7.more (by rw [ek]; simp only [Bool.toNat_false, Bool.toNat_true]; omega)) hg7), g0, g1, (fun _ => rfl), g3, (fun _ => rfl), (fun _ => ⟨p, rfl⟩), g6, g7, g8⟩
          · -- 6
              have hdp := hi2.2
              simp [Region.binds] at hdp
              have d5 : b5 = true := by revert hdp; cases b5 <;> simp
              clear hdp hi2
              subst d5
              obtain ⟨p, rfl⟩ := g5 rfl
              refine wpOp_last rfl (fun a w k => k) ?_
              go_wp2_with fail
              refine then_normal ?_
              rw [HInv.out]
              exact ⟨b0, b1, b2, b3, b4, true, true, b7, b8, _, _, _, _, _, _, _, _, l1, rfl, rfl, hD, g0, g1, g2, g3, g4, (fun _ => ⟨_, rfl⟩), (fun _ => ⟨_, rfl⟩), g7, g8⟩
          · -- 7
              have hdp := hi2.2
              simp [Region.binds] at hdp
              have d1 : b1 = true := by revert hdp; cases b1 <;> simp
              clear hdp hi2
              subst d1
              obtain rfl := g1 rfl
              refine wpOp_last rfl (fun a w k => k) ?_
              go_wp2_with fail
              refine then_normal ?_
              rw [HInv.out]
              exact ⟨b0, true, b2, b3, b4, b5, b6, true, b8, _, _, _, _, _, _, _, _, l1, rfl, rfl, hD, g0, (fun _ => rfl), g2, g3, g4, g5, g6, (fun _ => rfl), g8⟩
          · -- 8
              have hdp := hi2.2
              simp [Region.binds] at hdp
              have d7 : b7 = true := by revert hdp; cases b7 <;> simp
              have d6 : b6 = true := by revert hdp; cases b6 <;> simp
              clear hdp hi2
              subst d7 d6
              obtain rfl := g7 rfl
              obtain ⟨q, rfl⟩ := g6 rfl
              obtain ⟨go', eg, _, ⟨yy, hy⟩, hf, _, hset⟩ := hD.order hN1
              injection eg with eg
              injection eg with eg
              subst eg
              refine wpOp_last rfl (fun a w k => k) ?_
              go_wp2_with fail
              refine then_normal ?_
              rw [HInv.out]
              exact ⟨b0, b1, b2, b3, b4, b5, true, true, true, _, _, _, _, _, _, _, _, l1.set 0 q, rfl, rfl, (hset q), g0, g1, g2, g3, g4, g5, (fun _ => ⟨_, rfl⟩), (fun _ => rfl), (fun _ => trivial)⟩
        · intro L a W hI hdn
          rw [HInv.out] at hI
          obtain ⟨b0, b1, b2, b3, b4, b5, b6, b7, b8, t61, t62, t63, t64, t65, t66, t67, t68, l1, hL, hact, hD, g0, g1, g2, g3, g4, g5, g6, g7, g8⟩ := hI
          subst hL hact
          have hall := List.filter_eq_nil_iff.1 hdn
          clear hdn
          have e0 : b0 = true := by have hq := hall 0 (by simp); revert hq; cases b0 <;> simp [Region.binds]
          subst e0
          have e1 : b1 = true := by have hq := hall 1 (by simp); revert hq; cases b1 <;> simp [Region.binds]
          subst e1
          have e2 : b2 = true := by have hq := hall 2 (by simp); revert hq; cases b2 <;> simp [Region.binds]
          subst e2
          have e3 : b3 = true := by have hq := hall 3 (by simp); revert hq; cases b3 <;> simp [Region.binds]
          subst e3
          have e4 : b4 = true := by have hq := hall 4 (by simp); revert hq; cases b4 <;> simp [Region.binds]
          subst e4
          have e5 : b5 = true := by have hq := hall 5 (by simp); revert hq; cases b5 <;> simp [Region.binds]
          subst e5
          have e6 : b6 = true := by have hq := hall 6 (by simp); revert hq; cases b6 <;> simp [Region.binds]
          subst e6
          have e7 : b7 = true := by have hq := hall 7 (by simp); revert hq; cases b7 <;> simp [Region.binds]
          subst e7
          have e8 : b8 = true := by have hq := hall 8 (by simp); revert hq; cases b8 <;> simp [Region.binds]
          subst e8
          clear hall
          clear Inv HInv
          obtain rfl := g0 rfl
          obtain rfl := g1 rfl
          obtain rfl := g2 rfl
          obtain rfl := g3 rfl
          obtain rfl := g4 rfl
          obtain ⟨_, rfl⟩ := g5 rfl
          obtain ⟨_, rfl⟩ := g6 rfl
          obtain rfl := g7 rfl
          clear g0 g1 g2 g3 g4 g5 g6 g7 g8 hs2 hp0
          have D6 := Lib.hid (hD.wide (K' := KK + 2) (Nat.le_refl _))
          clear hD D5
          have D5 := D6
          clear D6
          obtain ⟨q0, q1⟩ := D5.out.g.cells
          obtain ⟨y0, y1⟩ := D5.out.r.cells
          have z0 := D5.out.r.soft 0
          have z1 := D5.out.r.soft 1
          have F := Lib.hid (D5.out.answer (x := .slice an n1 cn) (y := .slice (some ⟨go, 0, none⟩) n2 co))
          have ZR := Lib.hid ((D5.out.r.set0 (.slice an n1 cn)).set1 (.slice (some ⟨go, 0, none⟩) n2 co))
          have hT := D5.out.tasks
          go_wp2_with fail
          refine bodyPost_ret (results_cell rfl rfl (load_store2 ZR.out.cells.1 ZR.out.cells.2)) rfl ?_
          exact ⟨_, _, _, rfl, F.out.1, ⟨by have := hT.1; omega, by have := hT.2.1; omega, by have := hT.1; omega, fun k hk => Nat.le_trans (hT.2.2 k hk) (by omega)⟩, F.out.2.1.more (by omega), F.out.2.2⟩
      · have e0 : ((z : Int) == 0) = false := by rw [beq_eq_false_iff_ne]; omega
        by_cases hz1 : z = 1
        · subst hz1
          go_wp2_with fail
          obtain ⟨gn, s, _, han, hn1, _, hcs, _, _, hos, _⟩ := D5.out.needs hN1
          subst han
          obtain ⟨sa, sc, rfl⟩ := own_slice hos
          generalize _root_.List.length _ = sn at hcs
          clear hos
          have hlN := D5.out.tasks.1
          have hp0 : 0 < n1 := by omega
          clear hn1 hlN
          have hs1 : IntKind.i64.wrap ((N : Int) + 1) = ((N + 1 : Nat) : Int) := by rw [IntKind.wrap_i64]; omega
          obtain ⟨Inv, hInv⟩ : ∃ Inv : Array Bool → Act → World → Prop, Inv = fun (L : Array Bool) (a : Act) (W : World) => ∃ (b0 b1 b2 b3 b4 b5 b6 b7 b8 b9 b10 b11 b12 b13 : Bool) (t71 t72 t73 t74 t75 t76 t77 t78 t79 t80 t81 t82 t83 : Value), L = #[b0, b1, b2, b3, b4, b5, b6, b7, b8, b9, b10, b11, b12, b13] ∧ a = { tmps := #[.pointer (some ⟨b, 0, none⟩), undef, .pointer (some ⟨w.heap.size, 0, none⟩), .int .i64 (N : Int), .pointer (some ⟨G, 0, none⟩), .bool true, .int .i64 0, u7, u8, u9, u10, u11, .pointer (some ⟨b, 0, none⟩), .int .i64 (x : Int), .int .i64 (N : Int), .tuple #[.agg #[.slice an2 n12 cn2, .slice ao2 n22 co2], .bool true], .int .i64 (N : Int), .tuple #[.agg #[.slice an2 n12 cn2, .slice ao2 n22 co2], .bool true], .agg #[.slice an2 n12 cn2, .slice ao2 n22 co2], .bool true, .pointer (some ⟨b, 0, none⟩), .int .i64 (y : Int), .int .i64 0, .bool false, u24, u25, u26, u27, u28, u29, u30, u31, u32, u33, u34, u35, u36, u37, u38, u39, u40, u41, u42, u43, u44, u45, u46, u47, u48, u49, u50, u51, u52, u53, u54, u55, u56, .pointer (some ⟨b, 0, none⟩), .int .i64 1, .bool false, .bool false, undef, undef, undef, undef, undef, undef, undef, undef, .bool true, .bool true, t71, t72, t73, t74, t75, t76, t77, t78, t79, t80, t81, t82, t83, undef], defers := [] } ∧ Blk2 W G 26 (.slice (some ⟨gn, 0, none⟩) n1 cn) (.slice ao n2 co) ∧ (b13 = false → W.cell? ⟨gn, 0, none⟩ = some (.slice sa sn sc)) ∧ (b11 = false → DrawG B b A n c (KK + 1 + b9.toNat) G w.heap.size N 11 (.slice (some ⟨gn, 0, none⟩) n1 cn) (.slice ao n2 co) ls l w W) ∧ (b0 = true → t71 = .pointer (some ⟨G, 0, none⟩)) ∧ (b1 = true → t72 = .slice (some ⟨gn, 0, none⟩) n1 cn) ∧ (b2 = true → t73 = .pointer (some ⟨G, 0, none⟩)) ∧ (b3 = true → t74 = .slice (some ⟨gn, 0, none⟩) n1 cn) ∧ (b4 = true → t75 = .pointer (some ⟨gn, 0, none⟩)) ∧ (b5 = true → t76 = .slice sa sn sc) ∧ (b6 = true → t77 = .pointer (some ⟨b, 0, none⟩)) ∧ (b7 = true → t78 = .int .i64 (N : Int)) ∧ (b8 = true → t79 = .int .i64 ((N + 1 : Nat) : Int)) ∧ (b9 = true → ∃ p : Nat, t80 = .int .i64 (p : Int)) ∧ (b10 = true → b9 = true ∧ (b11 = false → ∃ (Wp : World) (p : Nat), W = Wp.alloc (.cells #[.int .i64 (p : Int)] 3) ∧ t81 = .slice (some ⟨Wp.heap.size, 0, none⟩) 1 1 ∧ DrawG B b A n c (KK + 2) G w.heap.size N 11 (.slice (some ⟨gn, 0, none⟩) n1 cn) (.slice ao n2 co) ls l w Wp ∧ Wp.cell? ⟨gn, 0, none⟩ = some (.slice sa sn sc))) ∧ (b11 = true → b5 = true ∧ b10 = true ∧ (b13 = false → W.frozen? ⟨gn, 0, none⟩ = false ∧ ∃ (x7 : Option Addr) (y7 z7 : Nat) (ls' : List (List Int)), t82 = .slice x7 y7 z7 ∧ DrawG B b A n c (KK + 2) G w.heap.size N 12 (.slice (some ⟨gn, 0, none⟩) n1 cn) (.slice ao n2 co) ls' l w (W.setCell ⟨gn, 0, none⟩ t82))) ∧ (b12 = true → t83 = .pointer (some ⟨gn, 0, none⟩)) ∧ (b13 = true → b11 = true ∧ ∃ ls' : List (List Int), DrawG B b A n c (KK + 2) G w.heap.size N 12 (.slice (some ⟨gn, 0, none⟩) n1 cn) (.slice ao n2 co) ls' l w W) := ⟨_, rfl⟩
          have HInv := Lib.hid hInv
          clear hInv
          refine wp_region_inv (by kernel_rfl) Inv ?_ ?_ ?_
          · rw [HInv.out]
            exact ⟨false, false, false, false, false, false, false, false, false, false, false, false, false, false, _, _, _, _, _, _, _, _, _, _, _, _, _, rfl, rfl, (by exact D5.out.g), (fun _ => by exact hcs), (fun _ => by exact D5.out.more (Below.drew (Below.refl _ _))), fun h => absurd h (by decide), fun h => absurd h (by decide), fun h => absurd h (by decide), fun h => absurd h (by decide), fun h => absurd h (by decide), fun h => absurd h (by decide), fun h => absurd h (by decide), fun h => absurd h (by decide), fun h => absurd h (by decide), fun h => absurd h (by decide), fun h => absurd h (by decide), fun h => absurd h (by decide), fun h => absurd h (by decide), fun h => absurd h (by decide)⟩
          · intro L a W i hI hi
            rw [HInv.out] at hI
            obtain ⟨b0, b1, b2, b3, b4, b5, b6, b7, b8, b9, b10, b11, b12, b13, t71, t72, t73, t74, t75, t76, t77, t78, t79, t80, t81, t82, t83, hL, hact, hG, hC, hD, g0, g1, g2, g3, g4, g5, g6, g7, g8, g9, g10, g11, g12, g13⟩ := hI
            subst hL hact
            obtain ⟨hi1, hi2⟩ := List.mem_filter.1 hi
            clear hi
            rw [Bool.and_eq_true] at hi2
            have hi3 : i < 14 := by simpa using hi1
            clear hi1 hcs
            rcases (by omega : i = 0 ∨ i = 1 ∨ i = 2 ∨ i = 3 ∨ i = 4 ∨ i = 5 ∨ i = 6 ∨ i = 7 ∨ i = 8 ∨ i = 9 ∨ i = 10 ∨ i = 11 ∨ i = 12 ∨ i = 13) with rfl | rfl | rfl | rfl | rfl | rfl | rfl | rfl | rfl | rfl | rfl | rfl | rfl | rfl
            · -- 0
                refine wpOp_last rfl (fun a w k => k) ?_
                go_wp2_with fail
                refine then_normal ?_
                rw [HInv.out]
                exact ⟨true, b1, b2, b3, b4, b5, b6, b7, b8, b9, b10, b11, b12, b13, _, _, _, _, _, _, _, _, _, _, _, _, _, rfl, rfl, hG, hC, hD, (fun _ => rfl), g1, g2, g3, g4, g5, g6, g7, g8, g9, g10, g11, g12, g13⟩
            · -- 1
                have hdp := hi2.2
                simp [Region.binds] at hdp
                have d0 : b0 = true := by revert hdp; cases b0 <;> simp
                clear hdp hi2
                subst d0
                obtain rfl := g0 rfl
                obtain ⟨r0, r1⟩ := hG.cells
                refine wpOp_last rfl (fun a w k => k) ?_
                go_wp2_with fail
                refine then_normal ?_
                rw [HInv.out]
                exact ⟨true, true, b2, b3, b4, b5, b6, b7, b8, b9, b10, b11, b12, b13, _, _, _, _, _, _, _, _, _, _, _, _, _, rfl, rfl, hG, hC, hD, (fun _ => rfl), (fun _ => rfl), g2, g3, g4, g5, g6, g7, g8, g9, g10, g11, g12, g13⟩
            · -- 2
                refine wpOp_last rfl (fun a w k => k) ?_
                go_wp2_with fail
                refine then_normal ?_
                rw [HInv.out]
                exact ⟨b0, b1, true, b3, b4, b5, b6, b7, b8, b9, b10, b11, b12, b13, _, _, _, _, _, _, _, _, _, _, _, _, _, rfl, rfl, hG, hC, hD, g0, g1, (fun _ => rfl), g3, g4, g5, g6, g7, g8, g9, g10, g11, g12, g13⟩
            · -- 3
                have hdp := hi2.2
                simp [Region.binds] at hdp
                have d2 : b2 = true := by revert hdp; cases b2 <;> simp
                clear hdp hi2
                subst d2
                obtain rfl := g2 rfl
                obtain ⟨r0, r1⟩ := hG.cells
                refine wpOp_last rfl (fun a w k => k) ?_
                go_wp2_with fail
                refine then_normal ?_
                rw [HInv.out]
                exact ⟨b0, b1, true, true, b4, b5, b6, b7, b8, b9, b10, b11, b12, b13, _, _, _, _, _, _, _, _, _, _, _, _, _, rfl, rfl, hG, hC, hD, g0, g1, (fun _ => rfl), (fun _ => rfl), g4, g5, g6, g7, g8, g9, g10, g11, g12, g13⟩
            · -- 4
                have hdp := hi2.2
                simp [Region.binds] at hdp
                have d3 : b3 = true := by revert hdp; cases b3 <;> simp
                clear hdp hi2
                subst d3
                obtain rfl := g3 rfl
                refine wpOp_last rfl (fun a w k => k) ?_
                go_wp2_with fail
                refine then_normal ?_
                rw [HInv.out]
                exact ⟨b0, b1, b2, true, true, b5, b6, b7, b8, b9, b10, b11, b12, b13, _, _, _, _, _, _, _, _, _, _, _, _, _, rfl, rfl, hG, hC, hD, g0, g1, g2, (fun _ => rfl), (fun _ => rfl), g5, g6, g7, g8, g9, g10, g11, g12, g13⟩
            · -- 5
                have ek : b5 = false := by simpa using hi2.1
                have e11 : b11 = false := by rcases hq : b11 with _ | _; rfl; exact absurd ((g11 hq).1.symm.trans ek) (by decide)
                have e13 : b13 = false := by rcases hq : b13 with _ | _; rfl; exact absurd ((g13 hq).1.symm.trans e11) (by decide)
                have hdp := hi2.2
                simp [Region.binds] at hdp
                have d4 : b4 = true := by revert hdp; cases b4 <;> simp
                clear hdp hi2
                subst d4
                obtain rfl := g4 rfl
                have hc := hC e13
                clear e11 e13 ek
                refine wpOp_last rfl (fun a w k => k) ?_
                go_wp2_with fail
                refine then_normal ?_
                rw [HInv.out]
                exact ⟨b0, b1, b2, b3, true, true, b6, b7, b8, b9, b10, b11, b12, b13, _, _, _, _, _, _, _, _, _, _, _, _, _, rfl, rfl, hG, hC, hD, g0, g1, g2, g3, (fun _ => rfl), (fun _ => rfl), g6, g7, g8, g9, g10, (fun h => by first | exact g11 h | exact ⟨rfl, (g11 h).2⟩), g12, g13⟩
            · -- 6
                refine wpOp_last rfl (fun a w k => k) ?_
                go_wp2_with fail
                refine then_normal ?_
                rw [HInv.out]
                exact ⟨b0, b1, b2, b3, b4, b5, true, b7, b8, b9, b10, b11, b12, b13, _, _, _, _, _, _, _, _, _, _, _, _, _, rfl, rfl, hG, hC, hD, g0, g1, g2, g3, g4, g5, (fun _ => rfl), g7, g8, g9, g10, g11, g12, g13⟩
            · -- 7
                refine wpOp_last rfl (fun a w k => k) ?_
                go_wp2_with fail
                refine then_normal ?_
                rw [HInv.out]
                exact ⟨b0, b1, b2, b3, b4, b5, b6, true, b8, b9, b10, b11, b12, b13, _, _, _, _, _, _, _, _, _, _, _, _, _, rfl, rfl, hG, hC, hD, g0, g1, g2, g3, g4, g5, g6, (fun _ => rfl), g8, g9, g10, g11, g12, g13⟩
            · -- 8
                have hdp := hi2.2
                simp [Region.binds] at hdp
                have d7 : b7 = true := by revert hdp; cases b7 <;> simp
                clear hdp hi2
                subst d7
                obtain rfl := g7 rfl
                refine wpOp_last rfl (fun a w k => k) ?_
                go_wp2_with fail
                refine then_normal ?_
                rw [HInv.out]
                exact ⟨b0, b1, b2, b3, b4, b5, b6, true, true, b9, b10, b11, b12, b13, _, _, _, _, _, _, _, _, _, _, _, _, _, rfl, rfl, hG, hC, hD, g0, g1, g2, g3, g4, g5, g6, (fun _ => rfl), (fun _ => rfl), g9, g10, g11, g12, g13⟩
            · -- 9
                have ek : b9 = false := by simpa using hi2.1
                have e10 : b10 = false := by rcases hq : b10 with _ | _; rfl; exact absurd ((g10 hq).1.symm.trans ek) (by decide)
                have e11 : b11 = false := by rcases hq : b11 with _ | _; rfl; exact absurd ((g11 hq).2.1.symm.trans e10) (by decide)
                have e13 : b13 = false := by rcases hq : b13 with _ | _; rfl; exact absurd ((g13 hq).1.symm.trans e11) (by decide)
                have hdp := hi2.2
                simp [Region.binds] at hdp
                have d6 : b6 = true := by revert hdp; cases b6 <;> simp
                have d8 : b8 = true := by revert hdp; cases b8 <;> simp
                clear hdp hi2
                subst d6 d8
                obtain rfl := g6 rfl
                obtain rfl := g8 rfl
                have hc := hC e13
                have hDD := hD e11
                have X10 := Lib.hid e10
                have X11 := Lib.hid e11
                have X13 := Lib.hid e13
                clear e10 e11 e13
                refine wpOp_last rfl (fun a w k => k) ?_
                go_wp2_with fail
                refine (pickL_any B b A n c (KK + 1 + b9.toNat) (N + 1) W hDD.cur hn (by have := b9.toNat_le; omega) (by omega)).mono ?_
                rintro e w7 ⟨p, _, rfl, hc7, hg7⟩
                have hbk := hg7.block gn (World.block_lt_of_cell? _ _ hc) (by have := hDD.lt; simp only [ne_eq, Option.some.injEq]; omega)
                have hcc : w7.cell? ⟨gn, 0, none⟩ = some (.slice sa sn sc) := by rw [← hc]; simp only [World.cell?, hbk]
                go_wp2_with fail
                refine then_normal ?_
                rw [HInv.out]
                exact ⟨b0, b1, b2, b3, b4, b5, true, b7, true, true, b10, b11, b12, b13, _, _, _, _, _, _, _, _, _, _, _, _, _, rfl, rfl, (hG.beside hg7 (by have := hDD.lt; have := hDD.hg; simp only [ne_eq, Option.some.injEq]; omega)), (fun _ => hcc), (fun _ => hDD.pick (hc7.more (by rw [ek]; simp only [Bool.toNat_false, Bool.toNat_true]; omega)) hg7), g0, g1, g2, g3, g4, g5, (fun _ => rfl), g7, (fun _ => rfl), (fun _ => ⟨p, rfl⟩), (fun h => absurd (h.symm.trans X10.out) (by decide)), (fun h => absurd (h.symm.trans X11.out) (by decide)), g12, (fun h => absurd (h.symm.trans X13.out) (by decide))⟩
            · -- 10
                have ek : b10 = false := by simpa using hi2.1
                have e11 : b11 = false := by rcases hq : b11 with _ | _; rfl; exact absurd ((g11 hq).2.1.symm.trans ek) (by decide)
                have e13 : b13 = false := by rcases hq : b13 with _ | _; rfl; exact absurd ((g13 hq).1.symm.trans e11) (by decide)
                have hdp := hi2.2
                simp [Region.binds] at hdp
                have d9 : b9 = true := by revert hdp; cases b9 <;> simp
                clear hdp hi2
                subst d9
                obtain ⟨p, rfl⟩ := g9 rfl
                have hc := hC e13
                have hDD := hD e11
                have hba := (Below.refl W.heap.size W).alloc (Nat.le_refl _) (.cells #[.int .i64 (p : Int)] 3)
                have X11 := Lib.hid e11
                have X13 := Lib.hid e13
                clear e11 e13
                refine wpOp_last rfl (fun a w k => k) ?_
                go_wp2_with fail
                refine then_normal ?_
                rw [HInv.out]
                have hgl : gn < W.heap.size := World.block_lt_of_cell? _ _ hc
                exact ⟨b0, b1, b2, b3, b4, b5, b6, b7, b8, true, true, b11, b12, b13, _, _, _, _, _, _, _, _, _, _, _, _, _, rfl, rfl, (hG.below hba (lt_of_block hG)), (fun _ => (hba.cell (p := ⟨gn, 0, none⟩) hgl).trans hc), (fun _ => hDD.more hba), g0, g1, g2, g3, g4, g5, g6, g7, g8, (fun _ => ⟨_, rfl⟩), (fun _ => ⟨rfl, fun _ => ⟨W, p, rfl, rfl, hDD, hc⟩⟩), (fun h => absurd (h.symm.trans X11.out) (by decide)), g12, (fun h => absurd (h.symm.trans X13.out) (by decide))⟩
            · -- 11
                have ek : b11 = false := by simpa using hi2.1
                have e13 : b13 = false := by rcases hq : b13 with _ | _; rfl; exact absurd ((g13 hq).1.symm.trans ek) (by decide)
                have hdp := hi2.2
                simp [Region.binds] at hdp
                have d5 : b5 = true := by revert hdp; cases b5 <;> simp
                have d10 : b10 = true := by revert hdp; cases b10 <;> simp
                clear hdp hi2
                subst d5 d10
                obtain rfl := g5 rfl
                obtain ⟨d9, h10⟩ := g10 rfl
                subst d9
                obtain ⟨_, rfl⟩ := g9 rfl
                have X13 := Lib.hid e13
                clear e13
                obtain ⟨Wp, p, rfl, rfl, hDp, hCp⟩ := h10 ek
                obtain ⟨gn', s', m0, eg, _, _, hc', _, hm0, hs', hnew⟩ := hDp.needs hN1
                injection eg with eg
                injection eg with eg
                subst eg
                obtain rfl := Option.some.inj (hc'.symm.trans hCp)
                clear h10 g10 hC hD hG
                refine wpOp_last rfl (fun a w k => k) ?_
                refine wpAppAt rfl _ _ rfl w.heap.size _ m0 rfl hs' _ rfl rfl (by omega) hDp.out.size ?_
                intro v7 w7 ho7 hg7 hv7
                obtain ⟨x7, z7, rfl⟩ := own_slice ho7
                go_wp2_with fail
                obtain ⟨q1, q2, q3, q4⟩ := hnew _ _ _ ho7 hg7 hv7
                rw [List.length_append, List.length_singleton] at q4
                refine then_normal ?_
                rw [HInv.out]
                exact ⟨b0, b1, b2, b3, b4, true, b6, b7, b8, true, true, true, b12, b13, _, _, _, _, _, _, _, _, _, _, _, _, _, rfl, rfl, q1, (fun _ => q2), (fun h => absurd h (by decide)), g0, g1, g2, g3, g4, (fun _ => rfl), g6, g7, g8, (fun _ => ⟨_, rfl⟩), (fun _ => ⟨rfl, fun h => absurd h (by decide)⟩), (fun _ => ⟨rfl, rfl, fun _ => ⟨q3, x7, m0.length + 1, z7, _, rfl, q4⟩⟩), g12, (fun h => absurd (h.symm.trans X13.out) (by decide))⟩
            · -- 12
                have hdp := hi2.2
                simp [Region.binds] at hdp
                have d1 : b1 = true := by revert hdp; cases b1 <;> simp
                clear hdp hi2
                subst d1
                obtain rfl := g1 rfl
                refine wpOp_last rfl (fun a w k => k) ?_
                go_wp2_with fail
                refine then_normal ?_
                rw [HInv.out]
                exact ⟨b0, true, b2, b3, b4, b5, b6, b7, b8, b9, b10, b11, true, b13, _, _, _, _, _, _, _, _, _, _, _, _, _, rfl, rfl, hG, hC, hD, g0, (fun _ => rfl), g2, g3, g4, g5, g6, g7, g8, g9, g10, g11, (fun _ => rfl), g13⟩
            · -- 13
                have ek : b13 = false := by simpa using hi2.1
                have hdp := hi2.2
                simp [Region.binds] at hdp
                have d12 : b12 = true := by revert hdp; cases b12 <;> simp
                have d11 : b11 = true := by revert hdp; cases b11 <;> simp
                clear hdp hi2
                subst d12 d11
                obtain rfl := g12 rfl
                obtain ⟨q5, q10, h11⟩ := g11 rfl
                obtain ⟨hf, x7, y7, z7, ls', rfl, hD'⟩ := h11 ek
                have hc := hC ek
                have d9 := (g10 q10).1
                subst q5 q10 d9
                obtain rfl := g5 rfl
                obtain ⟨_, rfl⟩ := g9 rfl
                clear h11 g11 g13 hC hD
                refine wpOp_last rfl (fun a w k => k) ?_
                go_wp2_with fail
                refine then_normal ?_
                rw [HInv.out]
                exact ⟨b0, b1, b2, b3, b4, true, b6, b7, b8, true, true, true, true, true, _, _, _, _, _, _, _, _, _, _, _, _, _, rfl, rfl, hD'.g, (fun h => absurd h (by decide)), (fun h => absurd h (by decide)), g0, g1, g2, g3, g4, (fun _ => rfl), g6, g7, g8, (fun _ => ⟨_, rfl⟩), (fun _ => ⟨rfl, fun h => absurd h (by decide)⟩), (fun _ => ⟨rfl, rfl, fun h => absurd h (by decide)⟩), (fun _ => rfl), (fun _ => ⟨rfl, ls', hD'⟩)⟩
          · intro L a W hI hdn
            rw [HInv.out] at hI
            obtain ⟨b0, b1, b2, b3, b4, b5, b6, b7, b8, b9, b10, b11, b12, b13, t71, t72, t73, t74, t75, t76, t77, t78, t79, t80, t81, t82, t83, hL, hact, hG, hC, hD, g0, g1, g2, g3, g4, g5, g6, g7, g8, g9, g10, g11, g12, g13⟩ := hI
            subst hL hact
            have hall := List.filter_eq_nil_iff.1 hdn
            clear hdn
            have e0 : b0 = true := by have hq := hall 0 (by simp); revert hq; cases b0 <;> simp [Region.binds]
            subst e0
            have e1 : b1 = true := by have hq := hall 1 (by simp); revert hq; cases b1 <;> simp [Region.binds]
            subst e1
            have e2 : b2 = true := by have hq := hall 2 (by simp); revert hq; cases b2 <;> simp [Region.binds]
            subst e2
            have e3 : b3 = true := by have hq := hall 3 (by simp); revert hq; cases b3 <;> simp [Region.binds]
            subst e3
            have e4 : b4 = true := by have hq := hall 4 (by simp); revert hq; cases b4 <;> simp [Region.binds]
            subst e4
            have e5 : b5 = true := by have hq := hall 5 (by simp); revert hq; cases b5 <;> simp [Region.binds]
            subst e5
            have e6 : b6 = true := by have hq := hall 6 (by simp); revert hq; cases b6 <;> simp [Region.binds]
            subst e6
            have e7 : b7 = true := by have hq := hall 7 (by simp); revert hq; cases b7 <;> simp [Region.binds]
            subst e7
            have e8 : b8 = true := by have hq := hall 8 (by simp); revert hq; cases b8 <;> simp [Region.binds]
            subst e8
            have e9 : b9 = true := by have hq := hall 9 (by simp); revert hq; cases b9 <;> simp [Region.binds]
            subst e9
            have e10 : b10 = true := by have hq := hall 10 (by simp); revert hq; cases b10 <;> simp [Region.binds]
            subst e10
            have e11 : b11 = true := by have hq := hall 11 (by simp); revert hq; cases b11 <;> simp [Region.binds]
            subst e11
            have e12 : b12 = true := by have hq := hall 12 (by simp); revert hq; cases b12 <;> simp [Region.binds]
            subst e12
            have e13 : b13 = true := by have hq := hall 13 (by simp); revert hq; cases b13 <;> simp [Region.binds]
            subst e13
            clear hall hcs
            clear Inv HInv
            obtain rfl := g0 rfl
            obtain rfl := g1 rfl
            obtain rfl := g2 rfl
            obtain rfl := g3 rfl
            obtain rfl := g4 rfl
            obtain rfl := g5 rfl
            obtain rfl := g6 rfl
            obtain rfl := g7 rfl
            obtain rfl := g8 rfl
            obtain rfl := g12 rfl
            obtain ⟨_, rfl⟩ := g9 rfl
            obtain ⟨_, ls', hD'⟩ := g13 rfl
            clear g0 g1 g2 g3 g4 g5 g6 g7 g8 g9 g10 g11 g12 g13 hs1 hp0 hC hD hG
            have D6 := Lib.hid hD'
            clear hD' D5
            have D5 := D6
            clear D6
            obtain ⟨q0, q1⟩ := D5.out.g.cells
            obtain ⟨y0, y1⟩ := D5.out.r.cells
            have z0 := D5.out.r.soft 0
            have z1 := D5.out.r.soft 1
            have F := Lib.hid (D5.out.answer (x := .slice (some ⟨gn, 0, none⟩) n1 cn) (y := .slice ao n2 co))
            have ZR := Lib.hid ((D5.out.r.set0 (.slice (some ⟨gn, 0, none⟩) n1 cn)).set1 (.slice ao n2 co))
            have hT := D5.out.tasks
            go_wp2_with fail
            refine bodyPost_ret (results_cell rfl rfl (load_store2 ZR.out.cells.1 ZR.out.cells.2)) rfl ?_
            exact ⟨_, _, _, rfl, F.out.1, ⟨by have := hT.1; omega, by have := hT.2.1; omega, by have := hT.1; omega, fun k hk => Nat.le_trans (hT.2.2 k hk) (by omega)⟩, F.out.2.1.more (by omega), F.out.2.2⟩
        · have e1 : ((z : Int) == 1) = false := by rw [beq_eq_false_iff_ne]; omega
          obtain ⟨q0, q1⟩ := D5.out.g.cells
          obtain ⟨y0, y1⟩ := D5.out.r.cells
          have z0 := D5.out.r.soft 0
          have z1 := D5.out.r.soft 1
          have F := Lib.hid (D5.out.answer (x := .slice an n1 cn) (y := .slice ao n2 co))
          have ZR := Lib.hid ((D5.out.r.set0 (.slice an n1 cn)).set1 (.slice ao n2 co))
          have hT := D5.out.tasks
          go_wp2_with fail
          refine bodyPost_ret (results_cell rfl rfl (load_store2 ZR.out.cells.1 ZR.out.cells.2)) rfl ?_
          exact ⟨_, _, _, rfl, F.out.1, ⟨by have := hT.1; omega, by have := hT.2.1; omega, by have := hT.1; omega, fun k hk => Nat.le_trans (hT.2.2 k hk) (by omega)⟩, F.out.2.1.more (by omega), F.out.2.2⟩
end Go.Proofs.Ytgolhfmmlanmlaa
