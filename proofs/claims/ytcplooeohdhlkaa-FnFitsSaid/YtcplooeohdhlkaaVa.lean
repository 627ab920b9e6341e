/- Walks: the reference's drawn arguments of chapter 2 that hold lists. -/
import Derived.Test.YtcplooeohdhlkaaSc
namespace Go.Proofs.Ytcplooeohdhlkaa
open Go.RowKit Pth

/-- A list of the call's own beside a block that alone has turned. -/
theorem own_other {w w' : World} {B1 e n g : Nat} {v : Value} {xs : List Value} (h : w.ownsRow B1 e 1 v n xs) (hg : w.grownBy w' (some g)) (hlt : g < B1) : w'.ownsRow B1 e 1 v n xs := by
  refine h.kept hg ?_
  rcases hv : v.ownBlock with _ | k
  · exact .inl rfl
  · refine .inr (fun e => ?_)
    have h1 := (h.lt k hv).1
    injection e with e
    omega
/-- The reader beside a list of the call's own that has turned. -/
theorem cur_other {B b : Nat} {A : Option Addr} {n c k : Nat} {w w' : World} {row : Option Nat} (h : Cur B b A n c k w) (hg : w.grownBy w' row) (hr : ∀ j, row = some j → b < j) (hB : B ≤ w.heap.size) : Cur B b A n c k w' := by
  obtain ⟨h1, ⟨sd, h2⟩, h3⟩ := h
  refine ⟨h1, ⟨sd, (hg.block b (lt_of_block h2) (fun e => by have := hr b e.symm; omega)).trans h2⟩, fun i hi => ?_⟩
  obtain ⟨g, o', x, hA, hgB, hc, h0, h4⟩ := h3 i hi
  refine ⟨g, o', x, hA, hgB, ?_, h0, h4⟩
  rw [World.cell?_of_block (hg.block g (by omega) (fun e => by have := hr g e.symm; omega))]
  exact hc
theorem own_row_gt {w : World} {B e n : Nat} {v : Value} {xs : List Value} (h : w.ownsRow (B + 1) e 1 v n xs) : ∀ j, v.ownBlock = some j → B < j := fun j hj => (h.lt j hj).1
theorem below_row {w w1 w2 : World} {e n : Nat} {v : Value} {xs : List Value} (hb : Below w.heap.size w w1) (h : w1.ownsRow (w.heap.size + 1) e 1 v n xs) (hg : w1.grownBy w2 v.ownBlock) : Below w.heap.size w w2 :=
  hb.grown hg hb.size (fun k hk => by have := own_row_gt h k hk; omega)
theorem cur_room {b : Nat} {A : Option Addr} {n c k : Nat} {w : World} (h : Cur b b A n c k w) : b + 1 ≤ w.heap.size := cur_lt h

/-- A pattern and a list of names. -/
def DrawnL (w : World) (e : Ending) (w' : World) : Prop :=
  ∃ (p : List UInt8) (l : List (List UInt8)) (v : Value), p.length ≤ 300 ∧ l.length ≤ 300 ∧ (∀ x ∈ l, x.length ≤ 300) ∧ e = .returned (.tuple #[.string ⟨p.toArray⟩, v]) ∧ w'.ownsRow w.heap.size 9 1 v l.length (S l) ∧ Below w.heap.size w w'

theorem short_snoc {l : List (List UInt8)} {x : List UInt8} (h : ∀ y ∈ l, y.length ≤ 300) (hx : x.length ≤ 300) : ∀ y ∈ l ++ [x], y.length ≤ 300 := by
  intro y hy
  rcases List.mem_append.1 hy with hy | hy
  · exact h y hy
  · rw [List.mem_singleton] at hy; rw [hy]; exact hx
theorem S_set (l : List (List UInt8)) (k : Nat) (x : List UInt8) : (S l).set k (.string ⟨x.toArray⟩) = S (l.set k x) := by simp [S, List.map_set]
theorem short_set {l : List (List UInt8)} {k : Nat} {x : List UInt8} (h : ∀ y ∈ l, y.length ≤ 300) (hx : x.length ≤ 300) : ∀ y ∈ l.set k x, y.length ≤ 300 := by
  intro y hy
  rcases List.mem_or_eq_of_mem_set hy with hy | hy
  · exact h y hy
  · rw [hy]; exact hx

set_option maxHeartbeats 4000000 in
theorem drawAll_any (A : Option Addr) (n c : Nat) (w : World) (h : BytesIn w A n) (hn : n ≤ 2000000) :
    Calls Try.prog 20 #[.slice A n c] w (DrawnL w) := by
  have C := Lib.hid (pattern_any w.heap.size w.heap.size A n c 0 _ (cur_new (c := c) h) hn (by omega) (by simp))
  clear h
  go_enter Try.func20, Try.ntmps20
  go_wp2_with fail
  refine C.out.mono ?_
  rintro e w1 ⟨s, k1, hs, hk1, rfl, hC1, hg1⟩
  have HB1 := Lib.hid (below_cur (below_new w _) hg1)
  have C2 := Lib.hid (pick_any w.heap.size w.heap.size A n c k1 6 w1 hC1 hn (by omega) (by omega) (by omega))
  clear C hC1 hg1
  go_wp2_with fail
  refine C2.out.mono ?_
  rintro e w2 ⟨x, hx0, hx1, rfl, hC2, hg2⟩
  obtain ⟨j0, rfl⟩ : ∃ j : Nat, x = j := ⟨x.toNat, by omega⟩
  have hj0 : j0 ≤ 5 := by omega
  have HB2 := Lib.hid (below_cur HB1.out hg2)
  have C3 := Lib.hid (one_any w.heap.size w.heap.size A n c (k1 + 1) 20 w2 hC2 hn (by omega) (by omega) (by omega))
  clear C2 hC2 hg2 hx0 hx1 HB1
  go_wp2_with fail
  refine C3.out.mono ?_
  rintro e w3 ⟨q, rfl, hC3, hg3⟩
  have HB3 := Lib.hid (below_cur HB2.out hg3)
  have HC3 := Lib.hid hC3
  clear C3 hC3 hg3 HB2
  rcases q with _ | _
  · go_wp2_with fail
    go_loopw [6, 7] (fun u i wr => ∃ (acc : List (List UInt8)) (j kk : Nat), acc.length + j ≤ 41 ∧ kk + 20 * j ≤ 2000 ∧ i = .int .i64 j ∧ Hid (wr.ownsRow (w.heap.size + 1) 9 1 u acc.length (S acc)) ∧ Hid (∀ y ∈ acc, y.length ≤ 300) ∧ Hid (Cur w.heap.size w.heap.size A n c kk wr) ∧ Hid (Below w.heap.size w wr)) (fun _ i _ => (intOf i).toNat)
    case atStart => exact ⟨[], j0, k1 + 1 + 1, by simp; omega, by omega, by go_num, World.ownsRow_nil _ _ _ _, fun y hy => by simp at hy, HC3, HB3⟩
    case round =>
      clear HC3 HB3
      obtain ⟨acc, j, kk, hj, hkk, rfl, HN, HL, HC, HB⟩ := hrel
      by_cases hlt : 0 < j
      · have hO := Lib.hid (name_any w.heap.size w.heap.size A n c kk wr HC.out hn (by omega) HB.out.size)
        go_wp2_with fail
        refine hO.out.mono ?_
        rintro e w5 ⟨y, k5, hy, hk5, rfl, hC5, hg5⟩
        have HB5 := Lib.hid (below_cur HB.out hg5)
        have HC5 := Lib.hid hC5
        have HN5 := Lib.hid (own_other HN.out hg5 (by omega))
        have hroom := cur_room hC5
        clear hO hC5 hg5 HN HC HB
        obtain ⟨x, rfl⟩ : ∃ x : List UInt8, y = ⟨x.toArray⟩ := ⟨y.data.toList, rfl⟩
        have hxl : x.length ≤ 300 := by have : (⟨x.toArray⟩ : ByteArray).size = x.length := by simp [ByteArray.size]
                                        omega
        clear hy
        go_wp2_with (at_builtin; refine wpAppOne elemS rfl _ _ rfl (w.heap.size + 1) _ (S acc) rfl (by rw [S_len]; exact HN5.out) _ rfl rfl rfl (by rw [S_len]; omega) hroom ?_; intro v6 w6 hown6 hg6; have HN6 := Lib.hid (text_snoc hown6); have HB6 := Lib.hid (below_row HB5.out HN5.out hg6); have HC6 := Lib.hid (cur_other HC5.out hg6 (own_row_gt HN5.out) HB5.out.size); clear hown6 hg6)
        go_roundw
        case rel => exact ⟨acc ++ [x], j - 1, k5, by simp; omega, by omega, by go_num, HN6, short_snoc HL.out hxl, HC6, HB6⟩
        case measure => simp [intOf]; omega
      · by_cases hl0 : 0 < acc.length
        · have hO := Lib.hid (one_any w.heap.size w.heap.size A n c kk 20 wr HC.out hn (by omega) (by omega) (by omega))
          obtain ⟨g, cap, hu⟩ : ∃ g cap, u6 = .slice (some ⟨g, 0, none⟩) acc.length cap := by
            rcases HN.out.2 with ⟨_, h0⟩ | ⟨g, cap, cur, hv, _⟩
            · omega
            · exact ⟨g, cap, hv⟩
          subst hu
          have hd : decide ((0 : Int) < (acc.length : Int)) = true := decide_eq_true (by omega)
          go_wp2_with fail
          refine hO.out.mono ?_
          rintro e w5 ⟨q, rfl, hC5, hg5⟩
          have HB5 := Lib.hid (below_cur HB.out hg5)
          have HN5 := Lib.hid (own_other HN.out hg5 (by omega))
          clear hO hC5 hg5 HN HC HB
          rcases q with _ | _
          · go_wp2_with fail
            go_ret2
            exact ⟨s.data.toList, acc, _, by rw [len_eq]; omega, by omega, HL.out, rfl, own_base HN5.out (by omega), HB5.out⟩
          · have hown := HN5.out
            have hfz := hown.frozenAt 0
            have hcz : w5.cell? ⟨g, 0, none⟩ = some (.string ⟨(acc[0]).toArray⟩) := by rw [hown.cellAt 0 (by omega), S_at hl0]
            have hst := hown.stored 0 (.string ⟨#[65]⟩)
            have e65 : (.string ⟨#[65]⟩ : Value) = .string ⟨([65] : List UInt8).toArray⟩ := rfl
            rw [e65, S_set] at hst
            have HN6 := Lib.hid hst.1
            have HB6 := Lib.hid (below_row HB5.out hown hst.2)
            generalize acc[0] = z at hcz
            clear hown hst e65
            go_wp2_with fail
            go_ret2
            exact ⟨s.data.toList, acc.set 0 [65], _, by rw [len_eq]; omega, by rw [List.length_set]; omega, short_set HL.out (by simp), rfl, by rw [List.length_set]; exact own_base HN6.out (by omega), HB6.out⟩
        · have hd : decide ((0 : Int) < (acc.length : Int)) = false := decide_eq_false (by omega)
          obtain ⟨a6, c6, hu⟩ := own_slice HN.out
          subst hu
          go_wp2_with fail
          go_ret2
          exact ⟨s.data.toList, acc, _, by rw [len_eq]; omega, by omega, HL.out, rfl, own_base HN.out (by omega), HB.out⟩
  · have C4 := Lib.hid (pick_any w.heap.size w.heap.size A n c (k1 + 1 + 1) 2 w3 HC3.out hn (by omega) (by omega) (by omega))
    go_wp2_with fail
    refine C4.out.mono ?_
    rintro e w4 ⟨x, hx0, hx1, rfl, hC4, hg4⟩
    obtain ⟨j4, rfl⟩ : ∃ j : Nat, x = j := ⟨x.toNat, by omega⟩
    have hj4 : j4 ≤ 1 := by omega
    have HB4 := Lib.hid (below_cur HB3.out hg4)
    have HC4 := Lib.hid hC4
    clear C4 hC4 hg4 hx0 hx1 HB3 HC3
    go_wp2_with fail
    go_loopw [6, 7] (fun u i wr => ∃ (acc : List (List UInt8)) (j kk : Nat), acc.length + j ≤ 41 ∧ kk + 20 * j ≤ 2000 ∧ i = .int .i64 j ∧ Hid (wr.ownsRow (w.heap.size + 1) 9 1 u acc.length (S acc)) ∧ Hid (∀ y ∈ acc, y.length ≤ 300) ∧ Hid (Cur w.heap.size w.heap.size A n c kk wr) ∧ Hid (Below w.heap.size w wr)) (fun _ i _ => (intOf i).toNat)
    case atStart => exact ⟨[], 40 + j4, k1 + 1 + 1 + 1, by simp; omega, by omega, by go_num, World.ownsRow_nil _ _ _ _, fun y hy => by simp at hy, HC4, HB4⟩
    case round =>
      clear HC4 HB4
      obtain ⟨acc, j, kk, hj, hkk, rfl, HN, HL, HC, HB⟩ := hrel
      by_cases hlt : 0 < j
      · have hO := Lib.hid (name_any w.heap.size w.heap.size A n c kk wr HC.out hn (by omega) HB.out.size)
        go_wp2_with fail
        refine hO.out.mono ?_
        rintro e w5 ⟨y, k5, hy, hk5, rfl, hC5, hg5⟩
        have HB5 := Lib.hid (below_cur HB.out hg5)
        have HC5 := Lib.hid hC5
        have HN5 := Lib.hid (own_other HN.out hg5 (by omega))
        have hroom := cur_room hC5
        clear hO hC5 hg5 HN HC HB
        obtain ⟨x, rfl⟩ : ∃ x : List UInt8, y = ⟨x.toArray⟩ := ⟨y.data.toList, rfl⟩
        have hxl : x.length ≤ 300 := by have : (⟨x.toArray⟩ : ByteArray).size = x.length := by simp [ByteArray.size]
                                        omega
        clear hy
        go_wp2_with (at_builtin; refine wpAppOne elemS rfl _ _ rfl (w.heap.size + 1) _ (S acc) rfl (by rw [S_len]; exact HN5.out) _ rfl rfl rfl (by rw [S_len]; omega) hroom ?_; intro v6 w6 hown6 hg6; have HN6 := Lib.hid (text_snoc hown6); have HB6 := Lib.hid (below_row HB5.out HN5.out hg6); have HC6 := Lib.hid (cur_other HC5.out hg6 (own_row_gt HN5.out) HB5.out.size); clear hown6 hg6)
        go_roundw
        case rel => exact ⟨acc ++ [x], j - 1, k5, by simp; omega, by omega, by go_num, HN6, short_snoc HL.out hxl, HC6, HB6⟩
        case measure => simp [intOf]; omega
      · by_cases hl0 : 0 < acc.length
        · have hO := Lib.hid (one_any w.heap.size w.heap.size A n c kk 20 wr HC.out hn (by omega) (by omega) (by omega))
          obtain ⟨g, cap, hu⟩ : ∃ g cap, u6 = .slice (some ⟨g, 0, none⟩) acc.length cap := by
            rcases HN.out.2 with ⟨_, h0⟩ | ⟨g, cap, cur, hv, _⟩
            · omega
            · exact ⟨g, cap, hv⟩
          subst hu
          have hd : decide ((0 : Int) < (acc.length : Int)) = true := decide_eq_true (by omega)
          go_wp2_with fail
          refine hO.out.mono ?_
          rintro e w5 ⟨q, rfl, hC5, hg5⟩
          have HB5 := Lib.hid (below_cur HB.out hg5)
          have HN5 := Lib.hid (own_other HN.out hg5 (by omega))
          clear hO hC5 hg5 HN HC HB
          rcases q with _ | _
          · go_wp2_with fail
            go_ret2
            exact ⟨s.data.toList, acc, _, by rw [len_eq]; omega, by omega, HL.out, rfl, own_base HN5.out (by omega), HB5.out⟩
          · have hown := HN5.out
            have hfz := hown.frozenAt 0
            have hcz : w5.cell? ⟨g, 0, none⟩ = some (.string ⟨(acc[0]).toArray⟩) := by rw [hown.cellAt 0 (by omega), S_at hl0]
            have hst := hown.stored 0 (.string ⟨#[65]⟩)
            have e65 : (.string ⟨#[65]⟩ : Value) = .string ⟨([65] : List UInt8).toArray⟩ := rfl
            rw [e65, S_set] at hst
            have HN6 := Lib.hid hst.1
            have HB6 := Lib.hid (below_row HB5.out hown hst.2)
            generalize acc[0] = z at hcz
            clear hown hst e65
            go_wp2_with fail
            go_ret2
            exact ⟨s.data.toList, acc.set 0 [65], _, by rw [len_eq]; omega, by rw [List.length_set]; omega, short_set HL.out (by simp), rfl, by rw [List.length_set]; exact own_base HN6.out (by omega), HB6.out⟩
        · have hd : decide ((0 : Int) < (acc.length : Int)) = false := decide_eq_false (by omega)
          obtain ⟨a6, c6, hu⟩ := own_slice HN.out
          subst hu
          go_wp2_with fail
          go_ret2
          exact ⟨s.data.toList, acc, _, by rw [len_eq]; omega, by omega, HL.out, rfl, own_base HN.out (by omega), HB.out⟩

end Go.Proofs.Ytcplooeohdhlkaa
