/- Walks: the reference's drawn places. -/
import Derived.Test.YtcplooeohdhlkaaVa
namespace Go.Proofs.Ytcplooeohdhlkaa
open Go.RowKit Pth

/-- A pattern, a list of numbers and a byte. -/
def DrawnI (w : World) (e : Ending) (w' : World) : Prop :=
  ∃ (p : List UInt8) (l : List Int) (b : UInt8) (v : Value), p.length ≤ 300 ∧ l.length ≤ 1000 ∧ e = .returned (.tuple #[.string ⟨p.toArray⟩, v, .int .u8 (b.toNat : Int)]) ∧ w'.ownsRow w.heap.size 3 1 v l.length (I l) ∧ Below w.heap.size w w'

def wordsB : List (List UInt8) := [[97], [98], [47], [46], [65]]
theorem wordsB_one : ∀ x ∈ wordsB, ∃ b, x = [b] := by
  intro x hx
  simp only [wordsB, List.mem_cons, List.not_mem_nil, or_false] at hx
  rcases hx with rfl | rfl | rfl | rfl | rfl <;> exact ⟨_, rfl⟩
theorem startT_len (p : List UInt8) : (startT p).length ≤ p.length + 1 := by
  unfold startT
  split
  · exact rise_len21 (start_rise p) (start_within p)
  · simp
theorem int_snoc {w : World} {B e : Nat} {v : Value} {l : List Int} {x : Int} (h : w.ownsRow B e 1 v (I l ++ [Value.int .i64 x]).length (I l ++ [Value.int .i64 x])) : w.ownsRow B e 1 v (l ++ [x]).length (I (l ++ [x])) := by
  rw [I_append, ← I_len (l ++ [x]), I_append]; exact h
theorem cur_drew {B b : Nat} {A : Option Addr} {n c k : Nat} {w : World} (h : Cur B b A n c k w) : Cur B b A n c k w.drew := h
theorem words_new (w : World) : (w.drew.alloc (.cells (S wordsB).toArray 9)).heap[w.heap.size]? = some (.cells (S wordsB).toArray 9) := heap_alloc_new w.drew _
theorem drew_alloc (w : World) (o : Obj) : Below w.heap.size w (w.drew.alloc o) := (Below.drew (Below.refl _ w)).alloc (Nat.le_refl _) o

set_option maxHeartbeats 4000000 in
theorem drawStep_any (A : Option Addr) (n c : Nat) (w : World) (h : BytesIn w A n) (hn : n ≤ 2000000) :
    Calls Try.prog 25 #[.slice A n c] w (DrawnI w) := by
  have C := Lib.hid (pattern_any w.heap.size w.heap.size A n c 0 _ (cur_new (c := c) h) hn (by omega) (by simp))
  clear h
  go_enter Try.func25, Try.ntmps25
  go_wp2_with fail
  refine C.out.mono ?_
  rintro e w1 ⟨s, k1, hs, hk1, rfl, hC1, hg1⟩
  have HB1 := Lib.hid (below_cur (below_new w _) hg1)
  have HC1 := Lib.hid hC1
  clear C hC1 hg1
  go_wp2_with fail
  refine (specStart_any s w1 (by unfold maxLen; omega)).mono ?_
  rintro e w2 ⟨v2, rfl, hown2, hb2⟩
  have hl2 := startT_len s.data.toList
  rw [len_eq] at hl2
  have HB2 := Lib.hid (bthen HB1.out hb2)
  have hC2 := cur_below HC1.out HB1.out.size hb2
  have HN2 := Lib.hid (own_base hown2 (cur_room HC1.out))
  have C3 := Lib.hid (one_any w.heap.size w.heap.size A n c k1 2 w2 hC2 hn (by omega) (by omega) (by omega))
  clear hown2 hb2 hC2 HC1 HB1
  generalize startT s.data.toList = l2 at hl2 HN2
  go_wp2_with fail
  refine C3.out.mono ?_
  rintro e w3 ⟨q, rfl, hC3, hg3⟩
  have HB3 := Lib.hid (below_cur HB2.out hg3)
  have HN3 := Lib.hid (own_other HN2.out hg3 (by omega))
  have HC3 := Lib.hid hC3
  clear C3 hC3 hg3 HB2 HN2
  generalize patL s.data.toList = ok2
  rcases q with _ | _
  · skip
    have C4 := Lib.hid (one_any w.heap.size w.heap.size A n c (k1 + 1) 30 w3 HC3.out hn (by omega) (by omega) (by omega))
    go_wp2_with fail
    refine C4.out.mono ?_
    rintro e w4 ⟨q, rfl, hC4, hg4⟩
    have HB4 := Lib.hid (below_cur HB3.out hg4)
    have HN4 := Lib.hid (own_other HN3.out hg4 (by omega))
    have HC4 := Lib.hid hC4
    have hroom := cur_room hC4
    clear C4 hC4 hg4 HB3 HN3 HC3
    rcases q with _ | _
    · skip
      have HCd := Lib.hid (cur_drew HC4.out)
      go_wp2_with fail
      go_region_held3 (fun _ => True) (trivial)
        (first | (go_at_call 65; refine (of_any wordsB w4.heap.size 5 w.heap.size w.heap.size A n c (k1 + 1 + 1) _ (cur_alloc HCd.out (by show w.heap.size ≤ w4.heap.size; omega) _) hn (by omega) (by decide) (by decide) (words_new w4) (by omega)).mono ?_; rintro e w9 ⟨y, hy, rfl, hC9, hg9⟩; obtain ⟨b, rfl⟩ := wordsB_one y hy))
      have HB9 := Lib.hid (below_cur (HB4.out.trans ((drew_alloc w4 (.cells (S wordsB).toArray 9)).mono HB4.out.size)) hg9)
      have HN9 := Lib.hid (own_other (own_below HN4.out (drew_alloc w4 (.cells (S wordsB).toArray 9))) hg9 (by omega))
      clear hC9 hg9 hy
      go_wp2_with fail
      go_ret3
      exact ⟨s.data.toList, l2, b, _, by rw [len_eq]; omega, by omega, rfl, own_base HN9.out (by omega), HB9.out⟩
    · go_wp2_with (at_builtin; refine wpAppOne elemI rfl _ _ rfl (w.heap.size + 1) _ (I l2) rfl (by rw [I_len]; exact HN4.out) _ rfl rfl rfl (by rw [I_len]; omega) hroom ?_; intro v6 w6 hown6 hg6; have HN6 := Lib.hid (int_snoc hown6); have HB6 := Lib.hid (below_row HB4.out HN4.out hg6); have HC6 := Lib.hid (cur_other HC4.out hg6 (own_row_gt HN4.out) HB4.out.size); have hroom6 := Nat.le_trans hroom hg6.size; clear hown6 hg6)
      have HCd := Lib.hid (cur_drew HC6.out)
      go_wp2_with fail
      go_region_held3 (fun _ => True) (trivial)
        (first | (go_at_call 65; refine (of_any wordsB w6.heap.size 5 w.heap.size w.heap.size A n c (k1 + 1 + 1) _ (cur_alloc HCd.out (by show w.heap.size ≤ w6.heap.size; omega) _) hn (by omega) (by decide) (by decide) (words_new w6) (by omega)).mono ?_; rintro e w9 ⟨y, hy, rfl, hC9, hg9⟩; obtain ⟨b, rfl⟩ := wordsB_one y hy))
      have HB9 := Lib.hid (below_cur (HB6.out.trans ((drew_alloc w6 (.cells (S wordsB).toArray 9)).mono HB6.out.size)) hg9)
      have HN9 := Lib.hid (own_other (own_below HN6.out (drew_alloc w6 (.cells (S wordsB).toArray 9))) hg9 (by omega))
      clear hC9 hg9 hy
      go_wp2_with fail
      go_ret3
      exact ⟨s.data.toList, l2 ++ [21], b, _, by rw [len_eq]; omega, by simp; omega, rfl, own_base HN9.out (by omega), HB9.out⟩
  · clear HN3 hl2
    go_wp2_with fail
    go_loopw [7, 9] (fun u i wr => ∃ (acc : List Int) (j kk : Nat), j ≤ s.size + 1 ∧ acc.length ≤ j ∧ kk ≤ k1 + 1 + j ∧ i = .int .i64 j ∧ Hid (wr.ownsRow (w.heap.size + 1) 3 1 u acc.length (I acc)) ∧ Hid (Cur w.heap.size w.heap.size A n c kk wr) ∧ Hid (Below w.heap.size w wr)) (fun _ i _ => s.size + 1 - (intOf i).toNat)
    case atStart => exact ⟨[], 0, k1 + 1, by omega, by simp, by omega, rfl, World.ownsRow_nil _ _ _ _, HC3, HB3⟩
    case round =>
      clear HC3 HB3
      obtain ⟨acc, j, kk, hj, hal, hkk, rfl, HN, HC, HB⟩ := hrel
      by_cases hlt : j ≤ s.size
      · have C5 := Lib.hid (one_any w.heap.size w.heap.size A n c kk 2 wr HC.out hn (by omega) (by omega) (by omega))
        go_wp2_with fail
        refine C5.out.mono ?_
        rintro e w5 ⟨q, rfl, hC5, hg5⟩
        have HB5 := Lib.hid (below_cur HB.out hg5)
        have HN5 := Lib.hid (own_other HN.out hg5 (by omega))
        have HC5 := Lib.hid hC5
        have hroom := cur_room hC5
        clear C5 hC5 hg5 HB HN HC
        rcases q with _ | _
        · go_wp2_with fail
          go_roundw
          case rel => exact ⟨acc, j + 1, kk + 1, by omega, by omega, by omega, by go_num, HN5, HC5, HB5⟩
          case measure => simp [intOf]; omega
        · go_wp2_with (at_builtin; refine wpAppOne elemI rfl _ _ rfl (w.heap.size + 1) _ (I acc) rfl (by rw [I_len]; exact HN5.out) _ rfl rfl rfl (by rw [I_len]; omega) hroom ?_; intro v6 w6 hown6 hg6; have HN6 := Lib.hid (int_snoc hown6); have HB6 := Lib.hid (below_row HB5.out HN5.out hg6); have HC6 := Lib.hid (cur_other HC5.out hg6 (own_row_gt HN5.out) HB5.out.size); clear hown6 hg6)
          go_roundw
          case rel => exact ⟨acc ++ [(j : Int)], j + 1, kk + 1, by omega, by simp; omega, by omega, by go_num, HN6, HC6, HB6⟩
          case measure => simp [intOf]; omega
      · skip
        have C4 := Lib.hid (one_any w.heap.size w.heap.size A n c (kk) 30 wr HC.out hn (by omega) (by omega) (by omega))
        go_wp2_with fail
        refine C4.out.mono ?_
        rintro e w4 ⟨q, rfl, hC4, hg4⟩
        have HB4 := Lib.hid (below_cur HB.out hg4)
        have HN4 := Lib.hid (own_other HN.out hg4 (by omega))
        have HC4 := Lib.hid hC4
        have hroom := cur_room hC4
        clear C4 hC4 hg4 HB HN HC
        rcases q with _ | _
        · skip
          have HCd := Lib.hid (cur_drew HC4.out)
          go_wp2_with fail
          go_region_held3 (fun _ => True) (trivial)
            (first | (go_at_call 65; refine (of_any wordsB w4.heap.size 5 w.heap.size w.heap.size A n c (kk + 1) _ (cur_alloc HCd.out (by show w.heap.size ≤ w4.heap.size; omega) _) hn (by omega) (by decide) (by decide) (words_new w4) (by omega)).mono ?_; rintro e w9 ⟨y, hy, rfl, hC9, hg9⟩; obtain ⟨b, rfl⟩ := wordsB_one y hy))
          have HB9 := Lib.hid (below_cur (HB4.out.trans ((drew_alloc w4 (.cells (S wordsB).toArray 9)).mono HB4.out.size)) hg9)
          have HN9 := Lib.hid (own_other (own_below HN4.out (drew_alloc w4 (.cells (S wordsB).toArray 9))) hg9 (by omega))
          clear hC9 hg9 hy
          go_wp2_with fail
          go_ret3
          exact ⟨s.data.toList, acc, b, _, by rw [len_eq]; omega, by omega, rfl, own_base HN9.out (by omega), HB9.out⟩
        · go_wp2_with (at_builtin; refine wpAppOne elemI rfl _ _ rfl (w.heap.size + 1) _ (I acc) rfl (by rw [I_len]; exact HN4.out) _ rfl rfl rfl (by rw [I_len]; omega) hroom ?_; intro v6 w6 hown6 hg6; have HN6 := Lib.hid (int_snoc hown6); have HB6 := Lib.hid (below_row HB4.out HN4.out hg6); have HC6 := Lib.hid (cur_other HC4.out hg6 (own_row_gt HN4.out) HB4.out.size); have hroom6 := Nat.le_trans hroom hg6.size; clear hown6 hg6)
          have HCd := Lib.hid (cur_drew HC6.out)
          go_wp2_with fail
          go_region_held3 (fun _ => True) (trivial)
            (first | (go_at_call 65; refine (of_any wordsB w6.heap.size 5 w.heap.size w.heap.size A n c (kk + 1) _ (cur_alloc HCd.out (by show w.heap.size ≤ w6.heap.size; omega) _) hn (by omega) (by decide) (by decide) (words_new w6) (by omega)).mono ?_; rintro e w9 ⟨y, hy, rfl, hC9, hg9⟩; obtain ⟨b, rfl⟩ := wordsB_one y hy))
          have HB9 := Lib.hid (below_cur (HB6.out.trans ((drew_alloc w6 (.cells (S wordsB).toArray 9)).mono HB6.out.size)) hg9)
          have HN9 := Lib.hid (own_other (own_below HN6.out (drew_alloc w6 (.cells (S wordsB).toArray 9))) hg9 (by omega))
          clear hC9 hg9 hy
          go_wp2_with fail
          go_ret3
          exact ⟨s.data.toList, acc ++ [21], b, _, by rw [len_eq]; omega, by simp; omega, rfl, own_base HN9.out (by omega), HB9.out⟩

end Go.Proofs.Ytcplooeohdhlkaa
