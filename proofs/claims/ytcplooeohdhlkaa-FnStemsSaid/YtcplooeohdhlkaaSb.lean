/- Walks: the reference's drawn patterns and names. -/
import Derived.Test.YtcplooeohdhlkaaSa
namespace Go.Proofs.Ytcplooeohdhlkaa
open Go.RowKit Pth

def wordsP : List (List UInt8) := [[97], [98], [42], [63], [37], [47], [46, 111], [115, 114, 99]]
def wordsQ : List (List UInt8) := [[], [65], [97, 97, 97, 97, 97, 97, 97, 97, 97, 97, 97, 97, 97, 97, 97, 97, 97, 97, 97, 97, 42], [97, 32, 98]]
def wordsN : List (List UInt8) := [[97], [98], [47], [46, 111], [115, 114, 99], [97, 98]]
def wordsT : List (List UInt8) := [[37], [37, 46, 111], [97, 37], [115, 114, 99, 47, 37], [98, 37, 46, 111]]
theorem wordsP_len : ∀ x ∈ wordsP, x.length ≤ 3 := by decide
theorem wordsQ_len : ∀ x ∈ wordsQ, x.length ≤ 21 := by decide
theorem wordsN_len : ∀ x ∈ wordsN, x.length ≤ 3 := by decide
theorem wordsT_len : ∀ x ∈ wordsT, x.length ≤ 5 := by decide

set_option maxHeartbeats 4000000 in
theorem name_any (B b : Nat) (A : Option Addr) (n c k : Nat) (w : World) (h : Cur B b A n c k w) (hn : n ≤ 2000000) (hk : k ≤ 1000000) (hBw : B ≤ w.heap.size) :
    Calls Try.prog 47 #[.pointer (some ⟨b, 0, none⟩)] w (DrawPost B b A n c (k + 20) w) := by
  have C := Lib.hid (pick_any B b A n c k 4 w h hn (by omega) (by omega) (by omega))
  clear h
  go_enter Try.func47, Try.ntmps47
  go_wp2_with fail
  refine C.out.mono ?_
  rintro e w1 ⟨x, hx0, hx1, rfl, hC1, hg1⟩
  obtain ⟨j0, rfl⟩ : ∃ j : Nat, x = j := ⟨x.toNat, by omega⟩
  have hj0 : j0 ≤ 3 := by omega
  have HC1 := Lib.hid hC1
  have HG1 := Lib.hid hg1
  clear C hC1 hg1 hx0 hx1
  go_wp2_with fail
  go_loopw [3, 4] (fun s i wr => ∃ (t : ByteArray) (j kk : Nat), j ≤ 4 ∧ t.size + 3 * j ≤ 12 ∧ kk + j ≤ k + 1 + 4 ∧ s = .string t ∧ i = .int .i64 j ∧ Cur B b A n c kk wr ∧ w.grownBy wr (some b)) (fun _ i _ => (intOf i).toNat)
  case atStart => exact ⟨_, j0 + 1, k + 1, by omega, by simp [ByteArray.size]; omega, by omega, rfl, by go_num, HC1.out, HG1.out⟩
  case round =>
    clear HC1 HG1
    obtain ⟨t, j, kk, hj, htz, hkk, rfl, rfl, hC, hg⟩ := hrel
    have hblt := cur_lt hC
    have hsz := hg.size
    by_cases hlt : 0 < j
    · have hO := of_any wordsN wr.heap.size 6 B b A n c kk (wr.alloc (.cells (S wordsN).toArray 9)) (cur_alloc hC (by omega) _) hn (by omega) (by decide) (by decide) (heap_alloc_new wr _) (by omega)
      have HO := Lib.hid hO
      have HG := Lib.hid (only_alloc hg (.cells (S wordsN).toArray 9))
      clear hO hC hg
      go_wp2_with fail
      refine HO.out.mono ?_
      rintro e w3 ⟨y, hy, rfl, hC3, hg3⟩
      have hyl := wordsN_len y hy
      have HG3 := Lib.hid (only_chain HG.out hg3)
      have HC3 := Lib.hid hC3
      clear hy hg3 hC3 HO HG
      go_wp2_with fail
      go_roundw
      case rel => exact ⟨_, j - 1, kk + 1, by omega, by rw [sz_cat]; omega, by omega, rfl, by go_num, HC3.out, HG3.out⟩
      case measure => simp [intOf]; omega
    · have HC := Lib.hid hC
      have HG := Lib.hid hg
      clear hC hg
      go_wp2_with fail
      go_ret
      exact ⟨t, kk, by omega, by omega, rfl, HC.out, HG.out⟩

set_option maxHeartbeats 4000000 in
theorem pattern_any (B b : Nat) (A : Option Addr) (n c k : Nat) (w : World) (h : Cur B b A n c k w) (hn : n ≤ 2000000) (hk : k ≤ 1000000) (hBw : B ≤ w.heap.size) :
    Calls Try.prog 46 #[.pointer (some ⟨b, 0, none⟩)] w (DrawPost B b A n c (k + 20) w) := by
  have C := Lib.hid (pick_any B b A n c k 5 w h hn (by omega) (by omega) (by omega))
  clear h
  go_enter Try.func46, Try.ntmps46
  go_wp2_with fail
  refine C.out.mono ?_
  rintro e w1 ⟨x, hx0, hx1, rfl, hC1, hg1⟩
  obtain ⟨j0, rfl⟩ : ∃ j : Nat, x = j := ⟨x.toNat, by omega⟩
  have hj0 : j0 ≤ 4 := by omega
  have HC1 := Lib.hid hC1
  have HG1 := Lib.hid hg1
  clear C hC1 hg1 hx0 hx1
  go_wp2_with fail
  go_loopw [3, 4] (fun s i wr => ∃ (t : ByteArray) (j kk : Nat), j ≤ 5 ∧ t.size + 3 * j ≤ 15 ∧ kk + j ≤ k + 1 + 5 ∧ s = .string t ∧ i = .int .i64 j ∧ Cur B b A n c kk wr ∧ w.grownBy wr (some b)) (fun _ i _ => (intOf i).toNat)
  case atStart => exact ⟨_, j0 + 1, k + 1, by omega, by simp [ByteArray.size]; omega, by omega, rfl, by go_num, HC1.out, HG1.out⟩
  case round =>
    clear HC1 HG1
    obtain ⟨t, j, kk, hj, htz, hkk, rfl, rfl, hC, hg⟩ := hrel
    have hblt := cur_lt hC
    have hsz := hg.size
    by_cases hlt : 0 < j
    · have hO := of_any wordsP wr.heap.size 8 B b A n c kk (wr.alloc (.cells (S wordsP).toArray 9)) (cur_alloc hC (by omega) _) hn (by omega) (by decide) (by decide) (heap_alloc_new wr _) (by omega)
      have HO := Lib.hid hO
      have HG := Lib.hid (only_alloc hg (.cells (S wordsP).toArray 9))
      clear hO hC hg
      go_wp2_with fail
      refine HO.out.mono ?_
      rintro e w3 ⟨y, hy, rfl, hC3, hg3⟩
      have hyl := wordsP_len y hy
      have HG3 := Lib.hid (only_chain HG.out hg3)
      have HC3 := Lib.hid hC3
      clear hy hg3 hC3 HO HG
      go_wp2_with fail
      go_roundw
      case rel => exact ⟨_, j - 1, kk + 1, by omega, by rw [sz_cat]; omega, by omega, rfl, by go_num, HC3.out, HG3.out⟩
      case measure => simp [intOf]; omega
    · obtain rfl : j = 0 := by omega
      have hO := one_any B b A n c kk 30 wr hC hn (by omega) (by omega) (by omega)
      have HO := Lib.hid hO
      have HG := Lib.hid hg
      clear hO hC hg
      go_wp2_with fail
      refine HO.out.mono ?_
      rintro e w3 ⟨q3, rfl, hC3, hg3⟩
      have hblt3 := cur_lt hC3
      have hsz3 := hg3.size
      have hO4 := of_any wordsQ w3.heap.size 4 B b A n c (kk + 1) (w3.alloc (.cells (S wordsQ).toArray 9)) (cur_alloc hC3 (by omega) _) hn (by omega) (by decide) (by decide) (heap_alloc_new w3 _) (by omega)
      have HO4 := Lib.hid hO4
      have HC3 := Lib.hid hC3
      have HG3 := Lib.hid (only_chain HG.out hg3)
      clear hO4 hC3 hg3 HO HG
      rcases q3 with _ | _
      · go_wp2_with fail
        go_ret
        exact ⟨t, kk + 1, by omega, by omega, rfl, HC3.out, HG3.out⟩
      · go_wp2_with fail
        refine HO4.out.mono ?_
        rintro e w4 ⟨y, hy, rfl, hC4, hg4⟩
        have hyl := wordsQ_len y hy
        have HC4 := Lib.hid hC4
        have HG4 := Lib.hid (only_chain (only_alloc HG3.out (.cells (S wordsQ).toArray 9)) hg4)
        clear hy hC4 hg4 HO4 HG3 HC3
        go_wp2_with fail
        go_ret
        exact ⟨_, kk + 2, by show (ByteArray.mk y.toArray).size ≤ 200; simp [ByteArray.size]; omega, by omega, rfl, HC4.out, HG4.out⟩

set_option maxHeartbeats 4000000 in
theorem stemPattern_any (B b : Nat) (A : Option Addr) (n c k : Nat) (w : World) (h : Cur B b A n c k w) (hn : n ≤ 2000000) (hk : k ≤ 900000) (hBw : B ≤ w.heap.size) :
    Calls Try.prog 69 #[.pointer (some ⟨b, 0, none⟩)] w (DrawPost B b A n c (k + 40) w) := by
  have C := Lib.hid (one_any B b A n c k 6 w h hn (by omega) (by omega) (by omega))
  clear h
  go_enter Try.func69, Try.ntmps69
  go_wp2_with fail
  refine C.out.mono ?_
  rintro e w1 ⟨q1, rfl, hC1, hg1⟩
  have hblt1 := cur_lt hC1
  have hsz1 := hg1.size
  have hO1 := pattern_any B b A n c (k + 1) w1 hC1 hn (by omega) (by omega)
  have hO2 := of_any wordsT w1.heap.size 5 B b A n c (k + 1) (w1.alloc (.cells (S wordsT).toArray 9)) (cur_alloc hC1 (by omega) _) hn (by omega) (by decide) (by decide) (heap_alloc_new w1 _) (by omega)
  have HO1 := Lib.hid hO1
  have HO2 := Lib.hid hO2
  have HG1 := Lib.hid hg1
  clear C hO1 hO2 hC1 hg1
  rcases q1 with _ | _
  · go_wp2_with fail
    refine HO2.out.mono ?_
    rintro e w2 ⟨y, hy, rfl, hC2, hg2⟩
    have hyl := wordsT_len y hy
    have HC2 := Lib.hid hC2
    have HG2 := Lib.hid (only_chain (only_alloc HG1.out (.cells (S wordsT).toArray 9)) hg2)
    clear hy hC2 hg2 HO1 HO2 HG1
    go_wp2_with fail
    go_ret
    exact ⟨_, k + 2, by show (ByteArray.mk y.toArray).size ≤ 200; simp [ByteArray.size]; omega, by omega, rfl, HC2.out, HG2.out⟩
  · go_wp2_with fail
    refine HO1.out.mono ?_
    rintro e w2 ⟨s2, k2, hs2, hk2, rfl, hC2, hg2⟩
    have HC2 := Lib.hid hC2
    have HG2 := Lib.hid (only_chain HG1.out hg2)
    clear hC2 hg2 HO1 HO2 HG1
    go_wp2_with fail
    go_ret
    exact ⟨s2, k2, hs2, by omega, rfl, HC2.out, HG2.out⟩

end Go.Proofs.Ytcplooeohdhlkaa
