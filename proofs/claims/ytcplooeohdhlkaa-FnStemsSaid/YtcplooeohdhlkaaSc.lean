/- Walks: the reference's drawn arguments of chapter 2 (those without lists). -/
import Derived.Test.YtcplooeohdhlkaaSb
namespace Go.Proofs.Ytcplooeohdhlkaa
open Go.RowKit Pth

theorem bthen {w w1 w2 : World} (h : Below w.heap.size w w1) (k : Below w1.heap.size w1 w2) : Below w.heap.size w w2 := h.trans (k.mono h.size)

set_option maxHeartbeats 1000000 in
theorem drawStart_any (A : Option Addr) (n c : Nat) (w : World) (h : BytesIn w A n) (hn : n ≤ 2000000) :
    Calls Try.prog 23 #[.slice A n c] w (Drawn1 w) := by
  have C := Lib.hid (pattern_any w.heap.size w.heap.size A n c 0 _ (cur_new (c := c) h) hn (by omega) (by simp))
  clear h
  go_enter Try.func23, Try.ntmps23
  go_wp2_with fail
  refine C.out.mono ?_
  rintro e w1 ⟨s, k', hs, hk', rfl, hC1, hg1⟩
  have HB := Lib.hid (below_cur (below_new w _) hg1)
  clear C hC1 hg1
  go_wp2_with fail
  go_ret
  exact ⟨s.data.toList, by rw [len_eq]; omega, rfl, HB.out⟩

theorem drawPlain_any (A : Option Addr) (n c : Nat) (w : World) (h : BytesIn w A n) (hn : n ≤ 2000000) :
    Calls Try.prog 35 #[.slice A n c] w (Drawn1 w) := by
  have C := Lib.hid (drawStart_any A n c w h hn)
  clear h
  go_enter Try.func35, Try.ntmps35
  go_wp2_with fail
  refine C.out.mono ?_
  rintro e w1 ⟨l, hl, rfl, hb⟩
  have HB := Lib.hid hb
  clear C hb
  go_wp2_with fail
  go_ret
  exact ⟨l, hl, rfl, HB.out⟩

set_option maxHeartbeats 1000000 in
theorem drawFits_any (A : Option Addr) (n c : Nat) (w : World) (h : BytesIn w A n) (hn : n ≤ 2000000) :
    Calls Try.prog 12 #[.slice A n c] w (Drawn2 w) := by
  have C := Lib.hid (pattern_any w.heap.size w.heap.size A n c 0 _ (cur_new (c := c) h) hn (by omega) (by simp))
  clear h
  go_enter Try.func12, Try.ntmps12
  go_wp2_with fail
  refine C.out.mono ?_
  rintro e w1 ⟨s, k1, hs, hk1, rfl, hC1, hg1⟩
  have HB := Lib.hid (below_cur (below_new w _) hg1)
  have C2 := Lib.hid (name_any _ _ A n c k1 _ hC1 hn (by omega) HB.out.size)
  clear C hC1 hg1
  go_wp2_with fail
  refine C2.out.mono ?_
  rintro e w2 ⟨s2, k2, hs2, hk2, rfl, hC2, hg2⟩
  have HB2 := Lib.hid (below_cur HB.out hg2)
  clear C2 hC2 hg2
  go_wp2_with fail
  go_ret2
  exact ⟨s.data.toList, s2.data.toList, by rw [len_eq]; omega, by rw [len_eq]; omega, rfl, HB2.out⟩

def wordsF : List (List UInt8) := [[], [97], [97, 47, 98], [65], [97, 98, 99, 100, 101, 102, 103, 104, 105, 106, 107, 108, 109, 110, 111, 112, 113, 114, 115, 116, 117, 118, 119, 120, 121, 122, 97, 98, 99, 100, 101, 102, 103, 104, 105, 106, 107, 108, 109, 110, 111, 112, 113, 114, 115, 116, 117, 118, 119, 120, 121, 122, 97, 98, 99, 100, 101, 102, 103, 104]]
theorem wordsF_len : ∀ x ∈ wordsF, x.length ≤ 60 := by decide

set_option maxHeartbeats 1000000 in
theorem drawFill_any (A : Option Addr) (n c : Nat) (w : World) (h : BytesIn w A n) (hn : n ≤ 2000000) :
    Calls Try.prog 33 #[.slice A n c] w (Drawn2 w) := by
  have C := Lib.hid (stemPattern_any w.heap.size w.heap.size A n c 0 _ (cur_new (c := c) h) hn (by omega) (by simp))
  clear h
  go_enter Try.func33, Try.ntmps33
  go_wp2_with fail
  refine C.out.mono ?_
  rintro e w1 ⟨s, k1, hs, hk1, rfl, hC1, hg1⟩
  have HB := Lib.hid (below_cur (below_new w _) hg1)
  have hblt1 := cur_lt hC1
  have hO2 := of_any wordsF w1.heap.size 5 w.heap.size w.heap.size A n c k1 (w1.alloc (.cells (S wordsF).toArray 9)) (cur_alloc hC1 HB.out.size _) hn (by omega) (by decide) (by decide) (heap_alloc_new w1 _) (by omega)
  have C2 := Lib.hid hO2
  clear C hC1 hg1 hO2
  go_wp2_with fail
  refine C2.out.mono ?_
  rintro e w2 ⟨y, hy, rfl, hC2, hg2⟩
  have hyl := wordsF_len y hy
  have HB2 := Lib.hid (below_cur (HB.out.alloc HB.out.size (.cells (S wordsF).toArray 9)) hg2)
  clear C2 hC2 hg2 hy
  go_wp2_with fail
  go_ret2
  exact ⟨s.data.toList, y, by rw [len_eq]; omega, by omega, rfl, HB2.out⟩

end Go.Proofs.Ytcplooeohdhlkaa
