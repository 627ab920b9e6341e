/- Walks: the reference's drawn arguments of chapter 1. -/
import Derived.Test.YtkdplfmfmalllaaDoorDb
namespace Go.Proofs.YtkdplfmfmalllaaDoor
open Go.RowKit Pth

/-- A slice of bytes that came in. -/
def BytesIn (w : World) (A : Option Addr) (n : Nat) : Prop :=
  ∀ i, i < n → ∃ g o x, A = some ⟨g, o, none⟩ ∧ g < w.heap.size ∧ w.cell? ⟨g, o + i, none⟩ = some (.int .u8 x) ∧ 0 ≤ x ∧ x ≤ 255
theorem bytes_below {w w' : World} {A : Option Addr} {n : Nat} (h : BytesIn w A n) (hb : Below w.heap.size w w') : BytesIn w' A n := fun i hi => by
  obtain ⟨g, o, x, hA, hg, hc, h0, h1⟩ := h i hi
  exact ⟨g, o, x, hA, by have := hb.size; omega, by rw [hb.cell (p := ⟨g, o + i, none⟩) hg]; exact hc, h0, h1⟩
theorem cur_new {w : World} {A : Option Addr} {n c : Nat} (h : BytesIn w A n) : Cur w.heap.size w.heap.size A n c 0 (w.alloc (.cells #[.slice A n c, .int .i64 0, .int .u64 0] 38)) := by
  refine ⟨Nat.le_refl _, ⟨0, heap_alloc_new w _⟩, fun i hi => ?_⟩
  obtain ⟨g, o, x, hA, hg, hc, h0, h1⟩ := h i hi
  exact ⟨g, o, x, hA, hg, by rw [World.cell?_alloc_lt _ _ _ hg]; exact hc, h0, h1⟩
theorem cur_below {B b : Nat} {A : Option Addr} {n c k : Nat} {w w' : World} (h : Cur B b A n c k w) (hB : B ≤ w.heap.size) (hb : Below w.heap.size w w') : Cur B b A n c k w' := by
  have hlt := cur_lt h
  obtain ⟨h1, ⟨sd, h2⟩, h3⟩ := h
  refine ⟨h1, ⟨sd, (hb.block b hlt).trans h2⟩, fun i hi => ?_⟩
  obtain ⟨g, o', x, hA, hg, hc, h0, h4⟩ := h3 i hi
  exact ⟨g, o', x, hA, hg, by rw [hb.cell (p := ⟨g, o' + i, none⟩) (by show g < _; omega)]; exact hc, h0, h4⟩
/-- What the reader's block alone turned lies above all that was there. -/
theorem below_cur {w w1 w2 : World} (hb : Below w.heap.size w w1) (hg : w1.grownBy w2 (some w.heap.size)) : Below w.heap.size w w2 :=
  hb.trans ⟨hg.os, hg.tape, hg.output, hg.size, fun i hi => hg.block i (by have := hb.size; omega) (by simp; omega)⟩

/-- One text, two texts are drawn. -/
def Drawn1 (w : World) (e : Ending) (w' : World) : Prop := ∃ l : List UInt8, l.length ≤ 300 ∧ e = .returned (.string ⟨l.toArray⟩) ∧ Below w.heap.size w w'
def Drawn2 (w : World) (e : Ending) (w' : World) : Prop := ∃ l m : List UInt8, l.length ≤ 300 ∧ m.length ≤ 300 ∧ e = .returned (.tuple #[.string ⟨l.toArray⟩, .string ⟨m.toArray⟩]) ∧ Below w.heap.size w w'

theorem below_new (w : World) (o : Obj) : Below w.heap.size w (w.alloc o) := (Below.refl _ _).alloc (Nat.le_refl _) o

set_option maxHeartbeats 1000000 in
theorem drawClean_any (A : Option Addr) (n c : Nat) (w : World) (h : BytesIn w A n) (hn : n ≤ 2000000) :
    Calls Tryd.prog 12 #[.slice A n c] w (Drawn1 w) := by
  have C := Lib.hid (path_any w.heap.size w.heap.size A n c 0 _ (cur_new (c := c) h) hn (by omega) (by simp))
  clear h
  go_enter Tryd.func12, Tryd.ntmps12
  go_wp2_with fail
  refine C.out.mono ?_
  rintro e w1 ⟨s, k', hs, hk', rfl, hC1, hg1⟩
  have HB := Lib.hid (below_cur (below_new w _) hg1)
  clear C hC1 hg1
  go_wp2_with fail
  go_ret
  exact ⟨s.data.toList, by rw [len_eq]; omega, rfl, HB.out⟩

set_option maxHeartbeats 1000000 in
theorem drawJoin_any (A : Option Addr) (n c : Nat) (w : World) (h : BytesIn w A n) (hn : n ≤ 2000000) :
    Calls Tryd.prog 27 #[.slice A n c] w (Drawn2 w) := by
  have C := Lib.hid (path_any w.heap.size w.heap.size A n c 0 _ (cur_new (c := c) h) hn (by omega) (by simp))
  clear h
  go_enter Tryd.func27, Tryd.ntmps27
  go_wp2_with fail
  refine C.out.mono ?_
  rintro e w1 ⟨s, k1, hs, hk1, rfl, hC1, hg1⟩
  have HB := Lib.hid (below_cur (below_new w _) hg1)
  have C2 := Lib.hid (path_any _ _ A n c k1 _ hC1 hn (by omega) HB.out.size)
  clear C hC1 hg1
  go_wp2_with fail
  refine C2.out.mono ?_
  rintro e w2 ⟨s2, k2, hs2, hk2, rfl, hC2, hg2⟩
  have HB2 := Lib.hid (below_cur HB.out hg2)
  clear C2 hC2 hg2
  go_wp2_with fail
  go_ret2
  exact ⟨s.data.toList, s2.data.toList, by rw [len_eq]; omega, by rw [len_eq]; omega, rfl, HB2.out⟩

theorem drawRel_any (A : Option Addr) (n c : Nat) (w : World) (h : BytesIn w A n) (hn : n ≤ 2000000) :
    Calls Tryd.prog 24 #[.slice A n c] w (Drawn2 w) := by
  have C := Lib.hid (drawJoin_any A n c w h hn)
  clear h
  go_enter Tryd.func24, Tryd.ntmps24
  go_wp2_with fail
  refine C.out.mono ?_
  rintro e w1 ⟨l, m, hl, hm, rfl, hb⟩
  have HB := Lib.hid hb
  clear C hb
  go_wp2_with fail
  go_ret2
  exact ⟨l, m, hl, hm, rfl, HB.out⟩

theorem cleanT_len (l : List UInt8) : (cleanT l).length ≤ l.length + 2 := by
  unfold cleanT
  split
  · exact clean_len l
  · simp
theorem dirT_len (l : List UInt8) : (dirT l).length ≤ l.length + 2 := by
  unfold dirT
  split
  · have h1 := join_len (partsL l).dropLast (rootedL l)
    have h2 := weigh_drop (partsL l)
    have h3 := weigh_l l
    omega
  · simp

set_option maxHeartbeats 1000000 in
theorem drawIs_any (A : Option Addr) (n c : Nat) (w : World) (h : BytesIn w A n) (hn : n ≤ 2000000) :
    Calls Tryd.prog 20 #[.slice A n c] w (Drawn1 w) := by
  have C := Lib.hid (path_any w.heap.size w.heap.size A n c 0 _ (cur_new (c := c) h) hn (by omega) (by simp))
  clear h
  go_enter Tryd.func20, Tryd.ntmps20
  go_wp2_with fail
  refine C.out.mono ?_
  rintro e w1 ⟨s, k1, hs, hk1, rfl, hC1, hg1⟩
  have HB := Lib.hid (below_cur (below_new w _) hg1)
  have HC1 := Lib.hid hC1
  clear C hC1 hg1
  go_wp2_with fail
  refine (specClean_any s _ (by unfold maxLen; omega)).mono ?_
  rintro e w2 ⟨rfl, hb2⟩
  have hcl := cleanT_len s.data.toList
  rw [len_eq] at hcl
  have HB2 := Lib.hid (bthen HB.out hb2)
  have hC2 := cur_below HC1.out HB.out.size hb2
  have HC2 := Lib.hid hC2
  have C3 := Lib.hid (one_any _ _ A n c k1 2 w2 hC2 hn (by omega) (by omega) (by omega))
  clear HC1 hC2 hb2
  generalize cleanT s.data.toList = t at hcl
  rcases hp : pathL s.data.toList with _ | _
  · clear hp
    go_wp2_with fail
    go_ret
    exact ⟨s.data.toList, by rw [len_eq]; omega, rfl, HB2.out⟩
  · clear hp
    go_wp2_with fail
    refine C3.out.mono ?_
    rintro e w3 ⟨q, rfl, hC3, hg3⟩
    have HB3 := Lib.hid (below_cur HB2.out hg3)
    clear C3 hC3 hg3
    go_wp2_with fail
    all_goals go_ret
    · exact ⟨t, by omega, rfl, HB3.out⟩
    · exact ⟨s.data.toList, by rw [len_eq]; omega, rfl, HB3.out⟩

theorem specDir_any (s : ByteArray) (w : World) (hs : s.size ≤ maxLen) : Calls Tryd.prog 22 #[.string s] w (TwoPost (dirT s.data.toList) (pathL s.data.toList) w) := specDir_l s.data.toList w (by rw [len_eq]; exact hs)

set_option maxHeartbeats 1000000 in
theorem drawIn_any (A : Option Addr) (n c : Nat) (w : World) (h : BytesIn w A n) (hn : n ≤ 2000000) :
    Calls Tryd.prog 29 #[.slice A n c] w (Drawn2 w) := by
  have C := Lib.hid (path_any w.heap.size w.heap.size A n c 0 _ (cur_new (c := c) h) hn (by omega) (by simp))
  clear h
  go_enter Tryd.func29, Tryd.ntmps29
  go_wp2_with fail
  refine C.out.mono ?_
  rintro e w1 ⟨s, k1, hs, hk1, rfl, hC1, hg1⟩
  have HB := Lib.hid (below_cur (below_new w _) hg1)
  have HC1 := Lib.hid hC1
  clear C hC1 hg1
  go_wp2_with fail
  refine (specDir_any s _ (by unfold maxLen; omega)).mono ?_
  rintro e w2 ⟨rfl, hb2⟩
  have hcl := dirT_len s.data.toList
  rw [len_eq] at hcl
  have HB2 := Lib.hid (bthen HB.out hb2)
  have hC2 := cur_below HC1.out HB.out.size hb2
  have HC2 := Lib.hid hC2
  have C3 := Lib.hid (one_any _ _ A n c k1 2 w2 hC2 hn (by omega) (by omega) (by omega))
  have C4 := Lib.hid (path_any _ _ A n c k1 w2 hC2 hn (by omega) HB2.out.size)
  clear HC1 hC2 hb2
  generalize dirT s.data.toList = t at hcl
  rcases hp : pathL s.data.toList with _ | _
  · clear hp
    go_wp2_with fail
    refine C4.out.mono ?_
    rintro e w3 ⟨s3, k3, hs3, hk3, rfl, hC3, hg3⟩
    have HB3 := Lib.hid (below_cur HB2.out hg3)
    clear C3 C4 hC3 hg3
    go_wp2_with fail
    go_ret2
    exact ⟨s.data.toList, s3.data.toList, by rw [len_eq]; omega, by rw [len_eq]; omega, rfl, HB3.out⟩
  · clear hp
    go_wp2_with fail
    refine C3.out.mono ?_
    rintro e w3 ⟨q, rfl, hC3, hg3⟩
    have HB3 := Lib.hid (below_cur HB2.out hg3)
    have C5 := Lib.hid (path_any _ _ A n c _ w3 hC3 hn (by omega) HB3.out.size)
    clear C3 C4 hC3 hg3
    rcases q with _ | _
    · go_wp2_with fail
      refine C5.out.mono ?_
      rintro e w4 ⟨s4, k4, hs4, hk4, rfl, hC4, hg4⟩
      have HB4 := Lib.hid (below_cur HB3.out hg4)
      clear C5 hC4 hg4
      go_wp2_with fail
      go_ret2
      exact ⟨s.data.toList, s4.data.toList, by rw [len_eq]; omega, by rw [len_eq]; omega, rfl, HB4.out⟩
    · go_wp2_with fail
      go_ret2
      exact ⟨s.data.toList, t, by rw [len_eq]; omega, by omega, rfl, HB3.out⟩

end Go.Proofs.YtkdplfmfmalllaaDoor
