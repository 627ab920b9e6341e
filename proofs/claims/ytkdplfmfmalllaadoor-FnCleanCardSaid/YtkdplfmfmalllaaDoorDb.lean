/- Walks: the reference's drawn numbers, texts and paths. -/
import Derived.Test.YtkdplfmfmalllaaDoorDa
namespace Go.Proofs.YtkdplfmfmalllaaDoor
open Go.RowKit Pth

set_option maxHeartbeats 1000000 in
theorem pick_any (B b : Nat) (A : Option Addr) (n c k m : Nat) (w : World) (h : Cur B b A n c k w) (hn : n ≤ 2000000) (hk : k ≤ 2000000) (hm : 2 ≤ m) (hm2 : m ≤ 200) :
    Calls Tryd.prog 47 #[.pointer (some ⟨b, 0, none⟩), .int .i64 m] w (NextPost B b A n c (k + 1) 0 ((m : Int) - 1) w) := by
  have C := Lib.hid (next_any B b A n c k w h hn hk)
  clear h
  go_enter Tryd.func47, Tryd.ntmps47
  go_wp2_with fail
  refine C.out.mono ?_
  rintro e w1 ⟨x, hx0, hx1, rfl, hC, hg⟩
  have HC := Lib.hid hC
  have HG := Lib.hid hg
  clear hC hg C
  have hd0 := Int.emod_nonneg x (b := (m : Int)) (by omega)
  have hd1 := Int.emod_lt_of_pos x (b := (m : Int)) (by omega)
  go_wp2_with fail
  go_ret
  exact ⟨x % m, hd0, by omega, rfl, HC.out, HG.out⟩

/-- Yes or no. -/
def OnePost (B b : Nat) (A : Option Addr) (n c k : Nat) (w : World) (e : Ending) (w' : World) : Prop :=
  ∃ q : Bool, e = .returned (.bool q) ∧ Cur B b A n c k w' ∧ w.grownBy w' (some b)

set_option maxHeartbeats 1000000 in
theorem one_any (B b : Nat) (A : Option Addr) (n c k m : Nat) (w : World) (h : Cur B b A n c k w) (hn : n ≤ 2000000) (hk : k ≤ 2000000) (hm : 2 ≤ m) (hm2 : m ≤ 200) :
    Calls Tryd.prog 41 #[.pointer (some ⟨b, 0, none⟩), .int .i64 m] w (OnePost B b A n c (k + 1) w) := by
  have C := Lib.hid (pick_any B b A n c k m w h hn hk hm hm2)
  clear h
  go_enter Tryd.func41, Tryd.ntmps41
  go_wp2_with fail
  refine C.out.mono ?_
  rintro e w1 ⟨x, hx0, hx1, rfl, hC, hg⟩
  have HC := Lib.hid hC
  have HG := Lib.hid hg
  clear hC hg C
  go_wp2_with fail
  go_ret
  exact ⟨_, rfl, HC.out, HG.out⟩

/-- One of some texts. -/
def OfPost (l : List (List UInt8)) (B b : Nat) (A : Option Addr) (n c k : Nat) (w : World) (e : Ending) (w' : World) : Prop :=
  ∃ x ∈ l, e = .returned (.string ⟨x.toArray⟩) ∧ Cur B b A n c k w' ∧ w.grownBy w' (some b)

set_option maxHeartbeats 1000000 in
theorem of_any (l : List (List UInt8)) (g cap : Nat) (B b : Nat) (A : Option Addr) (n c k : Nat) (w : World) (h : Cur B b A n c k w) (hn : n ≤ 2000000) (hk : k ≤ 2000000) (hm : 2 ≤ l.length) (hm2 : l.length ≤ 200)
    (hl : w.heap[g]? = some (.cells (S l).toArray 9)) (hgb : g ≠ b) :
    Calls Tryd.prog 48 #[.pointer (some ⟨b, 0, none⟩), .slice (some ⟨g, 0, none⟩) l.length cap] w (OfPost l B b A n c (k + 1) w) := by
  have C := Lib.hid (pick_any B b A n c k l.length w h hn hk hm hm2)
  have hgl := lt_of_block hl
  clear h
  go_enter Tryd.func48, Tryd.ntmps48
  go_wp2_with fail
  refine C.out.mono ?_
  rintro e w1 ⟨x, hx0, hx1, rfl, hC, hg⟩
  obtain ⟨i, rfl⟩ : ∃ i : Nat, x = i := ⟨x.toNat, by omega⟩
  have hi : i < l.length := by omega
  have hi2 : (i : Int) < (l.length : Int) := by omega
  have hc : w1.cell? ⟨g, i, none⟩ = some (.string ⟨(l[i]).toArray⟩) := by
    have h1 : w1.heap[g]? = some (.cells (S l).toArray 9) := by rw [hg.block g hgl (by simpa using hgb)]; exact hl
    rw [Lib.cell_of_heap h1, List.getElem?_toArray, S_at hi]
  have hmem : l[i] ∈ l := List.getElem_mem hi
  have HC := Lib.hid hC
  have HG := Lib.hid hg
  generalize l[i] = p at hc hmem
  have HM := Lib.hid hmem
  clear hC hg C hmem hx0 hx1
  go_wp2_with fail
  go_ret
  exact ⟨p, HM.out, rfl, HC.out, HG.out⟩

theorem cur_alloc {B b : Nat} {A : Option Addr} {n c k : Nat} {w : World} (h : Cur B b A n c k w) (hB : B ≤ w.heap.size) (o : Obj) : Cur B b A n c k (w.alloc o) := by
  obtain ⟨h1, ⟨sd, h2⟩, h3⟩ := h
  refine ⟨h1, ⟨sd, (Below.heap_alloc _ _ _ (lt_of_block h2)).trans h2⟩, fun i hi => ?_⟩
  obtain ⟨g, o', x, hA, hg, hc, h0, h4⟩ := h3 i hi
  exact ⟨g, o', x, hA, hg, by rw [World.cell?_alloc_lt _ _ _ (by show g < _; omega)]; exact hc, h0, h4⟩

/-- A text is drawn. -/
def DrawPost (B b : Nat) (A : Option Addr) (n c k : Nat) (w : World) (e : Ending) (w' : World) : Prop :=
  ∃ (s : ByteArray) (k' : Nat), s.size ≤ 200 ∧ k' ≤ k ∧ e = .returned (.string s) ∧ Cur B b A n c k' w' ∧ w.grownBy w' (some b)

def words8 : List (List UInt8) := [[97], [98], [115, 114, 99], [46], [46, 46], [], [108, 105, 98, 46, 103, 111], [120, 95, 49]]

def words3 : List (List UInt8) := [[65], [32], [97, 98, 99, 100, 101, 102, 103, 104, 105, 106, 107, 108, 109, 110, 111, 112, 113, 114, 115, 116, 117, 118, 119, 120, 121, 122, 97, 98, 99, 100, 101, 102, 103, 104, 105, 106, 107, 108, 109, 110, 111, 112, 113, 114, 115, 116, 117, 118, 119, 120, 121, 122, 97, 98, 99, 100, 101, 102, 103, 104]]
theorem words8_len : ∀ x ∈ words8, x.length ≤ 6 := by decide
theorem words3_len : ∀ x ∈ words3, x.length ≤ 60 := by decide
theorem only_chain {a b c : World} {g : Nat} (h : a.grownBy b (some g)) (k : b.grownBy c (some g)) : a.grownBy c (some g) := only_trans h k (fun _ hi => .inl hi)
theorem cur_lt {B b : Nat} {A : Option Addr} {n c k : Nat} {w : World} (h : Cur B b A n c k w) : b < w.heap.size := by
  obtain ⟨_, ⟨sd, h2⟩, _⟩ := h
  exact lt_of_block h2

theorem sz_cat (t : ByteArray) (x : List UInt8) : (t ++ ⟨x.toArray⟩).size = t.size + x.length := by
  rw [ByteArray.size_append']; rfl
theorem sz_cat2 (t : ByteArray) (x : List UInt8) : (t ++ ⟨x.toArray⟩ ++ ⟨#[47]⟩).size = t.size + x.length + 1 := by
  rw [ByteArray.size_append', sz_cat]; rfl

set_option maxHeartbeats 4000000 in
theorem path_any (B b : Nat) (A : Option Addr) (n c k : Nat) (w : World) (h : Cur B b A n c k w) (hn : n ≤ 2000000) (hk : k ≤ 1000000) (hBw : B ≤ w.heap.size) :
    Calls Tryd.prog 31 #[.pointer (some ⟨b, 0, none⟩)] w (DrawPost B b A n c (k + 20) w) := by
  have C := Lib.hid (one_any B b A n c k 3 w h hn (by omega) (by omega) (by omega))
  clear h
  go_enter Tryd.func31, Tryd.ntmps31
  go_wp2_with fail
  refine C.out.mono ?_
  rintro e w1 ⟨q, rfl, hC1, hg1⟩
  have C2 := Lib.hid (pick_any B b A n c (k + 1) 5 w1 hC1 hn (by omega) (by omega) (by omega))
  have HG1 := Lib.hid hg1
  clear C hC1 hg1
  go_wp2_with fail
  all_goals
    refine C2.out.mono ?_
    rintro e w2 ⟨x, hx0, hx1, rfl, hC2, hg2⟩
    obtain ⟨j0, rfl⟩ : ∃ i : Nat, x = i := ⟨x.toNat, by omega⟩
    have hj0 : j0 ≤ 4 := by omega
    have HC2 := Lib.hid hC2
    have HG2 := Lib.hid (only_chain HG1.out hg2)
    clear hx0 hx1 C2 HG1 hC2 hg2
    go_wp2_with fail
    go_loopw [3, 4] (fun s i wr => ∃ (t : ByteArray) (j kk : Nat), j ≤ 4 ∧ t.size + 7 * j ≤ 29 ∧ kk + 2 * j ≤ k + 10 ∧ s = .string t ∧ i = .int .i64 j ∧ Cur B b A n c kk wr ∧ w.grownBy wr (some b)) (fun _ i _ => (intOf i).toNat)
    case atStart => exact ⟨_, j0, k + 2, hj0, by simp [ByteArray.size]; omega, by omega, rfl, rfl, HC2.out, HG2.out⟩
    case round =>
      obtain ⟨t, j, kk, hj, htz, hkk, rfl, rfl, hC, hg⟩ := hrel
      have hblt := cur_lt hC
      have hsz := hg.size
      by_cases hlt : 0 < j
      · have hO := of_any words8 wr.heap.size 8 B b A n c kk (wr.alloc (.cells (S words8).toArray 9)) (cur_alloc hC (by omega) _) hn (by omega) (by decide) (by decide) (heap_alloc_new wr _) (by omega)
        have HO := Lib.hid hO
        have HG := Lib.hid (only_alloc hg (.cells (S words8).toArray 9))
        clear hO hC hg
        go_wp2_with fail
        refine HO.out.mono ?_
        rintro e w3 ⟨y, hy, rfl, hC3, hg3⟩
        have hyl := words8_len y hy
        have HG3 := Lib.hid (only_chain HG.out hg3)
        clear hy hg3 HO HG
        by_cases hj1 : 1 < j
        · have HC3 := Lib.hid hC3
          clear hC3
          go_wp2_with fail
          go_roundw
          case rel => exact ⟨_, j - 1, kk + 1, by omega, by first | (rw [sz_cat2]; omega) | (rw [sz_cat]; omega), by omega, rfl, by go_num, HC3.out, HG3.out⟩
          case measure => simp [intOf]; omega
        · obtain rfl : j = 1 := by omega
          have hO4 := one_any B b A n c (kk + 1) 4 w3 hC3 hn (by omega) (by omega) (by omega)
          have HO4 := Lib.hid hO4
          clear hO4 hC3
          go_wp2_with fail
          refine HO4.out.mono ?_
          rintro e w4 ⟨q4, rfl, hC4, hg4⟩
          have HC4 := Lib.hid hC4
          have HG4 := Lib.hid (only_chain HG3.out hg4)
          clear hC4 hg4 HO4 HG3
          go_wp2_with fail
          all_goals
            go_roundw
            case rel => exact ⟨_, 0, kk + 2, by omega, by first | (rw [sz_cat2]; omega) | (rw [sz_cat]; omega), by omega, rfl, by go_num, HC4.out, HG4.out⟩
            case measure => simp [intOf]
      · obtain rfl : j = 0 := by omega
        have hO := one_any B b A n c kk 30 wr hC hn (by omega) (by omega) (by omega)
        have HO := Lib.hid hO
        have HG := Lib.hid hg
        clear hO hC hg
        go_wp2_with fail
        refine HO.out.mono ?_
        rintro e w3 ⟨q3, rfl, hC3, hg3⟩
        have hblt3 := cur_lt hC3
        have hsz3 := hg3.size
        have hO4 := of_any words3 w3.heap.size 3 B b A n c (kk + 1) (w3.alloc (.cells (S words3).toArray 9)) (cur_alloc hC3 (by omega) _) hn (by omega) (by decide) (by decide) (heap_alloc_new w3 _) (by omega)
        have HO4 := Lib.hid hO4
        have HC3 := Lib.hid hC3
        have HG3 := Lib.hid (only_chain HG.out hg3)
        clear hO4 hC3 hg3 HO HG
        rcases q3 with _ | _
        · go_wp2_with fail
          go_ret
          exact ⟨t, kk + 1, by omega, by omega, rfl, HC3.out, HG3.out⟩
        · go_wp2_with fail
          refine HO4.out.mono ?_
          rintro e w4 ⟨y, hy, rfl, hC4, hg4⟩
          have hyl := words3_len y hy
          have HC4 := Lib.hid hC4
          have HG4 := Lib.hid (only_chain (only_alloc HG3.out (.cells (S words3).toArray 9)) hg4)
          clear hy hC4 hg4 HO4 HG3 HC3
          go_wp2_with fail
          go_ret
          exact ⟨_, kk + 2, by first | (rw [sz_cat2]; omega) | (rw [sz_cat]; omega), by omega, rfl, HC4.out, HG4.out⟩

end Go.Proofs.YtkdplfmfmalllaaDoor
