/- Texts of one claim, joined in their order. -/
import Derived.Deep.RegionHeld3
import Derived.Test.YtoahfhidekmodaaGreatDoorRows
import Derived.WalkKit
import Derived.WalkSpells
import Derived.WalkLawsBesides
import Derived.Deep.Light
import Derived.Shelf.Strings.Builder1
import Derived.Shelf.Small.Bits
import Derived.Shelf.Small.Strs
import Derived.Shelf.Utf8.RuneCount
import Derived.Shelf.Strconv.Itoa0
import Derived.Shelf.LaysM
import Derived.Shelf.Strconv.Clone
import Derived.Shelf.Strings.Search1
import Derived.Shelf.Strings.Search2
import Derived.Shelf.Strings.Search3
import Derived.Shelf.Strings.Count
import Derived.Shelf.Strings.Shaped
import Derived.Shelf.Strings.Prefix
import Derived.Shelf.Strings.Split
import Derived.Shelf.Unicode.DecodeSlow
import Derived.Shelf.Unicode.DecodeAny
import Derived.Ground.SlgmProg
import Derived.Shelf.SortM.Plain
import Derived.Shelf.SortM.SortNone
import Derived.Test.YtoahfhidekmodaaGreatDoorProg
import Derived.Test.YtoahfhidekmodaaGreatDoorM1
import Derived.Test.YtoahfhidekmodaaGreatDoorM2

/- Walks: the laws' helpers on lists of texts, by themselves (no lists of numbers). -/
namespace Go.Proofs.YtoahfhidekmodaaGreatDoor
open Go.RowKit Pth

/-- A new list of so many zeros. -/
theorem make_row {t e : TypeId} {z : Value} {bytes : Nat} (E : Elem t e z bytes) (hz : z.cells = #[z]) (n : Nat) (w : World) (hn : n ≤ 2000000) :
    ∃ w', (Instr.makeSlice t (.int .i64 (n : Int)) (.int .i64 (n : Int))).run Tryz.prog w = .ok (.slice (some ⟨w.heap.size, 0, none⟩) n n) w' ∧
      w'.ownsRow w.heap.size e 1 (.slice (some ⟨w.heap.size, 0, none⟩) n n) n (List.replicate n z) ∧ Below w.heap.size w w' := by
  obtain ⟨i0, hi, hz0, hz1, hz2⟩ := info_parts E.info
  obtain ⟨w', h1, h2, h3⟩ := run_makeSlice_full (P := Tryz.prog) w w.heap.size t e i0 z 1 E.under hi hz0 hz1 .i64 .i64 n (by omega) (by rw [hz2]; exact Nat.le_trans (Nat.mul_le_mul E.small hn) (by decide)) (by unfold maxLen; omega) (Nat.le_refl _)
  rw [hz, Nat.mul_one, toList_madeCells_one] at h2
  exact ⟨w', h1, h2, (Below.refl _ w).grown h3 (Nat.le_refl _) (fun k hk => by cases hk)⟩

theorem set_row (xs : List Value) (z : Value) (k : Nat) (hk : k < xs.length) : (xs.take k ++ List.replicate (xs.length - k) z).set k xs[k] = xs.take (k + 1) ++ List.replicate (xs.length - (k + 1)) z := by
  have e : xs.length - k = (xs.length - (k + 1)) + 1 := by omega
  rw [e, List.replicate_succ, List.set_append_right _ _ (by rw [List.length_take]; omega)]
  have e2 : k - (xs.take k).length = 0 := by rw [List.length_take]; omega
  rw [e2, List.set_cons_zero, List.take_succ_eq_append_getElem hk, List.append_assoc, List.singleton_append]

theorem get_row (xs : List Value) (z : Value) (k : Nat) (hk : k < xs.length) : (xs.take k ++ List.replicate (xs.length - k) z)[k]? = some z := by
  have hl : (xs.take k).length = k := by rw [List.length_take]; omega
  rw [List.getElem?_append_right (by omega), hl, Nat.sub_self, List.getElem?_replicate, if_pos (by omega)]

theorem only_below {w w' : World} {B g : Nat} (hg : w.grownBy w' (some g)) (h : B ≤ g) (hB : B ≤ w.heap.size) : Below B w w' :=
  (Below.refl B w).grown hg hB (fun k hk => by injection hk with hk; omega)

theorem same_next {α : Type} {a b : List α} {k : Nat} (h : a.take k = b.take k) (h1 : k < a.length) (h2 : k < b.length) (he : a[k] = b[k]) : a.take (k + 1) = b.take (k + 1) := by
  rw [List.take_succ_eq_append_getElem h1, List.take_succ_eq_append_getElem h2, h, he]

theorem same_not {α : Type} {a b : List α} {k : Nat} (h1 : k < a.length) (h2 : k < b.length) (he : ¬ a[k] = b[k]) : ¬ a = b := by
  rintro rfl; exact he rfl

theorem same_all {α : Type} {a b : List α} {k : Nat} (h : a.take k = b.take k) (h1 : a.length ≤ k) (h2 : b.length ≤ k) : a = b := by
  rw [List.take_of_length_le h1, List.take_of_length_le h2] at h; exact h

theorem grown_refl (w : World) (r : Option Nat) : w.grownBy w r := ⟨rfl, rfl, rfl, Nat.le_refl _, fun _ _ _ => rfl⟩

theorem grown_trans {a b c : World} {r : Option Nat} (h : a.grownBy b r) (k : b.grownBy c r) : a.grownBy c r :=
  ⟨k.os.trans h.os, k.tape.trans h.tape, k.output.trans h.output, Nat.le_trans h.size k.size, fun i hi hn => (k.block i (Nat.lt_of_lt_of_le hi h.size) hn).trans (h.block i hi hn)⟩

/-- The digits of a number, ahead of what is there. -/
def digs (k : Nat) (out : List UInt8) : List UInt8 := if h : k = 0 then out else digs (k / 10) (UInt8.ofNat (48 + k % 10) :: out)
termination_by k
decreasing_by omega

def markT (k : Nat) : List UInt8 := 109 :: digs k []

theorem digs_zero (out : List UInt8) : digs 0 out = out := by rw [digs]; simp

theorem digs_pos {k : Nat} (h : 0 < k) (out : List UInt8) : digs k out = digs (k / 10) (UInt8.ofNat (48 + k % 10) :: out) := by rw [digs]; simp; omega

theorem digit_int (k : Nat) : ((UInt8.ofNat (48 + k % 10)).toNat : Int) = 48 + (k : Int) % 10 := by
  have : (UInt8.ofNat (48 + k % 10)).toNat = 48 + k % 10 := by simp; omega
  rw [this]; omega

theorem cat_one (c : UInt8) (out : List UInt8) : (⟨#[c]⟩ : ByteArray) ++ ⟨out.toArray⟩ = ⟨(c :: out).toArray⟩ := by
  apply ByteArray.ext
  apply Array.ext'
  rw [ByteArray.data_append]
  simp

set_option maxHeartbeats 1000000 in
theorem markText_any (k0 : Nat) (w : World) (hk : k0 ≤ 8000000) (h1 : 1 ≤ k0) :
    Calls Tryz.prog 86 #[.int .i64 (k0 : Int)] w fun e w' => e = .returned (.string ⟨(markT k0).toArray⟩) ∧ Below w.heap.size w w' := by
  have hk0 : decide ((k0 : Int) ≤ 0) = false := by simp; omega
  have HZ : Hid (markT k0 = 109 :: digs k0 []) := rfl
  go_enter Tryz.func86, Tryz.ntmps86
  go_wp2_with fail
  go_loopw [0, 3] (fun q s wr => ∃ (k : Nat) (out : List UInt8), k ≤ 8000000 ∧ out.length + k ≤ 8000000 + 20 ∧ q = .int .i64 k ∧ s = .string ⟨out.toArray⟩ ∧ Below w.heap.size w wr ∧ Hid (digs k0 [] = digs k out)) (fun q _ _ => (intOf q).toNat)
  case atStart => exact ⟨k0, [], hk, by simp; omega, rfl, rfl, Below.refl _ _, rfl⟩
  case round =>
    obtain ⟨k, out, hk2, hol, rfl, rfl, hb, HO⟩ := hrel
    have hbs := hb.size
    have HB := Lib.hid hb
    clear hb
    by_cases hlt : 0 < k
    · have HS := Lib.hid (HO.out.trans (digs_pos hlt out))
      obtain ⟨c, hcE, hci⟩ : ∃ c : UInt8, c = UInt8.ofNat (48 + k % 10) ∧ (c.toNat : Int) = 48 + (k : Int) % 10 := ⟨_, rfl, digit_int k⟩
      have hc := run_one_byte c wr
      rw [hci] at hc
      rw [← hcE] at HS
      clear HO hcE hci
      go_wp2_with fail
      go_roundw
      case rel => exact ⟨k / 10, c :: out, by omega, by simp only [List.length_cons]; omega, by go_num, by rw [cat_one], HB.out.alloc hbs _, HS⟩
      case measure => simp [intOf]; omega
    · obtain rfl : k = 0 := by omega
      rw [digs_zero] at HO
      go_wp2_with fail
      go_ret
      exact ⟨by rw [HZ.out, HO.out, ← cat_one] <;> rfl, HB.out⟩

theorem S_get {l : List (List UInt8)} {k : Nat} (hk : k < l.length) : (S l)[k]'(by rw [S_len]; exact hk) = .string ⟨(l[k]).toArray⟩ := by simp [S]

/-- Texts in memory of the call's own. -/
def TextsPost (B : Nat) (l : List (List UInt8)) (w : World) (e : Ending) (w' : World) : Prop :=
  ∃ v, e = .returned v ∧ w'.ownsRow B 9 1 v l.length (S l) ∧ Below w.heap.size w w'

set_option maxHeartbeats 1000000 in
theorem toStringS_any (l : List (List UInt8)) (v : Value) (w : World) (hrow : RowV w v (S l)) (hl : l.length ≤ 2000000) :
    Calls Tryz.prog 67 #[v] w (TextsPost w.heap.size l w) := by
  obtain ⟨a, cap, rfl, hc1, hc2, hat⟩ := hrow.texts
  clear hrow
  unfold maxLen at hc2
  obtain ⟨w0, hmk, hown0, hb0⟩ := make_row elemS rfl l.length w hl
  have HN0 := Lib.hid hown0
  have HB0 := Lib.hid hb0
  clear hown0 hb0
  go_enter Tryz.func67, Tryz.ntmps67
  go_wp2_with fail
  clear hmk
  go_loopw [4] (fun i wr => ∃ k : Nat, k ≤ l.length ∧ i = .int .i64 k ∧ wr.ownsRow w.heap.size 9 1 (.slice (some ⟨w.heap.size, 0, none⟩) l.length l.length) l.length ((S l).take k ++ List.replicate ((S l).length - k) (.string ByteArray.empty)) ∧ Below w.heap.size w wr) (fun i _ => l.length - (intOf i).toNat)
  case atStart => exact ⟨0, Nat.zero_le _, rfl, by rw [S_len]; exact HN0.out, HB0.out⟩
  case round =>
    clear HN0 HB0
    obtain ⟨k, hk, rfl, hown, hb⟩ := hrel
    have hbs := hb.size
    by_cases hlt : k < l.length
    · obtain ⟨g, o, rfl, hg, hcell0⟩ := hat k hlt
      have hcell : wr.cell? ⟨g, o + k, none⟩ = some (.string ⟨(l[k]).toArray⟩) := by rw [hb.cell (p := ⟨g, o + k, none⟩) hg]; exact hcell0
      have hfz := hown.frozenAt k
      have hcz : wr.cell? ⟨w.heap.size, k, none⟩ = some (.string ByteArray.empty) := by rw [hown.cellAt k (by omega), get_row _ _ _ (by rw [S_len]; exact hlt)]
      have hst := hown.stored k (.string ⟨(l[k]).toArray⟩)
      have e := set_row (S l) (.string ByteArray.empty) k (by rw [S_len]; exact hlt)
      rw [S_get hlt] at e
      rw [e] at hst
      have HN1 := Lib.hid hst.1
      have HB1 := Lib.hid (hb.trans (only_below hst.2 (Nat.le_refl _) hbs))
      clear hcell0 hat hown hb hst e
      generalize l[k] = x at hcell HN1 HB1
      go_wp2_with fail
      go_roundw
      case rel => exact ⟨k + 1, by omega, by go_num, HN1.out, HB1.out⟩
      case measure => simp [intOf]; omega
    · have HN1 : Hid (wr.ownsRow w.heap.size 9 1 (.slice (some ⟨w.heap.size, 0, none⟩) l.length l.length) l.length (S l)) := by
        have e1 : (S l).take k = S l := List.take_of_length_le (by rw [S_len]; omega)
        have e2 : (S l).length - k = 0 := by rw [S_len]; omega
        rw [e1, e2, List.replicate_zero, List.append_nil] at hown
        exact hown
      have HB := Lib.hid hb
      clear hown hb hat
      go_wp2_with fail
      go_ret
      exact ⟨_, rfl, HN1.out, HB.out⟩

set_option maxHeartbeats 1000000 in
theorem eqStringS_any (l m : List (List UInt8)) (v u : Value) (w : World) (hr1 : RowV w v (S l)) (hr2 : RowV w u (S m)) (hl : l.length ≤ 2000000) :
    Calls Tryz.prog 69 #[v, u] w fun e w' => e = .returned (.bool (decide (l = m))) ∧ Below w.heap.size w w' := by
  obtain ⟨a, cap, rfl, hc1, hc2, hat⟩ := hr1.texts
  obtain ⟨a2, cap2, rfl, hc3, hc4, hat2⟩ := hr2.texts
  clear hr1 hr2
  unfold maxLen at hc2 hc4
  by_cases hlen : l.length = m.length
  · have hlen1 : ((l.length : Int) != (m.length : Int)) = false := by simp [hlen]
    go_enter Tryz.func69, Tryz.ntmps69
    go_wp2_with fail
    go_loopw [5] (fun i wr => ∃ k : Nat, k ≤ l.length ∧ i = .int .i64 k ∧ Hid (l.take k = m.take k) ∧ Below w.heap.size w wr) (fun i _ => l.length - (intOf i).toNat)
    case atStart => exact ⟨0, Nat.zero_le _, rfl, rfl, Below.refl _ _⟩
    case round =>
      obtain ⟨k, hk, rfl, HO, hb⟩ := hrel
      have HB := Lib.hid hb
      by_cases hlt : k < l.length
      · obtain ⟨g, o, rfl, hg, hcell0⟩ := hat k hlt
        obtain ⟨g2, o2, rfl, hg2, hcell02⟩ := hat2 k (by omega)
        have hcell : wr.cell? ⟨g, o + k, none⟩ = some (.string ⟨(l[k]).toArray⟩) := by rw [hb.cell (p := ⟨g, o + k, none⟩) hg]; exact hcell0
        have hcell2 : wr.cell? ⟨g2, o2 + k, none⟩ = some (.string ⟨(m[k]).toArray⟩) := by rw [hb.cell (p := ⟨g2, o2 + k, none⟩) hg2]; exact hcell02
        clear hcell0 hcell02 hat hat2 hb
        have hi1 : (k : Int) < (l.length : Int) := by omega
        have hi2 : (k : Int) < (m.length : Int) := by omega
        by_cases he : l[k] = m[k]
        · have HS := Lib.hid (same_next HO.out hlt (by omega) he)
          have he1 : (l[k] != m[k]) = false := by simp [he]
          have he2 : (l[k] == m[k]) = true := by simp [he]
          generalize l[k] = x at hcell he1 he he2
          generalize m[k] = y at hcell2 he1 he he2
          clear HO
          go_wp2_with fail
          go_quiet (fail)
          go_wp2_with fail
          go_roundw
          case rel => exact ⟨k + 1, by omega, by go_num, HS, below_drewN HB.out _⟩
          case measure => simp [intOf]; omega
        · have HS : Hid (decide (l = m) = false) := decide_eq_false (same_not hlt (by omega) he)
          have he1 : (l[k] != m[k]) = true := by simp [he]
          have he2 : (l[k] == m[k]) = false := by simp [he]
          generalize l[k] = x at hcell he1 he he2
          generalize m[k] = y at hcell2 he1 he he2
          clear HO
          go_wp2_with fail
          go_quiet (fail)
          go_wp2_with fail
          go_ret
          exact ⟨ret_bool HS.out.symm, below_drewN HB.out _⟩
      · have HS : Hid (decide (l = m) = true) := decide_eq_true (same_all HO.out (by omega) (by omega))
        clear HO hat hat2 hb
        go_wp2_with fail
        go_ret
        exact ⟨ret_bool HS.out.symm, HB.out⟩
  · have hlen1 : ((l.length : Int) != (m.length : Int)) = true := by simp; omega
    have HS : Hid (decide (l = m) = false) := decide_eq_false (fun h => hlen (by rw [h]))
    clear hat hat2
    go_enter Tryz.func69, Tryz.ntmps69
    go_wp2_with fail
    go_ret
    exact ⟨ret_bool HS.out.symm, Below.refl _ _⟩

set_option maxHeartbeats 1000000 in
theorem sameTexts_any (l m : List (List UInt8)) (v u : Value) (w : World) (hr1 : RowV w v (S l)) (hr2 : RowV w u (S m)) (hl : l.length ≤ 2000000) :
    Calls Tryz.prog 47 #[v, u] w fun e w' => e = .returned (.bool (decide (l = m))) ∧ Below w.heap.size w w' := by
  obtain ⟨a, cap, rfl, hc1, hc2, hat⟩ := hr1.texts
  obtain ⟨a2, cap2, rfl, hc3, hc4, hat2⟩ := hr2.texts
  clear hr1 hr2
  unfold maxLen at hc2 hc4
  by_cases hlen : l.length = m.length
  · have hlen1 : ((l.length : Int) != (m.length : Int)) = false := by simp [hlen]
    go_enter Tryz.func47, Tryz.ntmps47
    go_wp2_with fail
    go_loopw [13] (fun i wr => ∃ k : Nat, k ≤ l.length ∧ i = .int .i64 k ∧ Hid (l.take k = m.take k) ∧ Below w.heap.size w wr) (fun i _ => l.length - (intOf i).toNat)
    case atStart => exact ⟨0, Nat.zero_le _, rfl, rfl, Below.refl _ _⟩
    case round =>
      obtain ⟨k, hk, rfl, HO, hb⟩ := hrel
      have HB := Lib.hid hb
      by_cases hlt : k < l.length
      · obtain ⟨g, o, rfl, hg, hcell0⟩ := hat k hlt
        obtain ⟨g2, o2, rfl, hg2, hcell02⟩ := hat2 k (by omega)
        have hcell : wr.cell? ⟨g, o + k, none⟩ = some (.string ⟨(l[k]).toArray⟩) := by rw [hb.cell (p := ⟨g, o + k, none⟩) hg]; exact hcell0
        have hcell2 : wr.cell? ⟨g2, o2 + k, none⟩ = some (.string ⟨(m[k]).toArray⟩) := by rw [hb.cell (p := ⟨g2, o2 + k, none⟩) hg2]; exact hcell02
        clear hcell0 hcell02 hat hat2 hb
        have hi1 : (k : Int) < (l.length : Int) := by omega
        have hi2 : (k : Int) < (m.length : Int) := by omega
        by_cases he : l[k] = m[k]
        · have HS := Lib.hid (same_next HO.out hlt (by omega) he)
          have he1 : (l[k] != m[k]) = false := by simp [he]
          have he2 : (l[k] == m[k]) = true := by simp [he]
          generalize l[k] = x at hcell he1 he he2
          generalize m[k] = y at hcell2 he1 he he2
          clear HO
          go_wp2_with fail
          go_quiet (fail)
          go_wp2_with fail
          go_roundw
          case rel => exact ⟨k + 1, by omega, by go_num, HS, below_drewN HB.out _⟩
          case measure => simp [intOf]; omega
        · have HS : Hid (decide (l = m) = false) := decide_eq_false (same_not hlt (by omega) he)
          have he1 : (l[k] != m[k]) = true := by simp [he]
          have he2 : (l[k] == m[k]) = false := by simp [he]
          generalize l[k] = x at hcell he1 he he2
          generalize m[k] = y at hcell2 he1 he he2
          clear HO
          go_wp2_with fail
          go_quiet (fail)
          go_wp2_with fail
          go_ret
          exact ⟨ret_bool HS.out.symm, below_drewN HB.out _⟩
      · have HS : Hid (decide (l = m) = true) := decide_eq_true (same_all HO.out (by omega) (by omega))
        clear HO hat hat2 hb
        go_wp2_with fail
        go_ret
        exact ⟨ret_bool HS.out.symm, HB.out⟩
  · have hlen1 : ((l.length : Int) != (m.length : Int)) = true := by simp; omega
    have HS : Hid (decide (l = m) = false) := decide_eq_false (fun h => hlen (by rw [h]))
    clear hat hat2
    go_enter Tryz.func47, Tryz.ntmps47
    go_wp2_with fail
    go_ret
    exact ⟨ret_bool HS.out.symm, Below.refl _ _⟩

set_option maxHeartbeats 1000000 in
theorem szStringS_any (l : List (List UInt8)) (left : Nat) (v : Value) (w : World) (hrow : RowV w v (S l)) (hx : ∀ x ∈ l, x.length ≤ maxLen) (hl : left ≤ 2000000) :
    Calls Tryz.prog 65 #[v, .int .i64 (left : Int)] w fun e w' => ∃ r : Int, e = .returned (.int .i64 r) ∧ (0 ≤ r → l.length ≤ left ∧ ∀ x ∈ l, x.length ≤ left) ∧ w = w' := by
  obtain ⟨a, cap, rfl, hc1, hc2, hat⟩ := hrow.texts
  clear hrow
  unfold maxLen at hc2 hx
  by_cases hlen : l.length ≤ left
  · have hlen1 : decide ((left : Int) - (l.length : Int) < 0) = false := by simp; omega
    go_enter Tryz.func65, Tryz.ntmps65
    go_wp2_with fail
    go_loop [1, 5] (fun q i => ∃ (k : Nat) (r : Int), k ≤ l.length ∧ 0 ≤ r ∧ r ≤ left ∧ q = .int .i64 r ∧ i = .int .i64 k ∧ Hid (∀ x ∈ l.take k, x.length ≤ left)) (fun _ i => l.length - (intOf i).toNat)
    case atStart => exact ⟨0, (left : Int) - (l.length : Int), Nat.zero_le _, by omega, by omega, rfl, rfl, by simp [Hid]⟩
    case round =>
      obtain ⟨k, r, hk, hr0, hr1, rfl, rfl, HO⟩ := hrel
      by_cases hlt : k < l.length
      · obtain ⟨g, o, rfl, hg, hcell⟩ := hat k hlt
        have hxl := hx l[k] (List.getElem_mem hlt)
        by_cases hy : ((l[k]).length : Int) ≤ r
        · have HS : Hid (∀ x ∈ l.take (k + 1), x.length ≤ left) := by
            intro x hxm
            rw [List.take_succ_eq_append_getElem hlt, List.mem_append, List.mem_singleton] at hxm
            rcases hxm with h | h
            · exact HO.out x h
            · rw [h]; omega
          have hy1 : decide (r - ((l[k]).length : Int) < 0) = false := by simp; omega
          generalize l[k] = x at hcell hxl hy hy1
          clear hat HO hx
          go_wp2_with fail
          go_round
          case rel => exact ⟨k + 1, r - (x.length : Int), by omega, by omega, by omega, rfl, by go_num, HS⟩
          case measure => simp [intOf]; omega
        · have hy1 : decide (r - ((l[k]).length : Int) < 0) = true := by simp; omega
          generalize l[k] = x at hcell hxl hy hy1
          clear hat HO hx
          go_wp2_with fail
          go_ret
          exact ⟨-1, rfl, fun h => by omega, rfl⟩
      · have HS : Hid (∀ x ∈ l, x.length ≤ left) := by have := HO.out; rw [List.take_of_length_le (by omega)] at this; exact this
        clear hat HO hx
        go_wp2_with fail
        go_ret
        exact ⟨r, rfl, fun _ => by first | exact ⟨hlen, HS.out⟩ | exact HS.out, rfl⟩
  · have hlen1 : decide ((left : Int) - (l.length : Int) < 0) = true := by simp; omega
    clear hat hx
    go_enter Tryz.func65, Tryz.ntmps65
    go_wp2_with fail
    go_ret
    exact ⟨-1, rfl, fun h => by omega, rfl⟩

/-- The texts that are marks, from k on. -/
def marksT (k : Nat) (n : Nat) : List (List UInt8) := (List.range n).map (fun (i : Nat) => markT (k + i))

theorem marksT_len (k n : Nat) : (marksT k n).length = n := by simp [marksT]

theorem marksT_snoc (k n : Nat) : marksT k (n + 1) = marksT k n ++ [markT (k + n)] := by simp [marksT, List.range_succ]

theorem marksT_at (k n j : Nat) (hj : j < (marksT k n).length) : (marksT k n)[j] = markT (k + j) := by simp [marksT]

theorem markT_set (k : Nat) (l : List (List UInt8)) (j : Nat) (hj : j < l.length) : (S (marksT k j) ++ (S l).drop j).set j (.string ⟨(markT (k + j)).toArray⟩) = S (marksT k (j + 1)) ++ (S l).drop (j + 1) := by
  have hl : (S (marksT k j)).length = j := by rw [S_len, marksT_len]
  rw [List.set_append_right _ _ (by omega), hl, Nat.sub_self, List.drop_eq_getElem_cons (by rw [S_len]; exact hj), List.set_cons_zero, marksT_snoc, S_append, List.append_assoc]
  rfl

theorem markT_get (k : Nat) (l : List (List UInt8)) (j : Nat) (hj : j < l.length) : (S (marksT k j) ++ (S l).drop j)[j]? = some (.string ⟨(l[j]).toArray⟩) := by
  have hl : (S (marksT k j)).length = j := by rw [S_len, marksT_len]
  rw [List.getElem?_append_right (by omega), hl, Nat.sub_self, List.getElem?_drop, Nat.add_zero, List.getElem?_eq_getElem (by rw [S_len]; exact hj), S_get hj]

/-- The list holds the marks, and nothing but its own block has turned. -/
def MarkedT (B : Nat) (v : Value) (k : Nat) (n : Nat) (w : World) (e : Ending) (w' : World) : Prop :=
  e = .returned (.int .i64 ((k : Int) + (n : Int))) ∧ w'.ownsRow B 9 1 v n (S (marksT k n)) ∧ w.grownBy w' v.ownBlock

theorem below_grown {w w' : World} {r : Option Nat} (h : Below w.heap.size w w') : w.grownBy w' r := ⟨h.os, h.tape, h.output, h.size, fun i hi _ => h.block i hi⟩

set_option maxHeartbeats 1000000 in
theorem markStringS_any (l : List (List UInt8)) (k : Nat) (B : Nat) (v : Value) (w : World) (hown : w.ownsRow B 9 1 v l.length (S l)) (hl : l.length ≤ 2000000) (hk : k ≤ 4000000) (hk1 : 1 ≤ k) :
    Calls Tryz.prog 71 #[v, .int .i64 (k : Int)] w (MarkedT B v k l.length w) := by
  have HW := Lib.hid hown
  obtain ⟨a, cap, rfl⟩ := own_slice hown
  clear hown
  go_enter Tryz.func71, Tryz.ntmps71
  go_wp2_with fail
  go_loopw [1, 5] (fun q i wr => ∃ j : Nat, j ≤ l.length ∧ q = .int .i64 ((k : Int) + (j : Int)) ∧ i = .int .i64 j ∧ wr.ownsRow B 9 1 (.slice a l.length cap) l.length (S (marksT k j) ++ (S l).drop j) ∧ w.grownBy wr (Value.slice a l.length cap).ownBlock) (fun _ i _ => l.length - (intOf i).toNat)
  case atStart => exact ⟨0, Nat.zero_le _, by simp, rfl, HW.out, grown_refl _ _⟩
  case round =>
    clear HW
    obtain ⟨j, hj, rfl, rfl, hown, hg⟩ := hrel
    by_cases hlt : j < l.length
    · obtain ⟨g, c2, hv⟩ : ∃ g c2, (Value.slice a l.length cap) = .slice (some ⟨g, 0, none⟩) l.length c2 := by
        rcases hown.2 with ⟨_, h0⟩ | ⟨g, c2, cur, hv, _⟩
        · omega
        · exact ⟨g, c2, hv⟩
      injection hv with hv1 hv2 hv3
      subst hv1
      have hc4 : l.length ≤ cap := by
        rcases hown.2 with ⟨_, h0⟩ | ⟨g, c2, cur, hv, _, _, h5, _⟩
        · omega
        · injection hv with _ _ hv3; omega
      have C := markText_any (k + j) wr (by omega) (by omega)
      have ec : ((k + j : Nat) : Int) = (k : Int) + (j : Int) := by omega
      rw [ec] at C
      have HC := Lib.hid C
      have HN := Lib.hid hown
      have HG := Lib.hid hg
      clear hown hg C ec hv2 hv3
      go_wp2_with fail
      refine HC.out.mono ?_
      rintro e w1 ⟨rfl, hb1⟩
      have hown1 := own_below HN.out hb1
      have hfz := hown1.frozenAt j
      have hcz : w1.cell? ⟨g, j, none⟩ = some (.string ⟨(l[j]).toArray⟩) := by rw [hown1.cellAt j (by omega), markT_get k l j hlt]
      have hst := hown1.stored j (.string ⟨(markT (k + j)).toArray⟩)
      rw [markT_set k l j hlt] at hst
      have HN1 := Lib.hid hst.1
      have HG1 := Lib.hid (grown_trans (grown_trans HG.out (below_grown hb1)) hst.2)
      clear hst hown1 hb1
      generalize l[j] = x at hcz
      generalize markT (k + j) = y at HN1 HG1
      go_wp2_with fail
      go_roundw
      case rel => exact ⟨j + 1, by omega, by go_num, by go_num, HN1.out, HG1.out⟩
      case measure => simp [intOf]; omega
    · obtain rfl : j = l.length := by omega
      have e : (S l).drop l.length = [] := List.drop_of_length_le (by rw [S_len]; omega)
      rw [e, List.append_nil] at hown
      have HN := Lib.hid hown
      have HG := Lib.hid hg
      clear hown hg e
      go_wp2_with fail
      go_ret
      exact ⟨rfl, HN.out, HG.out⟩

set_option maxHeartbeats 1000000 in
theorem heldStringS_any (k n : Nat) (v : Value) (w : World) (hrow : RowV w v (S (marksT k n))) (hn : n ≤ 2000000) (hk : k ≤ 4000000) (hk1 : 1 ≤ k) :
    Calls Tryz.prog 73 #[v, .int .i64 (k : Int)] w fun e w' => e = .returned (.int .i64 ((k : Int) + (n : Int))) ∧ Below w.heap.size w w' := by
  obtain ⟨a, cap, rfl, hc1, hc2, hat⟩ := hrow.texts
  rw [marksT_len] at hc1 ⊢
  clear hrow
  unfold maxLen at hc2
  go_enter Tryz.func73, Tryz.ntmps73
  go_wp2_with fail
  go_loopw [1, 5] (fun q i wr => ∃ j : Nat, j ≤ n ∧ q = .int .i64 ((k : Int) + (j : Int)) ∧ i = .int .i64 j ∧ Below w.heap.size w wr) (fun _ i _ => n - (intOf i).toNat)
  case atStart => exact ⟨0, Nat.zero_le _, by simp, rfl, Below.refl _ _⟩
  case round =>
    obtain ⟨j, hj, rfl, rfl, hb⟩ := hrel
    by_cases hlt : j < n
    · obtain ⟨g, o, rfl, hg, hcell0⟩ := hat j (by rw [marksT_len]; exact hlt)
      rw [marksT_at] at hcell0
      have s0 : wr.cell? ⟨g, o + j, none⟩ = some (.string ⟨(markT (k + j)).toArray⟩) := by rw [hb.cell (p := ⟨g, o + j, none⟩) hg]; exact hcell0
      have hgw : g < wr.heap.size := by have := hb.size; omega
      have C := fun W => markText_any (k + j) W (by omega) (by omega)
      have ec : ((k + j : Nat) : Int) = (k : Int) + (j : Int) := by omega
      rw [ec] at C
      have HC := Lib.hid C
      have HB := Lib.hid hb
      have hj1 : (j : Int) < (n : Int) := by omega
      clear hcell0 hat hb C ec
      generalize markT (k + j) = y at s0 HC
      go_wp2_with fail
      go_region_held3 (fun w' => w'.cell? ⟨g, o + j, none⟩ = some (.string ⟨y.toArray⟩)) (first | exact s0 | exact k0)
        (first | (go_at_call 86; refine (HC.out _).mono ?_; rintro e w5 ⟨rfl, hb5⟩; have k0 := (hb5.cell (p := ⟨g, o + j, none⟩) hgw).trans s0))
      have HB5 := Lib.hid ((Below.drew HB.out).trans (hb5.mono HB.out.size))
      clear hb5 k0
      go_wp2_with fail
      go_roundw
      case rel => exact ⟨j + 1, by omega, by go_num, by go_num, HB5.out⟩
      case measure => simp [intOf]; omega
    · obtain rfl : j = n := by omega
      have HB := Lib.hid hb
      clear hat hb
      go_wp2_with fail
      go_ret
      exact ⟨rfl, HB.out⟩

end Go.Proofs.YtoahfhidekmodaaGreatDoor

/- Walks: files without a name, names put and dropped (the reference). -/
namespace Go.Proofs.YtoahfhidekmodaaGreatDoor
open Go.RowKit Pth

theorem drop_keep {l acc : List FileT} {n : List UInt8} {k : Nat} (hk : k < l.length) (h : acc = dropF (l.take k) n) (hx : ¬ l[k].1 = n) : acc ++ [l[k]] = dropF (l.take (k + 1)) n := by
  rw [List.take_succ_eq_append_getElem hk, dropF, List.filter_append, ← dropF, ← h]; simp [hx]
theorem drop_skip {l acc : List FileT} {n : List UInt8} {k : Nat} (hk : k < l.length) (h : acc = dropF (l.take k) n) (hx : l[k].1 = n) : acc = dropF (l.take (k + 1)) n := by
  rw [List.take_succ_eq_append_getElem hk, dropF, List.filter_append, ← dropF, ← h]; simp [hx]
theorem dropN_keep {l acc : List (List UInt8)} {n : List UInt8} {k : Nat} (hk : k < l.length) (h : acc = dropN (l.take k) n) (hx : ¬ l[k] = n) : acc ++ [l[k]] = dropN (l.take (k + 1)) n := by
  rw [List.take_succ_eq_append_getElem hk, dropN, List.filter_append, ← dropN, ← h]; simp [hx]
theorem dropN_skip {l acc : List (List UInt8)} {n : List UInt8} {k : Nat} (hk : k < l.length) (h : acc = dropN (l.take k) n) (hx : l[k] = n) : acc = dropN (l.take (k + 1)) n := by
  rw [List.take_succ_eq_append_getElem hk, dropN, List.filter_append, ← dropN, ← h]; simp [hx]
theorem file_snoc {w : World} {B : Nat} {v : Value} {l : List FileT} {x y : List UInt8} (h : w.ownsRow B 45 2 v (l.length + 1) (FC l ++ [.string ⟨x.toArray⟩, .string ⟨y.toArray⟩])) : w.ownsRow B 45 2 v (l ++ [(x, y)]).length (FC (l ++ [(x, y)])) :=
  own_eq h (by simp) (by rw [FC_append]; rfl)

set_option maxRecDepth 20000 in
set_option maxHeartbeats 2000000 in
theorem l3Drop_any (l : List FileT) (n : List UInt8) (v : Value) (w : World) (hrow : RowF w v l) (hl : l.length ≤ 1000) :
    Calls Tryz.prog 60 #[v, .string ⟨n.toArray⟩] w (FilesPost (dropF l n) w) := by
  obtain ⟨a, cap, rfl, hc1, hc2, hat⟩ := hrow.files
  clear hrow
  unfold maxLen at hc2
  go_enter Tryz.func60, Tryz.ntmps60
  go_wp2_with fail
  go_loopw [5, 10] (fun u i wr => ∃ (acc : List FileT) (k : Nat), k ≤ l.length ∧ acc.length ≤ k ∧ i = .int .i64 k ∧ Hid (wr.ownsRow w.heap.size 45 2 u acc.length (FC acc)) ∧ Hid (Below w.heap.size w wr) ∧ Hid (acc = dropF (l.take k) n)) (fun _ i _ => l.length - (intOf i).toNat)
  case atStart => exact ⟨[], 0, Nat.zero_le _, by simp, rfl, World.ownsRow_nil _ _ _ _, Below.refl _ _, rfl⟩
  case round =>
    obtain ⟨acc, k, hk, hal, rfl, HN, HB, HO⟩ := hrel
    have hbs := HB.out.size
    by_cases hlt : k < l.length
    · obtain ⟨g, o, rfl, hg, hcell1, hcell2⟩ := hat k hlt
      have hc1' : wr.cell? ⟨g, o + k * 2, none⟩ = some (.string ⟨(l[k]).1.toArray⟩) := by rw [HB.out.cell (p := ⟨g, o + k * 2, none⟩) hg]; exact hcell1
      have hc2' : wr.cell? ⟨g, o + k * 2 + 1, none⟩ = some (.string ⟨(l[k]).2.toArray⟩) := by rw [HB.out.cell (p := ⟨g, o + k * 2 + 1, none⟩) hg]; exact hcell2
      clear hcell1 hcell2 hat
      have HNa := fun o => Lib.hid (HN.out.alloc o)
      have HBa := fun o => Lib.hid (HB.out.alloc hbs o)
      by_cases hx : l[k].1 = n
      · have HR := Lib.hid (drop_skip hlt HO.out hx)
        have hx1 : (l[k].1 == n) = true := by simpa using hx
        generalize l[k].1 = x at hc1' hx hx1
        generalize l[k].2 = y at hc2'
        clear HO hx
        go_wp2_with fail
        go_roundw
        case rel => exact ⟨acc, k + 1, by omega, by omega, by go_num, HNa _, HBa _, HR⟩
        case measure => simp [intOf]; omega
      · have HR := Lib.hid (drop_keep hlt HO.out hx)
        have hx1 : (l[k].1 == n) = false := by simpa using hx
        have epair : l[k] = (l[k].1, l[k].2) := rfl
        rw [epair] at HR
        generalize l[k].1 = x at hc1' hx hx1 HR
        generalize l[k].2 = y at hc2' HR
        clear HO hx epair
        go_wp2_with (at_builtin; refine wpAppOneG elemF rfl _ _ rfl w.heap.size _ acc.length (FC acc) rfl (HNa _).out _ rfl (by simp) rfl (by intro u hu; simp at hu; rcases hu with rfl | rfl <;> rfl) (by omega) (HBa _).out.size ?_; intro v2 w2 hown2 hg2; have HN2 := Lib.hid (file_snoc hown2); have HB2 := Lib.hid ((HBa _).out.trans (below_ownG (HNa _).out hg2 (HBa _).out.size)); clear hown2 hg2)
        go_roundw
        case rel => exact ⟨acc ++ [(x, y)], k + 1, by omega, by simp; omega, by go_num, HN2, HB2, HR⟩
        case measure => simp [intOf]; omega
    · have HR : Hid (acc = dropF l n) := by have := HO.out; rw [List.take_of_length_le (by omega)] at this; exact this
      clear HO hat
      go_wp2_with fail
      go_ret
      exact ⟨_, rfl, by rw [← HR.out]; exact HN.out, HB.out⟩

set_option maxHeartbeats 2000000 in
theorem l3DropName_any (l : List (List UInt8)) (n : List UInt8) (v : Value) (w : World) (hrow : RowV w v (S l)) (hl : l.length ≤ 1000) :
    Calls Tryz.prog 46 #[v, .string ⟨n.toArray⟩] w (TextsPost w.heap.size (dropN l n) w) := by
  obtain ⟨a, cap, rfl, hc1, hc2, hat⟩ := hrow.texts
  clear hrow
  unfold maxLen at hc2
  go_enter Tryz.func46, Tryz.ntmps46
  go_wp2_with fail
  go_loopw [5, 10] (fun u i wr => ∃ (acc : List (List UInt8)) (k : Nat), k ≤ l.length ∧ acc.length ≤ k ∧ i = .int .i64 k ∧ Hid (wr.ownsRow w.heap.size 9 1 u acc.length (S acc)) ∧ Hid (Below w.heap.size w wr) ∧ Hid (acc = dropN (l.take k) n)) (fun _ i _ => l.length - (intOf i).toNat)
  case atStart => exact ⟨[], 0, Nat.zero_le _, by simp, rfl, World.ownsRow_nil _ _ _ _, Below.refl _ _, rfl⟩
  case round =>
    obtain ⟨acc, k, hk, hal, rfl, HN, HB, HO⟩ := hrel
    by_cases hlt : k < l.length
    · obtain ⟨g, o, rfl, hg, hcell1⟩ := hat k hlt
      have hc1' : wr.cell? ⟨g, o + k, none⟩ = some (.string ⟨(l[k]).toArray⟩) := by rw [HB.out.cell (p := ⟨g, o + k, none⟩) hg]; exact hcell1
      clear hcell1 hat
      by_cases hx : l[k] = n
      · have HR := Lib.hid (dropN_skip hlt HO.out hx)
        have hx1 : (l[k] == n) = true := by simpa using hx
        generalize l[k] = x at hc1' hx hx1
        clear HO hx
        go_wp2_with fail
        go_roundw
        case rel => exact ⟨acc, k + 1, by omega, by omega, by go_num, HN, HB, HR⟩
        case measure => simp [intOf]; omega
      · have HR := Lib.hid (dropN_keep hlt HO.out hx)
        have hx1 : (l[k] == n) = false := by simpa using hx
        generalize l[k] = x at hc1' hx hx1 HR
        clear HO hx
        go_wp2_with (at_builtin; refine wpAppOne elemS rfl _ _ rfl w.heap.size _ (S acc) rfl (by rw [S_len]; exact HN.out) _ rfl rfl rfl (by rw [S_len]; omega) HB.out.size ?_; intro v2 w2 hown2 hg2; have HN2 := Lib.hid (text_snoc hown2); have HB2 := Lib.hid (HB.out.trans (below_own HN.out hg2 HB.out.size)); clear hown2 hg2)
        go_roundw
        case rel => exact ⟨acc ++ [x], k + 1, by omega, by simp; omega, by go_num, HN2, HB2, HR⟩
        case measure => simp [intOf]; omega
    · have HR : Hid (acc = dropN l n) := by have := HO.out; rw [List.take_of_length_le (by omega)] at this; exact this
      clear HO hat
      go_wp2_with fail
      go_ret
      exact ⟨_, rfl, by rw [← HR.out]; exact HN.out, HB.out⟩

theorem S_take (l : List (List UInt8)) (k : Nat) : (S l).take k = S (l.take k) := by simp [S, List.map_take]
theorem S_drop (l : List (List UInt8)) (k : Nat) : (S l).drop k = S (l.drop k) := by simp [S, List.map_drop]
/-- A slice of texts cut from k on. -/
theorem run_cutS (a : Option Addr) (n c k : Nat) (hk : k ≤ n) (_hc : n ≤ c) (W : World) :
    (Instr.slice 24 (.slice a n c) (some (.int .i64 (k : Int))) none none).run Tryz.prog W = .ok (.slice (if c = k then a else a.map (·.add (k * 1))) (n - k) (c - k)) W := by
  have h1 : (k : Int) ≤ n := by omega
  by_cases h : c = k
  · go_simp
  · go_simp
theorem cutS {w : World} {a : Option Addr} {l : List (List UInt8)} {cap k : Nat} (h : RowV w (.slice a l.length cap) (S l)) (hk : k ≤ l.length) (hc : l.length ≤ cap) :
    RowV w (.slice a k cap) (S (l.take k)) ∧ ∃ A1, (∀ W, (Instr.slice 24 (.slice a l.length cap) (some (.int .i64 (k : Int))) none none).run Tryz.prog W = .ok (.slice A1 (l.length - k) (cap - k)) W) ∧ RowV w (.slice A1 (l.length - k) (cap - k)) (S (l.drop k)) := by
  have r0 : RowV w (.slice a (S l).length cap) (S l) := by rw [S_len]; exact h
  have hF := r0.front k (by rw [S_len]; omega)
  have hD := r0.back k (by rw [S_len]; omega)
  rw [S_take] at hF
  rw [S_drop, S_len] at hD
  exact ⟨hF, _, run_cutS a l.length cap k hk hc, hD⟩
theorem putS_first {w : World} {B e : Nat} {v : Value} {l : List (List UInt8)} (h : w.ownsRow B e 1 v ([] ++ S l).length ([] ++ S l)) : w.ownsRow B e 1 v (S l).length (S l) := h
theorem putS_second {w : World} {B e : Nat} {v : Value} {l : List (List UInt8)} {n : List UInt8} (h : w.ownsRow B e 1 v (S l ++ [Value.string ⟨n.toArray⟩]).length (S l ++ [Value.string ⟨n.toArray⟩])) : w.ownsRow B e 1 v (S (l ++ [n])).length (S (l ++ [n])) := by
  rw [S_append]; exact h
theorem putS_third {w : World} {B e : Nat} {v : Value} {l m r : List (List UInt8)} (h : w.ownsRow B e 1 v (S l ++ S m).length (S l ++ S m)) (hr : r = l ++ m) : w.ownsRow B e 1 v r.length (S r) := by
  rw [← S_append, S_len] at h; rw [hr]; exact h
theorem litS_nil (w : World) : (w.alloc (.cells #[] 9)).ownsRow w.heap.size 9 1 (.slice (some ⟨w.heap.size, 0, none⟩) 0 0) ([] : List Value).length [] := World.ownsRow_lit w #[] 0 (Nat.le_refl _) (by unfold maxLen; omega) rfl

end Go.Proofs.YtoahfhidekmodaaGreatDoor

/- Walks: a name put to its place; what is taken (the reference). -/
namespace Go.Proofs.YtoahfhidekmodaaGreatDoor
open Go.RowKit Pth

set_option maxRecDepth 20000 in
set_option maxHeartbeats 4000000 in
theorem l3PutName_any (l : List (List UInt8)) (n : List UInt8) (v : Value) (w : World) (hrow : RowV w v (S l)) (hl : l.length ≤ 1000) :
    Calls Tryz.prog 61 #[v, .string ⟨n.toArray⟩] w (TextsPost w.heap.size (putN l n) w) := by
  have HROW := Lib.hid hrow
  obtain ⟨a, cap, rfl, hc1, hc2, hat⟩ := hrow.texts
  clear hrow
  unfold maxLen at hc2
  go_enter Tryz.func61, Tryz.ntmps61
  go_wp2_with fail
  go_loop [5] (fun i => ∃ k : Nat, k ≤ l.length ∧ i = .int .i64 k ∧ Hid (putN l n = l.take k ++ putN (l.drop k) n)) (fun i => l.length - (intOf i).toNat)
  case atStart => exact ⟨0, Nat.zero_le _, rfl, putN_start l n⟩
  case round =>
    obtain ⟨k, hk, rfl, HO⟩ := hrel
    by_cases hlt : k < l.length
    · obtain ⟨g, o, rfl, hg, hcell⟩ := hat k hlt
      have hlt1 : decide ((k : Int) < (l.length : Int)) = true := decide_eq_true (by omega)
      rcases hz : ltT l[k] n with _ | _
      · have hz1 : Op.bytesLess l[k] n = false := hz
        by_cases he : l[k] = n
        · have HP := Lib.hid (putN_there hlt HO.out he)
          have he1 : (l[k] == n) = true := by simpa using he
          generalize l[k] = z at hcell hz hz1 he he1
          clear HO hz hat he
          go_wp2_with (at_builtin; refine wpAppRow elemS rfl _ _ rfl w.heap.size _ [] (S l) _ rfl (litS_nil w) rfl (HROW.out.alloc _) (S_one _) (by rw [S_len, List.length_nil]; omega) (by simp) ?_; intro v1 w1 hown1 hg1; have HN1 := Lib.hid (putS_first hown1); have HB1 := Lib.hid (((Below.refl _ w).alloc (Nat.le_refl _) _).trans (below_own (litS_nil w) hg1 (by simp))); clear hown1 hg1)
          go_ret
          exact ⟨_, rfl, by rw [HP.out, ← S_len]; exact HN1.out, HB1.out⟩
        · have HP := Lib.hid (putN_new HO.out (fun _ => ⟨hz, he⟩))
          have he1 : (l[k] == n) = false := by simpa using he
          generalize l[k] = z at hcell hz hz1 he he1
          clear HO hz hat he
          obtain ⟨hF, A1, cut1, hD⟩ := cutS HROW.out hk hc1
          have HF := Lib.hid hF
          have HD := Lib.hid hD
          clear hF hD
          go_wp2_with (at_builtin; first
            | (refine wpAppRow elemS rfl _ _ rfl w.heap.size _ [] (S (l.take k)) _ rfl (litS_nil w) rfl (HF.out.alloc _) (S_one _) (by rw [S_len, List.length_take, List.length_nil]; omega) (by simp) ?_
               intro v1 w1 hown1 hg1
               have HN1 := Lib.hid (putS_first hown1)
               have HB1 := Lib.hid (((Below.refl _ w).alloc (Nat.le_refl _) _).trans (below_own (litS_nil w) hg1 (by simp)))
               clear hown1 hg1)
            | (refine wpAppOne elemS rfl _ _ rfl w.heap.size _ (S (l.take k)) rfl HN1.out _ rfl rfl rfl (by rw [S_len, List.length_take]; omega) HB1.out.size ?_
               intro v2 w2 hown2 hg2
               have HN2 := Lib.hid (putS_second hown2)
               have HB2 := Lib.hid (HB1.out.trans (below_own HN1.out hg2 HB1.out.size))
               clear hown2 hg2)
            | (refine wpAppRow elemS rfl _ _ rfl w.heap.size _ (S (l.take k ++ [n])) (S (l.drop k)) _ rfl HN2.out rfl (HD.out.below HB2.out) (S_one _) (by rw [S_len, S_len, List.length_append, List.length_take, List.length_drop, List.length_singleton]; omega) HB2.out.size ?_
               intro v3 w3 hown3 hg3
               have HN3 := Lib.hid (putS_third hown3 HP.out)
               have HB3 := Lib.hid (HB2.out.trans (below_own HN2.out hg3 HB2.out.size))
               clear hown3 hg3))
          go_ret
          exact ⟨_, rfl, HN3.out, HB3.out⟩
      · have HP := Lib.hid (putN_less hlt HO.out hz)
        have hz1 : Op.bytesLess l[k] n = true := hz
        generalize l[k] = z at hcell hz hz1
        clear HO hz hat
        go_wp2_with fail
        go_round
        case rel => exact ⟨k + 1, by omega, by go_num, HP⟩
        case measure => simp [intOf]; omega
    · have hlt1 : decide ((k : Int) < (l.length : Int)) = false := decide_eq_false (by omega)
      have HP := Lib.hid (putN_new HO.out (fun h => absurd h hlt))
      clear HO hat
      obtain ⟨hF, A1, cut1, hD⟩ := cutS HROW.out hk hc1
      have HF := Lib.hid hF
      have HD := Lib.hid hD
      clear hF hD
      go_wp2_with (at_builtin; first
        | (refine wpAppRow elemS rfl _ _ rfl w.heap.size _ [] (S (l.take k)) _ rfl (litS_nil w) rfl (HF.out.alloc _) (S_one _) (by rw [S_len, List.length_take, List.length_nil]; omega) (by simp) ?_
           intro v1 w1 hown1 hg1
           have HN1 := Lib.hid (putS_first hown1)
           have HB1 := Lib.hid (((Below.refl _ w).alloc (Nat.le_refl _) _).trans (below_own (litS_nil w) hg1 (by simp)))
           clear hown1 hg1)
        | (refine wpAppOne elemS rfl _ _ rfl w.heap.size _ (S (l.take k)) rfl HN1.out _ rfl rfl rfl (by rw [S_len, List.length_take]; omega) HB1.out.size ?_
           intro v2 w2 hown2 hg2
           have HN2 := Lib.hid (putS_second hown2)
           have HB2 := Lib.hid (HB1.out.trans (below_own HN1.out hg2 HB1.out.size))
           clear hown2 hg2)
        | (refine wpAppRow elemS rfl _ _ rfl w.heap.size _ (S (l.take k ++ [n])) (S (l.drop k)) _ rfl HN2.out rfl (HD.out.below HB2.out) (S_one _) (by rw [S_len, S_len, List.length_append, List.length_take, List.length_drop, List.length_singleton]; omega) HB2.out.size ?_
           intro v3 w3 hown3 hg3
           have HN3 := Lib.hid (putS_third hown3 HP.out)
           have HB3 := Lib.hid (HB2.out.trans (below_own HN2.out hg3 HB2.out.size))
           clear hown3 hg3))
      go_ret
      exact ⟨_, rfl, HN3.out, HB3.out⟩

/-- A store by value: three slices. -/
def StoreV (w : World) (v : Value) (s : StoreT) : Prop := ∃ vf vs vg, v = .agg #[vf, vs, vg] ∧ RowF w vf s.files ∧ RowF w vs s.staged ∧ RowV w vg (S s.gone)
theorem StoreV.below {w w' : World} {v : Value} {s : StoreT} (h : StoreV w v s) (hb : Below w.heap.size w w') : StoreV w' v s := by
  obtain ⟨vf, vs, vg, hv, h1, h2, h3⟩ := h
  exact ⟨vf, vs, vg, hv, h1.below hb, h2.below hb, h3.below hb⟩

theorem fold_put {l : List FileT} {cur : List FileT} {s : StoreT} {k : Nat} (hk : k < s.staged.length) (h : cur = (s.staged.take k).foldl putF s.files) : putF cur s.staged[k] = (s.staged.take (k + 1)).foldl putF s.files := by
  rw [List.take_succ_eq_append_getElem hk, List.foldl_append, ← h]; rfl
theorem fold_drop {m cur : List FileT} {s : StoreT} {k : Nat} (hk : k < s.gone.length) (h : cur = (s.gone.take k).foldl dropF m) : dropF cur s.gone[k] = (s.gone.take (k + 1)).foldl dropF m := by
  rw [List.take_succ_eq_append_getElem hk, List.foldl_append, ← h]; rfl

set_option maxRecDepth 20000 in
set_option maxHeartbeats 4000000 in
theorem l3Taken_any (s : StoreT) (v : Value) (w : World) (hst : StoreV w v s) (hl : s.files.length ≤ 100) (hl2 : s.staged.length ≤ 100) (hl3 : s.gone.length ≤ 100) :
    Calls Tryz.prog 53 #[v] w (FilesPost (takenF s) w) := by
  obtain ⟨vf, vs, vg, rfl, h1, h2, h3⟩ := hst
  have H1 := Lib.hid h1
  have H2 := Lib.hid h2
  have H3 := Lib.hid h3
  obtain ⟨af, cf, rfl, hf1, hf2, _⟩ := h1.files
  obtain ⟨a2, cs, rfl, hs1, hs2, hats⟩ := h2.files
  obtain ⟨ag, cg, rfl, hg1, hg2, hatg⟩ := h3.texts
  clear h1 h2 h3
  unfold maxLen at hf2 hs2 hg2
  go_enter Tryz.func53, Tryz.ntmps53
  obtain ⟨wa, hwa⟩ : ∃ wa, wa = w.alloc (.cells #[.slice af s.files.length cf, .slice a2 s.staged.length cs, .slice ag s.gone.length cg] 26) := ⟨_, rfl⟩
  have c1 : wa.cell? ⟨w.heap.size, 1, none⟩ = some (.slice a2 s.staged.length cs) := by rw [hwa]; simp
  have c2 : wa.cell? ⟨w.heap.size, 2, none⟩ = some (.slice ag s.gone.length cg) := by rw [hwa]; simp
  have HA : Hid (Below w.heap.size w wa) := by rw [hwa]; exact (Below.refl w.heap.size w).alloc (Nat.le_refl _) _
  have hsz : wa.heap.size = w.heap.size + 1 := by rw [hwa]; simp
  have HWA := Lib.hid hwa
  clear hwa
  go_wp2_with (at_builtin; rw [← HWA.out]; refine wpAppRowG elemF rfl _ _ rfl wa.heap.size _ 0 s.files.length [] (FC s.files) _ rfl (by rw [hsz]; exact hsz ▸ lit_nil wa) rfl ((H1.out.below HA.out).alloc _) (FC_one _) (by omega) (by simp) ?_; intro v1 w1 hown1 hg1; have HN1 := Lib.hid (own_eq hown1 (Nat.zero_add _) (List.nil_append _)); have HB1 := Lib.hid (((Below.refl _ wa).alloc (Nat.le_refl _) _).trans (below_ownG (lit_nil wa) (hsz ▸ hg1) (by simp))); have d1 : w1.cell? ⟨w.heap.size, 1, none⟩ = some (.slice a2 s.staged.length cs) := (HB1.out.cell (p := ⟨w.heap.size, 1, none⟩) (by show w.heap.size < wa.heap.size; omega)).trans c1; clear hown1 hg1)
  have hlen : s.files.length ≤ 100 := hl
  go_loopw [3, 15] (fun u i wr => ∃ (cur : List FileT) (k : Nat), k ≤ s.staged.length ∧ cur.length ≤ s.files.length + k ∧ i = .int .i64 k ∧ Hid (wr.ownsRow wa.heap.size 45 2 u cur.length (FC cur)) ∧ Hid (Below wa.heap.size wa wr) ∧ Hid (cur = (s.staged.take k).foldl putF s.files)) (fun _ i _ => s.staged.length - (intOf i).toNat)
  case atStart => exact ⟨s.files, 0, Nat.zero_le _, by omega, rfl, HN1, HB1, rfl⟩
  case round =>
    clear HN1 HB1 d1
    obtain ⟨cur, k, hk, hcl, rfl, HN, HB, HO⟩ := hrel
    have HW := Lib.hid (HA.out.trans (HB.out.mono HA.out.size))
    have hbs := HB.out.size
    by_cases hlt : k < s.staged.length
    · obtain ⟨g, o, rfl, hg, hcell1, hcell2⟩ := hats k hlt
      have hc1' : wr.cell? ⟨g, o + k * 2, none⟩ = some (.string ⟨(s.staged[k]).1.toArray⟩) := by rw [HW.out.cell (p := ⟨g, o + k * 2, none⟩) hg]; exact hcell1
      have hc2' : wr.cell? ⟨g, o + k * 2 + 1, none⟩ = some (.string ⟨(s.staged[k]).2.toArray⟩) := by rw [HW.out.cell (p := ⟨g, o + k * 2 + 1, none⟩) hg]; exact hcell2
      have HR := Lib.hid (fold_put (l := []) hlt HO.out)
      have hpl := putF_len cur s.staged[k]
      have epair : s.staged[k] = (s.staged[k].1, s.staged[k].2) := rfl
      rw [epair] at HR hpl
      generalize s.staged[k].1 = x at hc1' HR hpl
      generalize s.staged[k].2 = y at hc2' HR hpl
      clear HO epair hcell1 hcell2 hats hatg
      go_wp2_with fail
      refine (l3Put_any cur x y _ _ ((RowF.of_own HN.out).alloc _) (by omega)).mono ?_
      rintro e w5 ⟨v5, rfl, hown5, hb5⟩
      have HB5 := Lib.hid ((HB.out.alloc hbs _).trans (hb5.mono (by simp; omega)))
      have HN5 := Lib.hid (own_baseG hown5 (by simp; omega) : w5.ownsRow wa.heap.size 45 2 v5 (putF cur (x, y)).length (FC (putF cur (x, y))))
      clear hown5 hb5
      go_wp2_with fail
      go_roundw
      case rel => exact ⟨_, k + 1, by omega, by omega, by go_num, HN5, HB5, HR⟩
      case measure => simp [intOf]; omega
    · have HM : Hid (cur = s.staged.foldl putF s.files) := by have := HO.out; rw [List.take_of_length_le (by omega)] at this; exact this
      have d2 : wr.cell? ⟨w.heap.size, 2, none⟩ = some (.slice ag s.gone.length cg) := (HB.out.cell (p := ⟨w.heap.size, 2, none⟩) (by show w.heap.size < wa.heap.size; omega)).trans c2
      clear HO hats
      go_wp2_with fail
      go_loopw [3, 26] (fun u i wr => ∃ (cu : List FileT) (k : Nat), k ≤ s.gone.length ∧ cu.length ≤ cur.length ∧ i = .int .i64 k ∧ Hid (wr.ownsRow wa.heap.size 45 2 u cu.length (FC cu)) ∧ Hid (Below wa.heap.size wa wr) ∧ Hid (cu = (s.gone.take k).foldl dropF cur)) (fun _ i _ => s.gone.length - (intOf i).toNat)
      case atStart => exact ⟨cur, 0, Nat.zero_le _, by omega, rfl, HN, HB, rfl⟩
      case round =>
        clear HN HB d2 HW hbs
        obtain ⟨cu, k, hk, hcul, rfl, HN, HB, HO⟩ := hrel
        have HW := Lib.hid (HA.out.trans (HB.out.mono HA.out.size))
        by_cases hlt : k < s.gone.length
        · obtain ⟨g, o, rfl, hg, hcell1⟩ := hatg k hlt
          have hc1' := (HW.out.cell (p := ⟨g, o + k, none⟩) hg).trans hcell1
          have HR := Lib.hid (fold_drop hlt HO.out)
          have hpl := dropF_len cu s.gone[k]
          generalize s.gone[k] = x at hc1' HR hpl
          clear HO hcell1 hatg
          go_wp2_with fail
          refine (l3Drop_any cu x _ _ (RowF.of_own HN.out) (by omega)).mono ?_
          rintro e w5 ⟨v5, rfl, hown5, hb5⟩
          have HB5 := Lib.hid (HB.out.trans (hb5.mono HB.out.size))
          have HN5 := Lib.hid (own_baseG hown5 HB.out.size)
          clear hown5 hb5
          go_wp2_with fail
          go_roundw
          case rel => exact ⟨_, k + 1, by omega, by omega, by go_num, HN5, HB5, HR⟩
          case measure => simp [intOf]; omega
        · have HE : Hid (cu = takenF s) := by
            have := HO.out
            rw [List.take_of_length_le (by omega), HM.out] at this
            exact this
          clear HO hatg
          go_wp2_with fail
          go_ret
          exact ⟨_, rfl, by rw [← HE.out]; exact own_baseG HN.out HA.out.size, HW.out⟩

end Go.Proofs.YtoahfhidekmodaaGreatDoor

/- Walks: good stores (the reference). -/
namespace Go.Proofs.YtoahfhidekmodaaGreatDoor
open Go.RowKit Pth

theorem goodFiles_l {b : Bool} {l : List FileT} {v : Value} (hx : ∀ f ∈ l, f.1.length ≤ maxLen ∧ f.2.length ≤ maxLen) (h : goodF l = b) : ∀ w, RowF w v l → Calls Tryz.prog 32 #[v] w (BoolPost b w) := fun w hr => by
  have := specGoodFiles_any l v w hr hx
  rwa [h] at this
def goneOkTo (s : StoreT) (k : Nat) : Bool := (s.gone.take k).all (fun n => nameOk n && decide (findF s.staged n = -1)) && riseN (s.gone.take k)
theorem gone_next {s : StoreT} {k : Nat} (hk : k < s.gone.length) (h : goneOkTo s k = true) (h1 : nameOk s.gone[k] = true) (h2 : findF s.staged s.gone[k] = -1) (h3 : ∀ _ : 0 < k, ltT s.gone[k - 1] s.gone[k] = true) : goneOkTo s (k + 1) = true := by
  rw [goneOkTo, Bool.and_eq_true] at h ⊢
  refine ⟨?_, riseN_next hk h.2 h3⟩
  rw [List.take_succ_eq_append_getElem hk, List.all_append, h.1]
  simp [h1, h2]
theorem gone_bad {s : StoreT} {k : Nat} (hk : k < s.gone.length) (h : nameOk s.gone[k] = false ∨ ¬ findF s.staged s.gone[k] = -1 ∨ ∃ h0 : 0 < k, ltT s.gone[k - 1] s.gone[k] = false) : goodS s = false := by
  have : goneOk s = false := by
    rw [goneOk]
    rcases h with h | h | ⟨h0, h⟩
    · have : s.gone.all (fun n => nameOk n && decide (findF s.staged n = -1)) = false := by
        rw [List.all_eq_false]; exact ⟨s.gone[k], List.getElem_mem hk, by rw [h]; simp⟩
      rw [this]; rfl
    · have : s.gone.all (fun n => nameOk n && decide (findF s.staged n = -1)) = false := by
        rw [List.all_eq_false]; exact ⟨s.gone[k], List.getElem_mem hk, by rw [decide_eq_false h]; simp⟩
      rw [this]; rfl
    · rw [riseN_fall hk h0 h]; simp
  rw [goodS, this]; simp
theorem gone_end {s : StoreT} {k : Nat} (hk : s.gone.length ≤ k) (h : goneOkTo s k = true) : goneOk s = true := by
  rw [goneOkTo, List.take_of_length_le hk] at h
  exact h
theorem foldl_put_len (l : List FileT) (m : List FileT) : (l.foldl putF m).length ≤ m.length + l.length := by
  induction l generalizing m with
  | nil => simp
  | cons f t ih => rw [List.foldl_cons]; have h1 := ih (putF m f); have h2 := putF_len m f; simp only [List.length_cons]; omega
theorem mem_putF {l : List FileT} {f g : FileT} (h : g ∈ putF l f) : g = f ∨ g ∈ l := by
  induction l with
  | nil => simp [putF] at h; exact .inl h
  | cons x t ih =>
    unfold putF at h
    split at h
    · rcases List.mem_cons.1 h with rfl | h
      · exact .inr (by simp)
      · rcases ih h with h | h
        · exact .inl h
        · exact .inr (by simp [h])
    · split at h
      · rcases List.mem_cons.1 h with rfl | h
        · exact .inl rfl
        · exact .inr (by simp [h])
      · rcases List.mem_cons.1 h with rfl | h
        · exact .inl rfl
        · exact .inr h
theorem mem_foldl_put {l m : List FileT} {g : FileT} (h : g ∈ l.foldl putF m) : g ∈ l ∨ g ∈ m := by
  induction l generalizing m with
  | nil => exact .inr h
  | cons f t ih =>
    rw [List.foldl_cons] at h
    rcases ih h with h | h
    · exact .inl (by simp [h])
    · rcases mem_putF h with rfl | h
      · exact .inl (by simp)
      · exact .inr h
theorem mem_foldl_drop {l : List (List UInt8)} {m : List FileT} {g : FileT} (h : g ∈ l.foldl dropF m) : g ∈ m := by
  induction l generalizing m with
  | nil => exact h
  | cons n t ih =>
    rw [List.foldl_cons] at h
    have := ih h
    rw [dropF, List.mem_filter] at this
    exact this.1
theorem mem_taken {s : StoreT} {g : FileT} (h : g ∈ takenF s) : g ∈ s.staged ∨ g ∈ s.files := mem_foldl_put (mem_foldl_drop h)
theorem good_len {l : List FileT} (h : goodF l = true) : l.length ≤ 12 := by
  simp only [goodF, Bool.and_eq_true, decide_eq_true_iff] at h
  exact h.2.2

/-- No text of the store is longer than a text can be. -/
def Fits (s : StoreT) : Prop := (∀ f ∈ s.files, f.1.length ≤ maxLen ∧ f.2.length ≤ maxLen) ∧ (∀ f ∈ s.staged, f.1.length ≤ maxLen ∧ f.2.length ≤ maxLen) ∧ ∀ n ∈ s.gone, n.length ≤ maxLen

set_option maxRecDepth 20000 in
set_option maxHeartbeats 8000000 in
theorem specGoodStore_any (s : StoreT) (v : Value) (w : World) (hst : StoreV w v s) (hx : Fits s) :
    Calls Tryz.prog 14 #[v] w (BoolPost (goodS s) w) := by
  have HST := Lib.hid hst
  obtain ⟨vf, vs, vg, rfl, h1, h2, h3⟩ := hst
  have H1 := Lib.hid h1
  have H2 := Lib.hid h2
  have H3 := Lib.hid h3
  obtain ⟨af, cf, rfl, hf1, hf2, _⟩ := h1.files
  obtain ⟨a2, cs, rfl, hs1, hs2, _⟩ := h2.files
  obtain ⟨ag, cg, rfl, hg1, hg2, hatg⟩ := h3.texts
  clear h1 h2 h3
  obtain ⟨hx1, hx2, hx3⟩ := hx
  have HX1 := Lib.hid hx1
  have HX2 := Lib.hid hx2
  have HX3 := Lib.hid hx3
  clear hx1 hx2 hx3
  unfold maxLen at hf2 hs2 hg2
  obtain ⟨wa, hwa⟩ : ∃ wa, wa = w.alloc (.cells #[.slice af s.files.length cf, .slice a2 s.staged.length cs, .slice ag s.gone.length cg] 26) := ⟨_, rfl⟩
  have c0 : wa.cell? ⟨w.heap.size, 0, none⟩ = some (.slice af s.files.length cf) := by rw [hwa]; simp
  have c1 : wa.cell? ⟨w.heap.size, 1, none⟩ = some (.slice a2 s.staged.length cs) := by rw [hwa]; simp
  have c2 : wa.cell? ⟨w.heap.size, 2, none⟩ = some (.slice ag s.gone.length cg) := by rw [hwa]; simp
  have HA : Hid (Below w.heap.size w wa) := by rw [hwa]; exact (Below.refl w.heap.size w).alloc (Nat.le_refl _) _
  have hsz : wa.heap.size = w.heap.size + 1 := by rw [hwa]; simp
  have HWA := Lib.hid hwa
  clear hwa
  rcases e1 : goodF s.files with _ | _
  · have HT : Hid (goodS s = false) := by rw [goodS, e1]; rfl
    have G1 := Lib.hid (goodFiles_l (v := .slice af s.files.length cf) HX1.out e1)
    clear e1 hatg
    go_enter Tryz.func14, Tryz.ntmps14
    go_wp2_with fail
    rw [← HWA.out]
    refine (G1.out wa (H1.out.below HA.out)).mono ?_
    rintro e w1 ⟨rfl, hb1⟩
    have HB1 := Lib.hid hb1
    clear hb1
    go_wp2_with fail
    go_ret
    exact ⟨ret_bool HT.out.symm, HA.out.trans (HB1.out.mono HA.out.size)⟩
  · have G1 := Lib.hid (goodFiles_l (v := .slice af s.files.length cf) HX1.out e1)
    rcases e2 : goodF s.staged with _ | _
    · have HT : Hid (goodS s = false) := by rw [goodS, e2]; simp [Hid]
      have G2 := Lib.hid (goodFiles_l (v := .slice a2 s.staged.length cs) HX2.out e2)
      clear e1 e2 hatg
      go_enter Tryz.func14, Tryz.ntmps14
      go_wp2_with fail
      rw [← HWA.out]
      refine (G1.out wa (H1.out.below HA.out)).mono ?_
      rintro e w1 ⟨rfl, hb1⟩
      have HB1 := Lib.hid hb1
      clear hb1
      have d1 : w1.cell? ⟨w.heap.size, 1, none⟩ = some (.slice a2 s.staged.length cs) := (HB1.out.cell (p := ⟨w.heap.size, 1, none⟩) (by show w.heap.size < wa.heap.size; omega)).trans c1
      go_wp2_with fail
      refine (G2.out w1 (H2.out.below (HA.out.trans (HB1.out.mono HA.out.size)))).mono ?_
      rintro e w2 ⟨rfl, hb2⟩
      have HB2 := Lib.hid (HB1.out.trans (hb2.mono HB1.out.size))
      clear hb2 HB1
      go_wp2_with fail
      go_ret
      exact ⟨ret_bool HT.out.symm, HA.out.trans (HB2.out.mono HA.out.size)⟩
    · have G2 := Lib.hid (goodFiles_l (v := .slice a2 s.staged.length cs) HX2.out e2)
      by_cases e3 : 12 < s.gone.length
      · have HT : Hid (goodS s = false) := by rw [goodS, decide_eq_false (by omega : ¬ s.gone.length ≤ 12)]; simp [Hid]
        have e3' : decide ((12 : Int) < (s.gone.length : Int)) = true := decide_eq_true (by omega)
        clear e1 e2 hatg
        go_enter Tryz.func14, Tryz.ntmps14
        go_wp2_with fail
        rw [← HWA.out]
        refine (G1.out wa (H1.out.below HA.out)).mono ?_
        rintro e w1 ⟨rfl, hb1⟩
        have HB1 := Lib.hid hb1
        clear hb1
        have d1 : w1.cell? ⟨w.heap.size, 1, none⟩ = some (.slice a2 s.staged.length cs) := (HB1.out.cell (p := ⟨w.heap.size, 1, none⟩) (by show w.heap.size < wa.heap.size; omega)).trans c1
        go_wp2_with fail
        refine (G2.out w1 (H2.out.below (HA.out.trans (HB1.out.mono HA.out.size)))).mono ?_
        rintro e w2 ⟨rfl, hb2⟩
        have HB2 := Lib.hid (HB1.out.trans (hb2.mono HB1.out.size))
        clear hb2 HB1
        have d2 : w2.cell? ⟨w.heap.size, 2, none⟩ = some (.slice ag s.gone.length cg) := (HB2.out.cell (p := ⟨w.heap.size, 2, none⟩) (by show w.heap.size < wa.heap.size; omega)).trans c2
        go_wp2_with fail
        go_ret
        exact ⟨ret_bool HT.out.symm, HA.out.trans (HB2.out.mono HA.out.size)⟩
      · have HT0 : Hid (goneOk s = true → goodS s = goodF (takenF s)) := fun h => by rw [goodS, e1, e2, h, decide_eq_true (by omega : s.gone.length ≤ 12)]; rfl
        have e3' : decide ((12 : Int) < (s.gone.length : Int)) = false := decide_eq_false (by omega)
        have hl1 := good_len e1
        have hl2 := good_len e2
        clear e1 e2
        go_enter Tryz.func14, Tryz.ntmps14
        go_wp2_with fail
        rw [← HWA.out]
        refine (G1.out wa (H1.out.below HA.out)).mono ?_
        rintro e w1 ⟨rfl, hb1⟩
        have HB1 := Lib.hid hb1
        clear hb1
        have d1 : w1.cell? ⟨w.heap.size, 1, none⟩ = some (.slice a2 s.staged.length cs) := (HB1.out.cell (p := ⟨w.heap.size, 1, none⟩) (by show w.heap.size < wa.heap.size; omega)).trans c1
        go_wp2_with fail
        refine (G2.out w1 (H2.out.below (HA.out.trans (HB1.out.mono HA.out.size)))).mono ?_
        rintro e w2 ⟨rfl, hb2⟩
        have HB2 := Lib.hid (HB1.out.trans (hb2.mono HB1.out.size))
        clear hb2 HB1
        have d2 : w2.cell? ⟨w.heap.size, 2, none⟩ = some (.slice ag s.gone.length cg) := (HB2.out.cell (p := ⟨w.heap.size, 2, none⟩) (by show w.heap.size < wa.heap.size; omega)).trans c2
        go_wp2_with fail
        go_loopw [24] (fun i wr => ∃ k : Nat, k ≤ s.gone.length ∧ i = .int .i64 k ∧ Hid (Below wa.heap.size wa wr) ∧ Hid (goneOkTo s k = true)) (fun i _ => s.gone.length - (intOf i).toNat)
        case atStart => exact ⟨0, Nat.zero_le _, rfl, HB2, by simp [Hid, goneOkTo, riseN]⟩
        case round =>
          clear HB2 d1 d2
          obtain ⟨k, hk, rfl, HB, HO⟩ := hrel
          have HW := Lib.hid (HA.out.trans (HB.out.mono HA.out.size))
          by_cases hlt : k < s.gone.length
          · obtain ⟨g, o, rfl, hg, hcell1⟩ := hatg k hlt
            have hc1' := (HW.out.cell (p := ⟨g, o + k, none⟩) hg).trans hcell1
            have hxk := HX3.out s.gone[k] (List.getElem_mem hlt)
            rcases en : nameOk s.gone[k] with _ | _
            · have HT := Lib.hid (gone_bad hlt (.inl en))
              have HC := Lib.hid (name_l _ hxk en)
              generalize s.gone[k] = x at hc1' HC hxk
              clear HO hcell1 hatg en
              go_wp2_with fail
              refine (HC.out wr).mono ?_
              rintro e w3 ⟨rfl, hb3⟩
              have HB3 := Lib.hid (HB.out.trans (hb3.mono HB.out.size))
              clear hb3
              go_wp2_with fail
              go_ret
              exact ⟨ret_bool HT.out.symm, HA.out.trans (HB3.out.mono HA.out.size)⟩
            · have HC := Lib.hid (name_l _ hxk en)
              by_cases h0 : 0 < k
              · have hk0 : decide ((0 : Int) < (k : Int)) = true := decide_eq_true (by omega)
                obtain ⟨g', o', hA, _, hp1⟩ := hatg (k - 1) (by omega)
                obtain ⟨rfl, rfl⟩ := addr_inj hA
                rcases hz : ltT s.gone[k - 1] s.gone[k] with _ | _
                · have HT := Lib.hid (gone_bad hlt (.inr (.inr ⟨h0, hz⟩)))
                  have hz1 : Op.bytesLess s.gone[k - 1] s.gone[k] = false := hz
                  generalize s.gone[k - 1] = z at hp1 hz hz1
                  generalize s.gone[k] = x at hc1' HC hxk hz1
                  clear HO hcell1 hatg en hz hA
                  go_wp2_with fail
                  refine (HC.out wr).mono ?_
                  rintro e w3 ⟨rfl, hb3⟩
                  have HB3 := Lib.hid (HB.out.trans (hb3.mono HB.out.size))
                  have HW3 := Lib.hid (HA.out.trans (HB3.out.mono HA.out.size))
                  have d2 : w3.cell? ⟨w.heap.size, 2, none⟩ = some (.slice (some ⟨g, o, none⟩) s.gone.length cg) := (HB3.out.cell (p := ⟨w.heap.size, 2, none⟩) (by show w.heap.size < wa.heap.size; omega)).trans c2
                  have hpw := (HW3.out.cell (p := ⟨g, o + (k - 1), none⟩) hg).trans hp1
                  clear hb3
                  go_wp2_with fail
                  go_ret
                  exact ⟨ret_bool HT.out.symm, HW3.out⟩
                · have hz1 : Op.bytesLess s.gone[k - 1] s.gone[k] = true := hz
                  have HF := l3Find_any s.staged s.gone[k] (.slice a2 s.staged.length cs)
                  by_cases ef : findF s.staged s.gone[k] = -1
                  · have HO2 := Lib.hid (gone_next hlt HO.out en ef (fun _ => hz))
                    rw [ef] at HF
                    have HFF := Lib.hid HF
                    generalize s.gone[k - 1] = z at hp1 hz hz1
                    generalize s.gone[k] = x at hc1' HC hxk hz1 HFF
                    clear HO hcell1 hatg en hz hA HF ef
                    go_wp2_with fail
                    refine (HC.out wr).mono ?_
                    rintro e w3 ⟨rfl, hb3⟩
                    have HB3 := Lib.hid (HB.out.trans (hb3.mono HB.out.size))
                    have HW3 := Lib.hid (HA.out.trans (HB3.out.mono HA.out.size))
                    have d2 : w3.cell? ⟨w.heap.size, 2, none⟩ = some (.slice (some ⟨g, o, none⟩) s.gone.length cg) := (HB3.out.cell (p := ⟨w.heap.size, 2, none⟩) (by show w.heap.size < wa.heap.size; omega)).trans c2
                    have d1 : w3.cell? ⟨w.heap.size, 1, none⟩ = some (.slice a2 s.staged.length cs) := (HB3.out.cell (p := ⟨w.heap.size, 1, none⟩) (by show w.heap.size < wa.heap.size; omega)).trans c1
                    have hpw := (HW3.out.cell (p := ⟨g, o + (k - 1), none⟩) hg).trans hp1
                    clear hb3
                    go_wp2_with fail
                    refine (HFF.out w3 (H2.out.below HW3.out)).mono ?_
                    rintro e w4 ⟨rfl, hb4⟩
                    have HB4 := Lib.hid (HB3.out.trans (hb4.mono HB3.out.size))
                    clear hb4
                    go_wp2_with fail
                    go_roundw
                    case rel => exact ⟨k + 1, by omega, by go_num, HB4, HO2⟩
                    case measure => simp [intOf]; omega
                  · have HT := Lib.hid (gone_bad hlt (.inr (.inl ef)))
                    have hfr := find_range s.staged s.gone[k]
                    have HFF := Lib.hid HF
                    generalize findF s.staged s.gone[k] = fi at HFF ef hfr
                    have hf0 : decide (fi ≥ 0) = true := decide_eq_true (by omega)
                    have hf0' : decide (0 ≤ fi) = true := decide_eq_true (by omega)
                    generalize s.gone[k - 1] = z at hp1 hz hz1
                    generalize s.gone[k] = x at hc1' HC hxk hz1 HFF
                    clear HO hcell1 hatg en hz hA HF ef
                    go_wp2_with fail
                    refine (HC.out wr).mono ?_
                    rintro e w3 ⟨rfl, hb3⟩
                    have HB3 := Lib.hid (HB.out.trans (hb3.mono HB.out.size))
                    have HW3 := Lib.hid (HA.out.trans (HB3.out.mono HA.out.size))
                    have d2 : w3.cell? ⟨w.heap.size, 2, none⟩ = some (.slice (some ⟨g, o, none⟩) s.gone.length cg) := (HB3.out.cell (p := ⟨w.heap.size, 2, none⟩) (by show w.heap.size < wa.heap.size; omega)).trans c2
                    have d1 : w3.cell? ⟨w.heap.size, 1, none⟩ = some (.slice a2 s.staged.length cs) := (HB3.out.cell (p := ⟨w.heap.size, 1, none⟩) (by show w.heap.size < wa.heap.size; omega)).trans c1
                    have hpw := (HW3.out.cell (p := ⟨g, o + (k - 1), none⟩) hg).trans hp1
                    clear hb3
                    go_wp2_with fail
                    refine (HFF.out w3 (H2.out.below HW3.out)).mono ?_
                    rintro e w4 ⟨rfl, hb4⟩
                    have HB4 := Lib.hid (HB3.out.trans (hb4.mono HB3.out.size))
                    clear hb4
                    go_wp2_with fail
                    go_ret
                    exact ⟨ret_bool HT.out.symm, HA.out.trans (HB4.out.mono HA.out.size)⟩
              · have hk0 : decide ((0 : Int) < (k : Int)) = false := decide_eq_false (by omega)
                have HF := l3Find_any s.staged s.gone[k] (.slice a2 s.staged.length cs)
                by_cases ef : findF s.staged s.gone[k] = -1
                · have HO2 := Lib.hid (gone_next hlt HO.out en ef (fun h => absurd h h0))
                  rw [ef] at HF
                  have HFF := Lib.hid HF
                  generalize s.gone[k] = x at hc1' HC hxk HFF
                  clear HO hcell1 hatg en HF ef
                  go_wp2_with fail
                  refine (HC.out wr).mono ?_
                  rintro e w3 ⟨rfl, hb3⟩
                  have HB3 := Lib.hid (HB.out.trans (hb3.mono HB.out.size))
                  have HW3 := Lib.hid (HA.out.trans (HB3.out.mono HA.out.size))
                  have d1 : w3.cell? ⟨w.heap.size, 1, none⟩ = some (.slice a2 s.staged.length cs) := (HB3.out.cell (p := ⟨w.heap.size, 1, none⟩) (by show w.heap.size < wa.heap.size; omega)).trans c1
                  clear hb3
                  go_wp2_with fail
                  refine (HFF.out w3 (H2.out.below HW3.out)).mono ?_
                  rintro e w4 ⟨rfl, hb4⟩
                  have HB4 := Lib.hid (HB3.out.trans (hb4.mono HB3.out.size))
                  clear hb4
                  go_wp2_with fail
                  go_roundw
                  case rel => exact ⟨k + 1, by omega, by go_num, HB4, HO2⟩
                  case measure => simp [intOf]; omega
                · have HT := Lib.hid (gone_bad hlt (.inr (.inl ef)))
                  have hfr := find_range s.staged s.gone[k]
                  have HFF := Lib.hid HF
                  generalize findF s.staged s.gone[k] = fi at HFF ef hfr
                  have hf0 : decide (fi ≥ 0) = true := decide_eq_true (by omega)
                  have hf0' : decide (0 ≤ fi) = true := decide_eq_true (by omega)
                  generalize s.gone[k] = x at hc1' HC hxk HFF
                  clear HO hcell1 hatg en HF ef
                  go_wp2_with fail
                  refine (HC.out wr).mono ?_
                  rintro e w3 ⟨rfl, hb3⟩
                  have HB3 := Lib.hid (HB.out.trans (hb3.mono HB.out.size))
                  have HW3 := Lib.hid (HA.out.trans (HB3.out.mono HA.out.size))
                  have d1 : w3.cell? ⟨w.heap.size, 1, none⟩ = some (.slice a2 s.staged.length cs) := (HB3.out.cell (p := ⟨w.heap.size, 1, none⟩) (by show w.heap.size < wa.heap.size; omega)).trans c1
                  clear hb3
                  go_wp2_with fail
                  refine (HFF.out w3 (H2.out.below HW3.out)).mono ?_
                  rintro e w4 ⟨rfl, hb4⟩
                  have HB4 := Lib.hid (HB3.out.trans (hb4.mono HB3.out.size))
                  clear hb4
                  go_wp2_with fail
                  go_ret
                  exact ⟨ret_bool HT.out.symm, HA.out.trans (HB4.out.mono HA.out.size)⟩
          · have HT := Lib.hid (HT0.out (gone_end (by omega) HO.out))
            have G3 := Lib.hid (fun (v : Value) W hr => specGoodFiles_any (takenF s) v W hr (fun f hf => by rcases mem_taken hf with h | h; exact HX2.out f h; exact HX1.out f h))
            have e0 := (HB.out.cell (p := ⟨w.heap.size, 0, none⟩) (by show w.heap.size < wa.heap.size; omega)).trans c0
            have e1 := (HB.out.cell (p := ⟨w.heap.size, 1, none⟩) (by show w.heap.size < wa.heap.size; omega)).trans c1
            have e2 := (HB.out.cell (p := ⟨w.heap.size, 2, none⟩) (by show w.heap.size < wa.heap.size; omega)).trans c2
            clear HO hatg HT0
            go_wp2_with fail
            refine (l3Taken_any s _ wr (HST.out.below HW.out) (by omega) (by omega) (by omega)).mono ?_
            rintro e w3 ⟨v3, rfl, hown3, hb3⟩
            have HB3 := Lib.hid (HW.out.trans (hb3.mono HW.out.size))
            have HN3 := Lib.hid hown3
            clear hown3 hb3
            go_wp2_with fail
            refine (G3.out v3 w3 (RowF.of_own HN3.out)).mono ?_
            rintro e w4 ⟨rfl, hb4⟩
            have HB4 := Lib.hid (HB3.out.trans (hb4.mono HB3.out.size))
            clear hb4
            go_wp2_with fail
            go_ret
            exact ⟨ret_bool HT.out.symm, HB4.out⟩

end Go.Proofs.YtoahfhidekmodaaGreatDoor

/- Walks: the tests on a path's bytes, both programs'. -/
namespace Go.Proofs.YtoahfhidekmodaaGreatDoor.D1
open Go.RowKit Pth

theorem ret_bool {a b : Bool} (h : a = b) : Ending.returned (.bool a) = .returned (.bool b) := by rw [h]

set_option maxHeartbeats 400000 in
theorem isPathRune_any (c : Int) (w : World) :
    Calls Tryz.prog 132 #[.int .i32 c] w fun e w' => e = .returned (.bool (pb c)) ∧ w = w' := by
  go_enter Tryz.func132, Tryz.ntmps132
  go_wp2
  all_goals
    go_ret
    exact ⟨ret_bool (by rw [Bool.eq_iff_iff]; simp [pb] <;> omega), rfl⟩

set_option maxHeartbeats 400000 in
theorem l1Rooted_any (s : ByteArray) (w : World) (hs : s.size ≤ maxLen) :
    Calls Tryz.prog 94 #[.string s] w fun e w' => e = .returned (.bool (rootedL s.data.toList)) ∧ w = w' := by
  unfold maxLen at hs
  by_cases h0 : 0 < s.size
  · have hr := rooted_pos h0
    have HR : Hid (rootedL s.data.toList = ((s[0].toNat : Int) == 47)) := hr
    clear hr
    go_enter Tryz.func94, Tryz.ntmps94
    go_wp2
    all_goals
      go_ret
      exact ⟨ret_bool (by rw [HR.out]), rfl⟩
  · have HR : Hid (rootedL s.data.toList = false) := rooted_nil (by omega)
    go_enter Tryz.func94, Tryz.ntmps94
    go_wp2
    all_goals
      go_ret
      exact ⟨ret_bool (by rw [HR.out]), rfl⟩

set_option maxHeartbeats 1000000 in
theorem l1Path_any (s : ByteArray) (w : World) (hs : s.size ≤ maxLen) :
    Calls Tryz.prog 80 #[.string s] w fun e w' => e = .returned (.bool (pathL s.data.toList)) ∧ w = w' := by
  unfold maxLen at hs
  go_enter Tryz.func80, Tryz.ntmps80
  go_wp2
  go_loop [3] (fun i => ∃ k : Nat, k ≤ s.size ∧ i = .int .i64 k ∧ Hid (okL (s.data.toList.take k) = true)) (fun i => s.size - (intOf i).toNat)
  case atStart => exact ⟨0, Nat.zero_le _, rfl, rfl⟩
  case round =>
    obtain ⟨k, hk, rfl, HO⟩ := hrel
    by_cases hlt : k < s.size
    · go_wp2
      all_goals first
        | (go_round
           case rel => exact ⟨k + 1, by omega, by go_num, okL_next hlt HO.out (by clear HO; go_light; simp_all [pb] <;> omega)⟩
           case measure => simp [intOf]; omega)
        | (go_ret
           exact ⟨ret_bool (pathL_false k hlt (by clear HO; go_light; simp_all [pb] <;> omega)).symm, rfl⟩)
    · go_wp2
      go_ret
      exact ⟨ret_bool (by rw [pathL_end (k := k) (by omega) HO.out]; go_num), rfl⟩

end Go.Proofs.YtoahfhidekmodaaGreatDoor.D1

/- The library's contracts that the walks use, at this program: each an application of the shelf's; each structure's fields are facts of the loaded program. -/
namespace Go.Proofs
open Go.Shelf Go.RowKit
def Tryz.lays169_ren : Go.Shelf.Ren := ⟨fun | 169 => 135 | n => n, fun | 70 => 143 | 9 => 9 | 0 => 0 | 72 => 145 | 37 => 22 | 127 => 123 | 3 => 3 | 5 => 5 | n => n, fun | n => n⟩
theorem Tryz.lays169 : Go.Proofs.Lays.n169 Tryz.prog Tryz.lays169_ren := {
  mixed := by kernel_rfl
  f169 := Tryz.func135.trans (congrArg some (by kernel_rfl))
  t0 := Tryz.underlying0
  a0 := Tryz.isAgg0
  z0 := Tryz.sizeOf0
  v0 := Tryz.zeroValue0
  t3 := Tryz.underlying3
  a3 := Tryz.isAgg3
  z3 := Tryz.sizeOf3
  v3 := Tryz.zeroValue3
  t9 := Tryz.underlying9
  a9 := Tryz.isAgg9
  z9 := Tryz.sizeOf9
  v9 := Tryz.zeroValue9
  t37 := Tryz.underlying22
  a37 := Tryz.isAgg22
  z37 := Tryz.sizeOf22
  v37 := Tryz.zeroValue22
  t70 := Tryz.underlying143
  a70 := Tryz.isAgg143
  z70 := Tryz.sizeOf143
  v70 := Tryz.zeroValue143
  t72 := Tryz.underlying145
  a72 := Tryz.isAgg145
  z72 := Tryz.sizeOf145
  v72 := Tryz.zeroValue145
  t127 := Tryz.underlying123
  a127 := Tryz.isAgg123
  z127 := Tryz.sizeOf123
  v127 := Tryz.zeroValue123 }
theorem Tryz.Builder_Extra_169 : Builder.Extra Tryz.prog Tryz.lays169_ren := {
  sizeBuilder := by kernel_rfl
  liesBuilder := by kernel_rfl
  t5 := Tryz.underlying5
  a5 := Tryz.isAgg5
  z5 := Tryz.sizeOf5
  v5 := Tryz.zeroValue5
  infoByte := by kernel_rfl
  cellsByte := by kernel_rfl
  sizeByte := by kernel_rfl
  neB5 := by decide }
theorem Tryz.Builder_String_any (B b : Nat) (l : List UInt8) (w : World) (h : Lib.IsBuilder 145 5 B b (Lib.byteCells l) w) (hBw : B ≤ w.heap.size) :
    Calls Tryz.prog 135 #[.pointer (some ⟨b, 0, none⟩)] w fun e w' => e = .returned (.string ⟨l.toArray⟩) ∧ Below B w w' := Any.Builder_String_any Tryz.lays169 Tryz.Builder_Extra_169 B b l w h hBw
def Tryz.lays106_ren : Go.Shelf.Ren := ⟨fun | 106 => 91 | 213 => 108 | 265 => 127 | n => n, fun | 9 => 9 | 3 => 3 | n => n, fun | n => n⟩
theorem Tryz.lays106 : Go.Proofs.Lays.n106 Tryz.prog Tryz.lays106_ren := {
  mixed := by kernel_rfl
  f106 := Tryz.func91.trans (congrArg some (by kernel_rfl))
  f213 := Tryz.func108.trans (congrArg some (by kernel_rfl))
  f265 := Tryz.func127.trans (congrArg some (by kernel_rfl))
  t3 := Tryz.underlying3
  a3 := Tryz.isAgg3
  z3 := Tryz.sizeOf3
  v3 := Tryz.zeroValue3
  t9 := Tryz.underlying9
  a9 := Tryz.isAgg9
  z9 := Tryz.sizeOf9
  v9 := Tryz.zeroValue9 }
theorem Tryz.strings_Compare (a b : ByteArray) (w : World) :
    Calls Tryz.prog 91 #[.string a, .string b] w fun e w' => e = .returned (.int .i64 (Lib.compareBytes a.data.toList b.data.toList)) ∧ w' = w := Any.strings_Compare Tryz.lays106 a b w
def Tryz.laysM316_ren : Go.Shelf.Ren := ⟨fun | 316 => 95 | n => n, fun | 9 => 9 | 3 => 3 | 4 => 4 | 37 => 22 | 0 => 0 | 127 => 123 | 5 => 5 | n => n, fun | n => n⟩
theorem Tryz.laysM316 : Go.Proofs.LaysM.n316 Tryz.prog Tryz.laysM316_ren := {
  mixed := by kernel_rfl
  f316 := Tryz.func95.trans (congrArg some (by kernel_rfl))
  t0 := Tryz.underlying0
  a0 := Tryz.isAgg0
  z0 := Tryz.sizeOf0
  v0 := Tryz.zeroValue0
  t3 := Tryz.underlying3
  a3 := Tryz.isAgg3
  z3 := Tryz.sizeOf3
  v3 := Tryz.zeroValue3
  t4 := Tryz.underlying4
  a4 := Tryz.isAgg4
  z4 := Tryz.sizeOf4
  v4 := Tryz.zeroValue4
  t9 := Tryz.underlying9
  a9 := Tryz.isAgg9
  z9 := Tryz.sizeOf9
  v9 := Tryz.zeroValue9
  t37 := Tryz.underlying22
  a37 := Tryz.isAgg22
  z37 := Tryz.sizeOf22
  v37 := Tryz.zeroValue22
  t127 := Tryz.underlying123
  a127 := Tryz.isAgg123
  z127 := Tryz.sizeOf123
  v127 := Tryz.zeroValue123
  t5 := Tryz.underlying5
  a5 := Tryz.isAgg5
  z5 := Tryz.sizeOf5
  v5 := Tryz.zeroValue5
  i0 := by kernel_rfl
  i3 := by kernel_rfl
  i4 := by kernel_rfl
  i5 := by kernel_rfl
  i9 := by kernel_rfl
  i37 := by kernel_rfl
  i127 := by kernel_rfl }
theorem Tryz.stringslite_Clone (s : ByteArray) (w : World) (hlim : s.size ≤ 281474976710656) :
    Calls Tryz.prog 95 #[.string s] w fun e w' => e = .returned (.string s) ∧ Below w.heap.size w w' := Any.stringslite_Clone Tryz.laysM316 s w hlim
def Tryz.laysM143_ren : Go.Shelf.Ren := ⟨fun | 143 => 152 | 219 => 156 | 217 => 158 | 225 => 159 | 224 => 160 | 267 => 161 | 266 => 162 | 314 => 163 | n => n, fun | 9 => 9 | 3 => 3 | 4 => 4 | 5 => 5 | 46 => 100 | 146 => 174 | 51 => 120 | n => n, fun | 1 => 0 | n => n⟩
theorem Tryz.laysM143 : Go.Proofs.LaysM.n143 Tryz.prog Tryz.laysM143_ren := {
  mixed := by kernel_rfl
  f143 := Tryz.func152.trans (congrArg some (by kernel_rfl))
  f217 := Tryz.func158.trans (congrArg some (by kernel_rfl))
  f219 := Tryz.func156.trans (congrArg some (by kernel_rfl))
  f224 := Tryz.func160.trans (congrArg some (by kernel_rfl))
  f225 := Tryz.func159.trans (congrArg some (by kernel_rfl))
  f266 := Tryz.func162.trans (congrArg some (by kernel_rfl))
  f267 := Tryz.func161.trans (congrArg some (by kernel_rfl))
  f314 := Tryz.func163.trans (congrArg some (by kernel_rfl))
  t3 := Tryz.underlying3
  a3 := Tryz.isAgg3
  z3 := Tryz.sizeOf3
  v3 := Tryz.zeroValue3
  t4 := Tryz.underlying4
  a4 := Tryz.isAgg4
  z4 := Tryz.sizeOf4
  v4 := Tryz.zeroValue4
  t5 := Tryz.underlying5
  a5 := Tryz.isAgg5
  z5 := Tryz.sizeOf5
  v5 := Tryz.zeroValue5
  t9 := Tryz.underlying9
  a9 := Tryz.isAgg9
  z9 := Tryz.sizeOf9
  v9 := Tryz.zeroValue9
  t46 := Tryz.underlying100
  a46 := Tryz.isAgg100
  z46 := Tryz.sizeOf100
  v46 := Tryz.zeroValue100
  t51 := Tryz.underlying120
  a51 := Tryz.isAgg120
  z51 := Tryz.sizeOf120
  v51 := Tryz.zeroValue120
  t146 := Tryz.underlying174
  a146 := Tryz.isAgg174
  z146 := Tryz.sizeOf174
  v146 := Tryz.zeroValue174
  g1 := by kernel_rfl
  i3 := by kernel_rfl
  i4 := by kernel_rfl
  i5 := by kernel_rfl
  i9 := by kernel_rfl
  i46 := by kernel_rfl
  i51 := by kernel_rfl
  i146 := by kernel_rfl
  m1 := by kernel_rfl
  s1_3 := fun w h => Go.Proofs.cell_of_shapedOpen_int (zero := #[.int .i64 0]) (t := 3) h (of_decide_eq_true (by kernel_rfl)) (by kernel_rfl) rfl (by kernel_rfl) (by kernel_rfl) Tryz.underlying3 }
theorem Tryz.strings_Index_shaped (s sub : ByteArray) (w : World) (h : w.ShapedOpen Tryz.prog) (hs : s.size < 4294967281) :
    Calls Tryz.prog 152 #[.string s, .string sub] w fun e w' => e = .returned (.int .i64 (Lib.index s.data.toList sub.data.toList)) ∧ w' = w := Any.strings_Index_shaped Tryz.laysM143 s sub w h hs
def Tryz.lays99_ren : Go.Shelf.Ren := ⟨fun | 99 => 136 | 206 => 143 | n => n, fun | 9 => 9 | 4 => 4 | 3 => 3 | n => n, fun | n => n⟩
theorem Tryz.lays99 : Go.Proofs.Lays.n99 Tryz.prog Tryz.lays99_ren := {
  mixed := by kernel_rfl
  f99 := Tryz.func136.trans (congrArg some (by kernel_rfl))
  f206 := Tryz.func143.trans (congrArg some (by kernel_rfl))
  t3 := Tryz.underlying3
  a3 := Tryz.isAgg3
  z3 := Tryz.sizeOf3
  v3 := Tryz.zeroValue3
  t4 := Tryz.underlying4
  a4 := Tryz.isAgg4
  z4 := Tryz.sizeOf4
  v4 := Tryz.zeroValue4
  t9 := Tryz.underlying9
  a9 := Tryz.isAgg9
  z9 := Tryz.sizeOf9
  v9 := Tryz.zeroValue9 }
theorem Tryz.strings_HasPrefix (s p : ByteArray) (w : World) :
    Calls Tryz.prog 136 #[.string s, .string p] w fun e w' => e = .returned (.bool (Lib.hasPrefix s.data.toList p.data.toList)) ∧ w' = w := Any.strings_HasPrefix Tryz.lays99 s p w
def Tryz.lays146_ren : Go.Shelf.Ren := ⟨fun | 146 => 138 | 221 => 148 | 268 => 150 | 138 => 151 | 143 => 152 | 195 => 153 | 197 => 154 | 218 => 155 | 219 => 156 | 260 => 157 | 217 => 158 | 225 => 159 | 224 => 160 | 267 => 161 | 266 => 162 | 314 => 163 | n => n, fun | 9 => 9 | 31 => 24 | 3 => 3 | 4 => 4 | 0 => 0 | 105 => 167 | 21 => 21 | 5 => 5 | 46 => 100 | 119 => 170 | 139 => 173 | 138 => 172 | 146 => 174 | 51 => 120 | n => n, fun | 1 => 0 | 3 => 1 | 4 => 2 | n => n⟩
theorem Tryz.lays146 : Go.Proofs.Lays.n146 Tryz.prog Tryz.lays146_ren := {
  mixed := by kernel_rfl
  f138 := Tryz.func151.trans (congrArg some (by kernel_rfl))
  f143 := Tryz.func152.trans (congrArg some (by kernel_rfl))
  f146 := Tryz.func138.trans (congrArg some (by kernel_rfl))
  f195 := Tryz.func153.trans (congrArg some (by kernel_rfl))
  f197 := Tryz.func154.trans (congrArg some (by kernel_rfl))
  f217 := Tryz.func158.trans (congrArg some (by kernel_rfl))
  f218 := Tryz.func155.trans (congrArg some (by kernel_rfl))
  f219 := Tryz.func156.trans (congrArg some (by kernel_rfl))
  f221 := Tryz.func148.trans (congrArg some (by kernel_rfl))
  f224 := Tryz.func160.trans (congrArg some (by kernel_rfl))
  f225 := Tryz.func159.trans (congrArg some (by kernel_rfl))
  f260 := Tryz.func157.trans (congrArg some (by kernel_rfl))
  f266 := Tryz.func162.trans (congrArg some (by kernel_rfl))
  f267 := Tryz.func161.trans (congrArg some (by kernel_rfl))
  f268 := Tryz.func150.trans (congrArg some (by kernel_rfl))
  f314 := Tryz.func163.trans (congrArg some (by kernel_rfl))
  t0 := Tryz.underlying0
  a0 := Tryz.isAgg0
  z0 := Tryz.sizeOf0
  v0 := Tryz.zeroValue0
  t3 := Tryz.underlying3
  a3 := Tryz.isAgg3
  z3 := Tryz.sizeOf3
  v3 := Tryz.zeroValue3
  t4 := Tryz.underlying4
  a4 := Tryz.isAgg4
  z4 := Tryz.sizeOf4
  v4 := Tryz.zeroValue4
  t5 := Tryz.underlying5
  a5 := Tryz.isAgg5
  z5 := Tryz.sizeOf5
  v5 := Tryz.zeroValue5
  t9 := Tryz.underlying9
  a9 := Tryz.isAgg9
  z9 := Tryz.sizeOf9
  v9 := Tryz.zeroValue9
  t21 := Tryz.underlying21
  a21 := Tryz.isAgg21
  z21 := Tryz.sizeOf21
  v21 := Tryz.zeroValue21
  t31 := Tryz.underlying24
  a31 := Tryz.isAgg24
  z31 := Tryz.sizeOf24
  v31 := Tryz.zeroValue24
  t46 := Tryz.underlying100
  a46 := Tryz.isAgg100
  z46 := Tryz.sizeOf100
  v46 := Tryz.zeroValue100
  t51 := Tryz.underlying120
  a51 := Tryz.isAgg120
  z51 := Tryz.sizeOf120
  v51 := Tryz.zeroValue120
  t105 := Tryz.underlying167
  a105 := Tryz.isAgg167
  z105 := Tryz.sizeOf167
  v105 := Tryz.zeroValue167
  t119 := Tryz.underlying170
  a119 := Tryz.isAgg170
  z119 := Tryz.sizeOf170
  t138 := Tryz.underlying172
  a138 := Tryz.isAgg172
  z138 := Tryz.sizeOf172
  v138 := Tryz.zeroValue172
  t139 := Tryz.underlying173
  a139 := Tryz.isAgg173
  z139 := Tryz.sizeOf173
  v139 := Tryz.zeroValue173
  t146 := Tryz.underlying174
  a146 := Tryz.isAgg174
  z146 := Tryz.sizeOf174
  v146 := Tryz.zeroValue174
  g1 := by kernel_rfl
  g3 := by kernel_rfl
  g4 := by kernel_rfl }
theorem Tryz.strings_Split (s sep : ByteArray) (m : Int) (w : World) (hs : s.size < 4294967281) (hm : w.cell? ⟨0, 0, none⟩ = some (.int .i64 m)) (h1 : 1 ≤ sep.size) :
    Calls Tryz.prog 138 #[.string s, .string sep] w fun e w' =>
      e = .returned (.slice (some ⟨w.heap.size, 0, none⟩) (Lib.countB s sep + 1) (Lib.countB s sep + 1)) ∧ w' = w.alloc (.cells ((Lib.splitB sep 0 (Lib.countB s sep) s).map Value.string).toArray 9) := Any.strings_Split Tryz.lays146 (by kernel_rfl) s sep m w hs hm h1
/-- The library's one variable that the search reads holds an int. -/
theorem Tryz.max_len (w : World) (h : w.ShapedOpen Tryz.prog) : ∃ m, w.cell? ⟨0, 0, none⟩ = some (.int .i64 m) := Tryz.laysM143.s1_3 w h
/-- The text of a builder of the call's own. -/
theorem Tryz.build_text (B b : Nat) (l : List UInt8) (w : World) (h : Lib.IsBuilder 145 5 B b (Lib.byteCells l) w) (hBw : B ≤ w.heap.size) :
    Calls Tryz.prog 135 #[.pointer (some ⟨b, 0, none⟩)] w fun e w' => e = .returned (.string ⟨l.toArray⟩) ∧ Below B w w' := Tryz.Builder_String_any B b l w h hBw
/-- What begins with what. -/
theorem Tryz.has_prefix (s p : ByteArray) (w : World) : Calls Tryz.prog 136 #[.string s, .string p] w fun e w' => e = .returned (.bool (Lib.hasPrefix s.data.toList p.data.toList)) ∧ w' = w := Tryz.strings_HasPrefix s p w
/-- The pieces between separators. -/
theorem Tryz.split_at (s sep : ByteArray) (m : Int) (w : World) (hs : s.size < 4294967281) (hm : w.cell? ⟨0, 0, none⟩ = some (.int .i64 m)) (h1 : 1 ≤ sep.size) :
    Calls Tryz.prog 138 #[.string s, .string sep] w fun e w' =>
      e = .returned (.slice (some ⟨w.heap.size, 0, none⟩) (Lib.countB s sep + 1) (Lib.countB s sep + 1)) ∧ w' = w.alloc (.cells ((Lib.splitB sep 0 (Lib.countB s sep) s).map Value.string).toArray 9) :=
  Tryz.strings_Split s sep m w hs hm h1
end Go.Proofs
