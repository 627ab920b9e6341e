/- Walks: the laws' helpers on lists of texts, by themselves (no lists of numbers). -/
import Derived.Test.YtoahfhidekmodaaDoorPr
import Derived.Deep.RegionHeld3
namespace Go.Proofs.YtoahfhidekmodaaDoor
open Go.RowKit Pth

/-- A new list of so many zeros. -/
theorem make_row {t e : TypeId} {z : Value} {bytes : Nat} (E : Elem t e z bytes) (hz : z.cells = #[z]) (n : Nat) (w : World) (hn : n ≤ 2000000) :
    ∃ w', (Instr.makeSlice t (.int .i64 (n : Int)) (.int .i64 (n : Int))).run Tryd.prog w = .ok (.slice (some ⟨w.heap.size, 0, none⟩) n n) w' ∧
      w'.ownsRow w.heap.size e 1 (.slice (some ⟨w.heap.size, 0, none⟩) n n) n (List.replicate n z) ∧ Below w.heap.size w w' := by
  obtain ⟨i0, hi, hz0, hz1, hz2⟩ := info_parts E.info
  obtain ⟨w', h1, h2, h3⟩ := run_makeSlice_full (P := Tryd.prog) w w.heap.size t e i0 z 1 E.under hi hz0 hz1 .i64 .i64 n (by omega) (by rw [hz2]; exact Nat.le_trans (Nat.mul_le_mul E.small hn) (by decide)) (by unfold maxLen; omega) (Nat.le_refl _)
  rw [hz, Nat.mul_one, toList_madeCells_one] at h2
  exact ⟨w', h1, h2, (Below.refl _ w).grown h3 (Nat.le_refl _) (fun k hk => by cases hk)⟩

theorem set_row (xs : List Value) (z : Value) (k : Nat) (hk : k < xs.length) : (xs.take k ++ List.replicate (xs.length - k) z).set k xs[k] = xs.take (k + 1) ++ List.replicate (xs.length - (k + 1)) z := by
  have e : xs.length - k = (xs.length - (k + 1)) + 1 := by omega
  rw [e, List.replicate_succ, List.set_append_right _ _ (by rw [List.length_take]; omega)]
  have e2 : k - (xs.take k).length = 0 := by rw [List.length_take]; omega
  rw [e2, List.set_cons_zero, List.take_succ_eq_append_getElem hk, List.append_assoc, List.singleton_append]

theorem get_row (xs : List Value) (z : Value) (k : Nat) (hk : k < xs.length) : (xs.take k ++ List.replicate (xs.length - k) z)[k]? = some z := by
  have hl : (xs.take k).length = k := by rw [List.length_take]; omega
  rw [List.getElem?_append_right (by omega), hl, Nat.sub_self, List.getElem?_replicate, if_pos (by omega)]

theorem only_below {w w' : World} {B g : Nat} (hg : w.grownBy w' (some g)) (h : B ≤ g) (hB : B ≤ w.heap.size) : Below B w w' :=
  (Below.refl B w).grown hg hB (fun k hk => by injection hk with hk; omega)

theorem same_next {α : Type} {a b : List α} {k : Nat} (h : a.take k = b.take k) (h1 : k < a.length) (h2 : k < b.length) (he : a[k] = b[k]) : a.take (k + 1) = b.take (k + 1) := by
  rw [List.take_succ_eq_append_getElem h1, List.take_succ_eq_append_getElem h2, h, he]

theorem same_not {α : Type} {a b : List α} {k : Nat} (h1 : k < a.length) (h2 : k < b.length) (he : ¬ a[k] = b[k]) : ¬ a = b := by
  rintro rfl; exact he rfl

theorem same_all {α : Type} {a b : List α} {k : Nat} (h : a.take k = b.take k) (h1 : a.length ≤ k) (h2 : b.length ≤ k) : a = b := by
  rw [List.take_of_length_le h1, List.take_of_length_le h2] at h; exact h

theorem grown_refl (w : World) (r : Option Nat) : w.grownBy w r := ⟨rfl, rfl, rfl, Nat.le_refl _, fun _ _ _ => rfl⟩

theorem grown_trans {a b c : World} {r : Option Nat} (h : a.grownBy b r) (k : b.grownBy c r) : a.grownBy c r :=
  ⟨k.os.trans h.os, k.tape.trans h.tape, k.output.trans h.output, Nat.le_trans h.size k.size, fun i hi hn => (k.block i (Nat.lt_of_lt_of_le hi h.size) hn).trans (h.block i hi hn)⟩

/-- The digits of a number, ahead of what is there. -/
def digs (k : Nat) (out : List UInt8) : List UInt8 := if h : k = 0 then out else digs (k / 10) (UInt8.ofNat (48 + k % 10) :: out)
termination_by k
decreasing_by omega

def markT (k : Nat) : List UInt8 := 109 :: digs k []

theorem digs_zero (out : List UInt8) : digs 0 out = out := by rw [digs]; simp

theorem digs_pos {k : Nat} (h : 0 < k) (out : List UInt8) : digs k out = digs (k / 10) (UInt8.ofNat (48 + k % 10) :: out) := by rw [digs]; simp; omega

theorem digit_int (k : Nat) : ((UInt8.ofNat (48 + k % 10)).toNat : Int) = 48 + (k : Int) % 10 := by
  have : (UInt8.ofNat (48 + k % 10)).toNat = 48 + k % 10 := by simp; omega
  rw [this]; omega

theorem cat_one (c : UInt8) (out : List UInt8) : (⟨#[c]⟩ : ByteArray) ++ ⟨out.toArray⟩ = ⟨(c :: out).toArray⟩ := by
  apply ByteArray.ext
  apply Array.ext'
  rw [ByteArray.data_append]
  simp

theorem S_get {l : List (List UInt8)} {k : Nat} (hk : k < l.length) : (S l)[k]'(by rw [S_len]; exact hk) = .string ⟨(l[k]).toArray⟩ := by simp [S]

/-- Texts in memory of the call's own. -/
def TextsPost (B : Nat) (l : List (List UInt8)) (w : World) (e : Ending) (w' : World) : Prop :=
  ∃ v, e = .returned v ∧ w'.ownsRow B 9 1 v l.length (S l) ∧ Below w.heap.size w w'

set_option maxHeartbeats 1000000 in
theorem toStringS_any (l : List (List UInt8)) (v : Value) (w : World) (hrow : RowV w v (S l)) (hl : l.length ≤ 2000000) :
    Calls Tryd.prog 30 #[v] w (TextsPost w.heap.size l w) := by
  obtain ⟨a, cap, rfl, hc1, hc2, hat⟩ := hrow.texts
  clear hrow
  unfold maxLen at hc2
  obtain ⟨w0, hmk, hown0, hb0⟩ := make_row elemS rfl l.length w hl
  have HN0 := Lib.hid hown0
  have HB0 := Lib.hid hb0
  clear hown0 hb0
  go_enter Tryd.func30, Tryd.ntmps30
  go_wp2_with fail
  clear hmk
  go_loopw [4] (fun i wr => ∃ k : Nat, k ≤ l.length ∧ i = .int .i64 k ∧ wr.ownsRow w.heap.size 9 1 (.slice (some ⟨w.heap.size, 0, none⟩) l.length l.length) l.length ((S l).take k ++ List.replicate ((S l).length - k) (.string ByteArray.empty)) ∧ Below w.heap.size w wr) (fun i _ => l.length - (intOf i).toNat)
  case atStart => exact ⟨0, Nat.zero_le _, rfl, by rw [S_len]; exact HN0.out, HB0.out⟩
  case round =>
    clear HN0 HB0
    obtain ⟨k, hk, rfl, hown, hb⟩ := hrel
    have hbs := hb.size
    by_cases hlt : k < l.length
    · obtain ⟨g, o, rfl, hg, hcell0⟩ := hat k hlt
      have hcell : wr.cell? ⟨g, o + k, none⟩ = some (.string ⟨(l[k]).toArray⟩) := by rw [hb.cell (p := ⟨g, o + k, none⟩) hg]; exact hcell0
      have hfz := hown.frozenAt k
      have hcz : wr.cell? ⟨w.heap.size, k, none⟩ = some (.string ByteArray.empty) := by rw [hown.cellAt k (by omega), get_row _ _ _ (by rw [S_len]; exact hlt)]
      have hst := hown.stored k (.string ⟨(l[k]).toArray⟩)
      have e := set_row (S l) (.string ByteArray.empty) k (by rw [S_len]; exact hlt)
      rw [S_get hlt] at e
      rw [e] at hst
      have HN1 := Lib.hid hst.1
      have HB1 := Lib.hid (hb.trans (only_below hst.2 (Nat.le_refl _) hbs))
      clear hcell0 hat hown hb hst e
      generalize l[k] = x at hcell HN1 HB1
      go_wp2_with fail
      go_roundw
      case rel => exact ⟨k + 1, by omega, by go_num, HN1.out, HB1.out⟩
      case measure => simp [intOf]; omega
    · have HN1 : Hid (wr.ownsRow w.heap.size 9 1 (.slice (some ⟨w.heap.size, 0, none⟩) l.length l.length) l.length (S l)) := by
        have e1 : (S l).take k = S l := List.take_of_length_le (by rw [S_len]; omega)
        have e2 : (S l).length - k = 0 := by rw [S_len]; omega
        rw [e1, e2, List.replicate_zero, List.append_nil] at hown
        exact hown
      have HB := Lib.hid hb
      clear hown hb hat
      go_wp2_with fail
      go_ret
      exact ⟨_, rfl, HN1.out, HB.out⟩

set_option maxHeartbeats 1000000 in
theorem eqStringS_any (l m : List (List UInt8)) (v u : Value) (w : World) (hr1 : RowV w v (S l)) (hr2 : RowV w u (S m)) (hl : l.length ≤ 2000000) :
    Calls Tryd.prog 34 #[v, u] w fun e w' => e = .returned (.bool (decide (l = m))) ∧ Below w.heap.size w w' := by
  obtain ⟨a, cap, rfl, hc1, hc2, hat⟩ := hr1.texts
  obtain ⟨a2, cap2, rfl, hc3, hc4, hat2⟩ := hr2.texts
  clear hr1 hr2
  unfold maxLen at hc2 hc4
  by_cases hlen : l.length = m.length
  · have hlen1 : ((l.length : Int) != (m.length : Int)) = false := by simp [hlen]
    go_enter Tryd.func34, Tryd.ntmps34
    go_wp2_with fail
    go_loopw [5] (fun i wr => ∃ k : Nat, k ≤ l.length ∧ i = .int .i64 k ∧ Hid (l.take k = m.take k) ∧ Below w.heap.size w wr) (fun i _ => l.length - (intOf i).toNat)
    case atStart => exact ⟨0, Nat.zero_le _, rfl, rfl, Below.refl _ _⟩
    case round =>
      obtain ⟨k, hk, rfl, HO, hb⟩ := hrel
      have HB := Lib.hid hb
      by_cases hlt : k < l.length
      · obtain ⟨g, o, rfl, hg, hcell0⟩ := hat k hlt
        obtain ⟨g2, o2, rfl, hg2, hcell02⟩ := hat2 k (by omega)
        have hcell : wr.cell? ⟨g, o + k, none⟩ = some (.string ⟨(l[k]).toArray⟩) := by rw [hb.cell (p := ⟨g, o + k, none⟩) hg]; exact hcell0
        have hcell2 : wr.cell? ⟨g2, o2 + k, none⟩ = some (.string ⟨(m[k]).toArray⟩) := by rw [hb.cell (p := ⟨g2, o2 + k, none⟩) hg2]; exact hcell02
        clear hcell0 hcell02 hat hat2 hb
        have hi1 : (k : Int) < (l.length : Int) := by omega
        have hi2 : (k : Int) < (m.length : Int) := by omega
        by_cases he : l[k] = m[k]
        · have HS := Lib.hid (same_next HO.out hlt (by omega) he)
          have he1 : (l[k] != m[k]) = false := by simp [he]
          have he2 : (l[k] == m[k]) = true := by simp [he]
          generalize l[k] = x at hcell he1 he he2
          generalize m[k] = y at hcell2 he1 he he2
          clear HO
          go_wp2_with fail
          go_quiet (fail)
          go_wp2_with fail
          go_roundw
          case rel => exact ⟨k + 1, by omega, by go_num, HS, below_drewN HB.out _⟩
          case measure => simp [intOf]; omega
        · have HS : Hid (decide (l = m) = false) := decide_eq_false (same_not hlt (by omega) he)
          have he1 : (l[k] != m[k]) = true := by simp [he]
          have he2 : (l[k] == m[k]) = false := by simp [he]
          generalize l[k] = x at hcell he1 he he2
          generalize m[k] = y at hcell2 he1 he he2
          clear HO
          go_wp2_with fail
          go_quiet (fail)
          go_wp2_with fail
          go_ret
          exact ⟨ret_bool HS.out.symm, below_drewN HB.out _⟩
      · have HS : Hid (decide (l = m) = true) := decide_eq_true (same_all HO.out (by omega) (by omega))
        clear HO hat hat2 hb
        go_wp2_with fail
        go_ret
        exact ⟨ret_bool HS.out.symm, HB.out⟩
  · have hlen1 : ((l.length : Int) != (m.length : Int)) = true := by simp; omega
    have HS : Hid (decide (l = m) = false) := decide_eq_false (fun h => hlen (by rw [h]))
    clear hat hat2
    go_enter Tryd.func34, Tryd.ntmps34
    go_wp2_with fail
    go_ret
    exact ⟨ret_bool HS.out.symm, Below.refl _ _⟩

set_option maxHeartbeats 1000000 in
theorem szStringS_any (l : List (List UInt8)) (left : Nat) (v : Value) (w : World) (hrow : RowV w v (S l)) (hx : ∀ x ∈ l, x.length ≤ maxLen) (hl : left ≤ 2000000) :
    Calls Tryd.prog 27 #[v, .int .i64 (left : Int)] w fun e w' => ∃ r : Int, e = .returned (.int .i64 r) ∧ (0 ≤ r → l.length ≤ left ∧ ∀ x ∈ l, x.length ≤ left) ∧ w = w' := by
  obtain ⟨a, cap, rfl, hc1, hc2, hat⟩ := hrow.texts
  clear hrow
  unfold maxLen at hc2 hx
  by_cases hlen : l.length ≤ left
  · have hlen1 : decide ((left : Int) - (l.length : Int) < 0) = false := by simp; omega
    go_enter Tryd.func27, Tryd.ntmps27
    go_wp2_with fail
    go_loop [1, 5] (fun q i => ∃ (k : Nat) (r : Int), k ≤ l.length ∧ 0 ≤ r ∧ r ≤ left ∧ q = .int .i64 r ∧ i = .int .i64 k ∧ Hid (∀ x ∈ l.take k, x.length ≤ left)) (fun _ i => l.length - (intOf i).toNat)
    case atStart => exact ⟨0, (left : Int) - (l.length : Int), Nat.zero_le _, by omega, by omega, rfl, rfl, by simp [Hid]⟩
    case round =>
      obtain ⟨k, r, hk, hr0, hr1, rfl, rfl, HO⟩ := hrel
      by_cases hlt : k < l.length
      · obtain ⟨g, o, rfl, hg, hcell⟩ := hat k hlt
        have hxl := hx l[k] (List.getElem_mem hlt)
        by_cases hy : ((l[k]).length : Int) ≤ r
        · have HS : Hid (∀ x ∈ l.take (k + 1), x.length ≤ left) := by
            intro x hxm
            rw [List.take_succ_eq_append_getElem hlt, List.mem_append, List.mem_singleton] at hxm
            rcases hxm with h | h
            · exact HO.out x h
            · rw [h]; omega
          have hy1 : decide (r - ((l[k]).length : Int) < 0) = false := by simp; omega
          generalize l[k] = x at hcell hxl hy hy1
          clear hat HO hx
          go_wp2_with fail
          go_round
          case rel => exact ⟨k + 1, r - (x.length : Int), by omega, by omega, by omega, rfl, by go_num, HS⟩
          case measure => simp [intOf]; omega
        · have hy1 : decide (r - ((l[k]).length : Int) < 0) = true := by simp; omega
          generalize l[k] = x at hcell hxl hy hy1
          clear hat HO hx
          go_wp2_with fail
          go_ret
          exact ⟨-1, rfl, fun h => by omega, rfl⟩
      · have HS : Hid (∀ x ∈ l, x.length ≤ left) := by have := HO.out; rw [List.take_of_length_le (by omega)] at this; exact this
        clear hat HO hx
        go_wp2_with fail
        go_ret
        exact ⟨r, rfl, fun _ => by first | exact ⟨hlen, HS.out⟩ | exact HS.out, rfl⟩
  · have hlen1 : decide ((left : Int) - (l.length : Int) < 0) = true := by simp; omega
    clear hat hx
    go_enter Tryd.func27, Tryd.ntmps27
    go_wp2_with fail
    go_ret
    exact ⟨-1, rfl, fun h => by omega, rfl⟩

/-- The texts that are marks, from k on. -/
def marksT (k : Nat) (n : Nat) : List (List UInt8) := (List.range n).map (fun (i : Nat) => markT (k + i))

theorem marksT_len (k n : Nat) : (marksT k n).length = n := by simp [marksT]

theorem marksT_snoc (k n : Nat) : marksT k (n + 1) = marksT k n ++ [markT (k + n)] := by simp [marksT, List.range_succ]

theorem marksT_at (k n j : Nat) (hj : j < (marksT k n).length) : (marksT k n)[j] = markT (k + j) := by simp [marksT]

theorem markT_set (k : Nat) (l : List (List UInt8)) (j : Nat) (hj : j < l.length) : (S (marksT k j) ++ (S l).drop j).set j (.string ⟨(markT (k + j)).toArray⟩) = S (marksT k (j + 1)) ++ (S l).drop (j + 1) := by
  have hl : (S (marksT k j)).length = j := by rw [S_len, marksT_len]
  rw [List.set_append_right _ _ (by omega), hl, Nat.sub_self, List.drop_eq_getElem_cons (by rw [S_len]; exact hj), List.set_cons_zero, marksT_snoc, S_append, List.append_assoc]
  rfl

theorem markT_get (k : Nat) (l : List (List UInt8)) (j : Nat) (hj : j < l.length) : (S (marksT k j) ++ (S l).drop j)[j]? = some (.string ⟨(l[j]).toArray⟩) := by
  have hl : (S (marksT k j)).length = j := by rw [S_len, marksT_len]
  rw [List.getElem?_append_right (by omega), hl, Nat.sub_self, List.getElem?_drop, Nat.add_zero, List.getElem?_eq_getElem (by rw [S_len]; exact hj), S_get hj]

/-- The list holds the marks, and nothing but its own block has turned. -/
def MarkedT (B : Nat) (v : Value) (k : Nat) (n : Nat) (w : World) (e : Ending) (w' : World) : Prop :=
  e = .returned (.int .i64 ((k : Int) + (n : Int))) ∧ w'.ownsRow B 9 1 v n (S (marksT k n)) ∧ w.grownBy w' v.ownBlock

theorem below_grown {w w' : World} {r : Option Nat} (h : Below w.heap.size w w') : w.grownBy w' r := ⟨h.os, h.tape, h.output, h.size, fun i hi _ => h.block i hi⟩

end Go.Proofs.YtoahfhidekmodaaDoor
