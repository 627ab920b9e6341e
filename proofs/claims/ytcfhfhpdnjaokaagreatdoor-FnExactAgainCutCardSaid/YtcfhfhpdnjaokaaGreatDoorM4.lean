/- Texts of one claim, joined in their order. -/
import Derived.Test.YtcfhfhpdnjaokaaGreatDoorCards
import Derived.Test.YtcfhfhpdnjaokaaGreatDoorTie
import Derived.Lib.SlicesCompact
import Derived.Shelf.Small.Bits
import Derived.Shelf.Small.Wraps
import Derived.Shelf.Strconv.Itoa0
import Derived.Shelf.Strconv.Itoa1
import Derived.Shelf.LaysM
import Derived.Shelf.Strconv.Itoa2
import Derived.Shelf.Strconv.Itoa3
import Derived.Shelf.Strconv.Clone
import Derived.Shelf.Sort.Plain
import Derived.Shelf.Slices.In.SortNone
import Derived.Test.YtcfhfhpdnjaokaaGreatDoorProg
import Derived.Lib.OwnBridge
import Derived.Sort.OwnSortedInts
import Derived.Test.YtcfhfhpdnjaokaaGreatDoorM3
import Derived.Test.YtcfhfhpdnjaokaaGreatDoorM2
import Derived.Test.YtcfhfhpdnjaokaaGreatDoorM1

/- Lists of bools, lists of lists of ops: wherever they lie, and as memory of the call's own; the laws' helpers on them. -/
namespace Go.Proofs.YtcfhfhpdnjaokaaGreatDoor
open Go.RowKit Pth

/-- Bools as cells. -/
def BL (l : List Bool) : List Value := l.map Value.bool
theorem BL_len (l : List Bool) : (BL l).length = l.length := by simp [BL]
theorem BL_get {l : List Bool} {k : Nat} (hk : k < l.length) : (BL l)[k]'(by rw [BL_len]; exact hk) = .bool l[k] := by simp [BL]
theorem RowV.boolsW {w : World} {v : Value} {l : List Bool} (h : RowV w v (BL l)) :
    ∃ a c, v = .slice a l.length c ∧ l.length ≤ c ∧ c ≤ maxLen ∧ ∀ k (hk : k < l.length), ∃ g o, a = some ⟨g, o, none⟩ ∧ g < w.heap.size ∧ w.cell? ⟨g, o + k, none⟩ = some (.bool l[k]) := by
  obtain ⟨a, c, hv, h1, h2, hat⟩ := h
  rw [BL_len] at hv h1
  refine ⟨a, c, hv, h1, h2, fun k hk => ?_⟩
  obtain ⟨g, o, ha, hg, hc⟩ := hat k (by rw [BL_len]; exact hk)
  rw [BL_get hk] at hc
  exact ⟨g, o, ha, hg, hc⟩
/-- Bools are handed back, in memory of the call's own. -/
def BoolsPost (B : Nat) (l : List Bool) (w : World) (e : Ending) (w' : World) : Prop := ∃ v, e = .returned v ∧ w'.ownsRow B 4 1 v l.length (BL l) ∧ Below w.heap.size w w'

set_option maxHeartbeats 400000 in
theorem szBoolS_any (a : Option Addr) (n cap left : Nat) (w : World) (hn : n ≤ maxLen) (hl : left ≤ 2000000) :
    Calls Tryz.prog 119 #[.slice a n cap, .int .i64 (left : Int)] w fun e w' => ∃ r : Int, e = .returned (.int .i64 r) ∧ (0 ≤ r → r = (left : Int) - (n : Int)) ∧ w = w' := by
  unfold maxLen at hn
  by_cases h : n ≤ left
  · have h1 : decide ((left : Int) - (n : Int) < 0) = false := by simp; omega
    go_enter Tryz.func119, Tryz.ntmps119
    go_wp2_with fail
    go_ret
    exact ⟨_, rfl, fun _ => rfl, rfl⟩
  · have h1 : decide ((left : Int) - (n : Int) < 0) = true := by simp; omega
    go_enter Tryz.func119, Tryz.ntmps119
    go_wp2_with fail
    go_ret
    exact ⟨-1, rfl, fun h => by omega, rfl⟩

set_option maxHeartbeats 1000000 in
theorem toBoolS_any (l : List Bool) (v : Value) (w : World) (hrow : RowV w v (BL l)) (hl : l.length ≤ 2000000) :
    Calls Tryz.prog 122 #[v] w (BoolsPost w.heap.size l w) := by
  obtain ⟨a, cap, rfl, hc1, hc2, hat⟩ := hrow.boolsW
  clear hrow
  unfold maxLen at hc2
  obtain ⟨w0, hmk, hown0, hb0⟩ := make_row elemB rfl l.length w hl
  have HN0 := Lib.hid hown0
  have HB0 := Lib.hid hb0
  clear hown0 hb0
  go_enter Tryz.func122, Tryz.ntmps122
  go_wp2_with fail
  clear hmk
  go_loopw [4] (fun i wr => ∃ k : Nat, k ≤ l.length ∧ i = .int .i64 k ∧ wr.ownsRow w.heap.size 4 1 (.slice (some ⟨w.heap.size, 0, none⟩) l.length l.length) l.length ((BL l).take k ++ List.replicate ((BL l).length - k) (.bool false)) ∧ Below w.heap.size w wr) (fun i _ => l.length - (intOf i).toNat)
  case atStart => exact ⟨0, Nat.zero_le _, rfl, by rw [BL_len]; exact HN0.out, HB0.out⟩
  case round =>
    clear HN0 HB0
    obtain ⟨k, hk, rfl, hown, hb⟩ := hrel
    have hbs := hb.size
    by_cases hlt : k < l.length
    · obtain ⟨g, o, rfl, hg, hcell0⟩ := hat k hlt
      have hcell : wr.cell? ⟨g, o + k, none⟩ = some (.bool l[k]) := by rw [hb.cell (p := ⟨g, o + k, none⟩) hg]; exact hcell0
      have hfz := hown.frozenAt k
      have hcz : wr.cell? ⟨w.heap.size, k, none⟩ = some (.bool false) := by rw [hown.cellAt k (by omega), get_row _ _ _ (by rw [BL_len]; exact hlt)]
      have hst := hown.stored k (.bool l[k])
      have e := set_row (BL l) (.bool false) k (by rw [BL_len]; exact hlt)
      rw [BL_get hlt] at e
      rw [e] at hst
      have HN1 := Lib.hid hst.1
      have HB1 := Lib.hid (hb.trans (only_below hst.2 (Nat.le_refl _) hbs))
      clear hcell0 hat hown hb hst e
      generalize l[k] = x at hcell HN1 HB1
      go_wp2_with fail
      go_roundw
      case rel => exact ⟨k + 1, by omega, by go_num, HN1.out, HB1.out⟩
      case measure => simp [intOf]; omega
    · have HN1 : Hid (wr.ownsRow w.heap.size 4 1 (.slice (some ⟨w.heap.size, 0, none⟩) l.length l.length) l.length (BL l)) := by
        have e1 : (BL l).take k = BL l := List.take_of_length_le (by rw [BL_len]; omega)
        have e2 : (BL l).length - k = 0 := by rw [BL_len]; omega
        rw [e1, e2, List.replicate_zero, List.append_nil] at hown
        exact hown
      have HB := Lib.hid hb
      clear hown hb hat
      go_wp2_with fail
      go_ret
      exact ⟨_, rfl, HN1.out, HB.out⟩



set_option maxHeartbeats 1000000 in
theorem eqBoolS_any (l m : List Bool) (v u : Value) (w : World) (hr1 : RowV w v (BL l)) (hr2 : RowV w u (BL m)) (hl : l.length ≤ 2000000) :
    Calls Tryz.prog 125 #[v, u] w fun e w' => e = .returned (.bool (decide (l = m))) ∧ Below w.heap.size w w' := by
  obtain ⟨a, cap, rfl, hc1, hc2, hat⟩ := hr1.boolsW
  obtain ⟨a2, cap2, rfl, hc3, hc4, hat2⟩ := hr2.boolsW
  clear hr1 hr2
  unfold maxLen at hc2 hc4
  by_cases hlen : l.length = m.length
  · have hlen1 : ((l.length : Int) != (m.length : Int)) = false := by simp [hlen]
    go_enter Tryz.func125, Tryz.ntmps125
    go_wp2_with fail
    go_loopw [5] (fun i wr => ∃ k : Nat, k ≤ l.length ∧ i = .int .i64 k ∧ Hid (l.take k = m.take k) ∧ Below w.heap.size w wr) (fun i _ => l.length - (intOf i).toNat)
    case atStart => exact ⟨0, Nat.zero_le _, rfl, rfl, Below.refl _ _⟩
    case round =>
      obtain ⟨k, hk, rfl, HO, hb⟩ := hrel
      have HB := Lib.hid hb
      by_cases hlt : k < l.length
      · obtain ⟨g, o, rfl, hg, hcell0⟩ := hat k hlt
        obtain ⟨g2, o2, rfl, hg2, hcell02⟩ := hat2 k (by omega)
        have hcell : wr.cell? ⟨g, o + k, none⟩ = some (.bool l[k]) := by rw [hb.cell (p := ⟨g, o + k, none⟩) hg]; exact hcell0
        have hcell2 : wr.cell? ⟨g2, o2 + k, none⟩ = some (.bool m[k]) := by rw [hb.cell (p := ⟨g2, o2 + k, none⟩) hg2]; exact hcell02
        clear hcell0 hcell02 hat hat2 hb
        have hi1 : (k : Int) < (l.length : Int) := by omega
        have hi2 : (k : Int) < (m.length : Int) := by omega
        by_cases he : l[k] = m[k]
        · have HS := Lib.hid (same_next HO.out hlt (by omega) he)
          rw [← he] at hcell2
          clear HO he
          generalize l[k] = x at hcell hcell2
          rcases x with _ | _
          all_goals
            go_wp2_with fail
            go_quiet (fail)
            go_wp2_with fail
            go_roundw
            case rel => exact ⟨k + 1, by omega, by go_num, HS, below_drewN HB.out _⟩
            case measure => simp [intOf]; omega
        · have HS : Hid (decide (l = m) = false) := decide_eq_false (same_not hlt (by omega) he)
          have he1 : m[k] = !l[k] := by revert he; cases l[k] <;> cases m[k] <;> simp
          rw [he1] at hcell2
          clear HO he he1
          generalize l[k] = x at hcell hcell2
          rcases x with _ | _
          all_goals
            go_wp2_with fail
            go_quiet (fail)
            go_wp2_with fail
            go_ret
            exact ⟨ret_bool HS.out.symm, below_drewN HB.out _⟩
      · have HS : Hid (decide (l = m) = true) := decide_eq_true (same_all HO.out (by omega) (by omega))
        clear HO hat hat2 hb
        go_wp2_with fail
        go_ret
        exact ⟨ret_bool HS.out.symm, HB.out⟩
  · have hlen1 : ((l.length : Int) != (m.length : Int)) = true := by simp; omega
    have HS : Hid (decide (l = m) = false) := decide_eq_false (fun h => hlen (by rw [h]))
    clear hat hat2
    go_enter Tryz.func125, Tryz.ntmps125
    go_wp2_with fail
    go_ret
    exact ⟨ret_bool HS.out.symm, Below.refl _ _⟩


/-- A list of lists of ops, wherever it lies. -/
def RowOO (w : World) (v : Value) (rs : List (List OpT)) : Prop :=
  ∃ sl : List Value, sl.length = rs.length ∧ RowV w v sl ∧ ∀ k (h1 : k < sl.length) (h2 : k < rs.length), RowO w sl[k] rs[k]
theorem RowOO.below {w w' : World} {v : Value} {rs : List (List OpT)} (h : RowOO w v rs) (hb : Below w.heap.size w w') : RowOO w' v rs := by
  obtain ⟨sl, h1, h2, h3⟩ := h
  exact ⟨sl, h1, h2.below hb, fun k a b => (h3 k a b).below hb⟩
theorem RowOO.lists {w : World} {v : Value} {rs : List (List OpT)} (h : RowOO w v rs) :
    ∃ a c, v = .slice a rs.length c ∧ rs.length ≤ c ∧ c ≤ maxLen ∧ ∀ k (hk : k < rs.length), ∃ g o a2 c2, a = some ⟨g, o, none⟩ ∧ g < w.heap.size ∧ w.cell? ⟨g, o + k, none⟩ = some (.slice a2 rs[k].length c2) ∧ RowO w (.slice a2 rs[k].length c2) rs[k] := by
  obtain ⟨sl, h1, ⟨a, c, hv, h2, h3, hat⟩, hr⟩ := h
  refine ⟨a, c, by rw [hv, h1], by omega, h3, fun k hk => ?_⟩
  obtain ⟨g, o, ha, hg, hc⟩ := hat k (by omega)
  have hrk := hr k (by omega) hk
  obtain ⟨a2, c2, he, _⟩ := hrk.ops
  rw [he] at hc hrk
  exact ⟨g, o, a2, c2, ha, hg, hc, hrk⟩
theorem elemOO : Elem 28 50 (.slice none 0 0) 24 := ⟨Tryz.underlying28, by kernel_rfl, rfl, by decide⟩

/-- Two lists that do not lie in one block. -/
def ApartO (p q : Value × List OpT) : Prop := ∀ b, p.1.ownBlock = some b → q.1.ownBlock ≠ some b
theorem ApartO.symm {p q : Value × List OpT} (h : ApartO p q) : ApartO q p := fun b h1 h2 => h b h2 h1
/-- Lists of ops of the call's own, no two in one block. -/
def ListsO (B : Nat) (w : World) (L : List (Value × List OpT)) : Prop := (∀ p ∈ L, w.ownsRow B 158 3 p.1 p.2.length (OC p.2)) ∧ L.Pairwise ApartO
theorem ListsO.below {B : Nat} {w w' : World} {L : List (Value × List OpT)} (h : ListsO B w L) (hb : Below w.heap.size w w') : ListsO B w' L := ⟨fun p hp => own_belowG (h.1 p hp) hb, h.2⟩
theorem ListsO.base {B B' : Nat} {w : World} {L : List (Value × List OpT)} (h : ListsO B w L) (hB : B' ≤ B) : ListsO B' w L := ⟨fun p hp => own_baseG (h.1 p hp) hB, h.2⟩
theorem ListsO.snoc {B B2 : Nat} {w w' : World} {L : List (Value × List OpT)} {v : Value} {l : List OpT} (h : ListsO B w L) (hb : Below w.heap.size w w') (hown : w'.ownsRow B2 158 3 v l.length (OC l)) (h2 : w.heap.size ≤ B2) (hB : B ≤ B2) :
    ListsO B w' (L ++ [(v, l)]) := by
  refine ⟨fun p hp => ?_, ?_⟩
  · rw [List.mem_append, List.mem_singleton] at hp
    rcases hp with hp | rfl
    · exact own_belowG (h.1 p hp) hb
    · exact own_baseG hown hB
  · rw [List.pairwise_append]
    refine ⟨h.2, by simp, fun p hp q hq b hpb hqb => ?_⟩
    rw [List.mem_singleton] at hq
    subst hq
    have h1 := ((h.1 p hp).lt b hpb).2
    have h2' := (hown.lt b hqb).1
    omega
theorem own_typesG {w : World} {B B' e e' n n' z z' : Nat} {v v' : Value} {xs xs' : List Value} (h : w.ownsRow B e z v n xs) (h' : w.ownsRow B' e' z' v' n' xs') (hne : e ≠ e') : ∀ k, v.ownBlock = some k → v'.ownBlock ≠ some k := by
  intro k hk hk'
  rcases h.2 with ⟨hv, _⟩ | ⟨g, cap, cur, hv, _, hg, _⟩
  · rw [hv] at hk; simp [Value.ownBlock] at hk
  · rcases h'.2 with ⟨hv', _⟩ | ⟨g', cap', cur', hv', _, hg', _⟩
    · rw [hv'] at hk'; simp [Value.ownBlock] at hk'
    · rw [hv] at hk; rw [hv'] at hk'
      simp only [Value.ownBlock, Option.some.injEq] at hk hk'
      subst hk
      subst hk'
      rw [hg] at hg'
      simp at hg'
      exact hne hg'.2
theorem own_apartG {w w' : World} {B e n z : Nat} {v u : Value} {xs : List Value} (h : w.ownsRow B e z v n xs) (hg : w.grownBy w' u.ownBlock) (hne : ∀ k, u.ownBlock = some k → v.ownBlock ≠ some k) : w'.ownsRow B e z v n xs := by
  refine ⟨h.1, ?_⟩
  rcases h.2 with h0 | ⟨g, cap, cur, hv, hB, hh, r⟩
  · exact .inl h0
  · refine .inr ⟨g, cap, cur, hv, hB, (hg.block g (lt_of_block hh) (fun hi => hne g hi.symm (by rw [hv]; rfl))).trans hh, r⟩
/-- A list of another type has turned. -/
theorem ListsO.outer {B B' e n z : Nat} {w w' : World} {L : List (Value × List OpT)} {u : Value} {xs : List Value} (h : ListsO B w L) (ho : w.ownsRow B' e z u n xs) (he : e ≠ 158) (hg : w.grownBy w' u.ownBlock) : ListsO B w' L :=
  ⟨fun p hp => own_apartG (h.1 p hp) hg (own_typesG ho (h.1 p hp) he), h.2⟩
theorem own_setG {w : World} {B e n z : Nat} {v : Value} {xs : List Value} (h : w.ownsRow B e z v n xs) {p : Addr} (hp : p.block < B) (u : Value) : (w.setCell p u).ownsRow B e z v n xs := by
  refine ⟨h.1, ?_⟩
  rcases h.2 with h0 | ⟨g, cap, cur, hv, hg, hh, r⟩
  · exact .inl h0
  · exact .inr ⟨g, cap, cur, hv, hg, (Below.heap_setCell w p u g (by omega)).trans hh, r⟩
theorem ListsO.set {B : Nat} {w : World} {L : List (Value × List OpT)} (h : ListsO B w L) {p : Addr} (hp : p.block < B) (u : Value) : ListsO B (w.setCell p u) L := ⟨fun q hq => own_setG (h.1 q hq) hp u, h.2⟩
/-- A list of lists of ops of the call's own. -/
def OwnOO (B : Nat) (w : World) (v : Value) (sl : List Value) (rs : List (List OpT)) : Prop := sl.length = rs.length ∧ w.ownsRow B 50 1 v rs.length sl ∧ ListsO B w (sl.zip rs)
theorem zip_getO {sl : List Value} {rs : List (List OpT)} {k : Nat} (h1 : k < sl.length) (h2 : k < rs.length) : (sl[k], rs[k]) ∈ sl.zip rs := by
  rw [List.mem_iff_getElem]
  exact ⟨k, by simp; omega, by simp⟩
theorem OwnOO.view {B : Nat} {w : World} {v : Value} {sl : List Value} {rs : List (List OpT)} (h : OwnOO B w v sl rs) : RowOO w v rs :=
  ⟨sl, h.1, RowV.of_own h.2.1, fun _ h1 h2 => RowO.of_own (h.2.2.1 _ (zip_getO h1 h2))⟩
theorem OwnOO.below {B : Nat} {w w' : World} {v : Value} {sl : List Value} {rs : List (List OpT)} (h : OwnOO B w v sl rs) (hb : Below w.heap.size w w') : OwnOO B w' v sl rs := ⟨h.1, own_below h.2.1 hb, h.2.2.below hb⟩
theorem OwnOO.base {B B' : Nat} {w : World} {v : Value} {sl : List Value} {rs : List (List OpT)} (h : OwnOO B w v sl rs) (hB : B' ≤ B) : OwnOO B' w v sl rs := ⟨h.1, own_base h.2.1 hB, h.2.2.base hB⟩
theorem OwnOO.set {B : Nat} {w : World} {v : Value} {sl : List Value} {rs : List (List OpT)} (h : OwnOO B w v sl rs) {p : Addr} (hp : p.block < B) (u : Value) : OwnOO B (w.setCell p u) v sl rs := ⟨h.1, own_setI h.2.1 hp u, h.2.2.set hp u⟩

/-- How many ops there are. -/
def totalO (rs : List (List OpT)) : Nat := (rs.map List.length).sum
theorem totalO_append (a b : List (List OpT)) : totalO (a ++ b) = totalO a + totalO b := by simp [totalO]
theorem totalO_next {rs : List (List OpT)} {k : Nat} (hk : k < rs.length) : totalO (rs.take (k + 1)) = totalO (rs.take k) + rs[k].length := by
  rw [List.take_succ_eq_append_getElem hk, totalO_append]; rfl
theorem totalO_all {rs : List (List OpT)} {k : Nat} (hk : rs.length ≤ k) : totalO (rs.take k) = totalO rs := by rw [List.take_of_length_le hk]
theorem totalO_le {rs : List (List OpT)} {k : Nat} : totalO (rs.take k) ≤ totalO rs := by
  have := totalO_append (rs.take k) (rs.drop k)
  rw [List.take_append_drop] at this
  omega
theorem totalO_at {rs : List (List OpT)} {k : Nat} (hk : k < rs.length) : rs[k].length ≤ totalO rs := by
  have h1 := totalO_next hk
  have h2 := totalO_le (rs := rs) (k := k + 1)
  omega

set_option maxRecDepth 20000 in
set_option maxHeartbeats 2000000 in
theorem szOpSS_any (rs : List (List OpT)) (left : Nat) (v : Value) (w : World) (hrow : RowOO w v rs) (hx : ∀ l ∈ rs, ∀ f ∈ l, f.2.2.length ≤ maxLen) (hl : left ≤ 2000000) :
    Calls Tryz.prog 120 #[v, .int .i64 (left : Int)] w fun e w' => ∃ r : Int, e = .returned (.int .i64 r) ∧ r ≤ left ∧ (0 ≤ r → r + rs.length + totalO rs ≤ left) ∧ Below w.heap.size w w' := by
  obtain ⟨a, cap, rfl, hc1, hc2, hat⟩ := hrow.lists
  clear hrow
  unfold maxLen at hc2
  by_cases hlen : rs.length ≤ left
  · have hlen1 : decide ((left : Int) - (rs.length : Int) < 0) = false := by simp; omega
    go_enter Tryz.func120, Tryz.ntmps120
    go_wp2_with fail
    go_loopw [1, 5] (fun q i wr => ∃ (k r : Nat), k ≤ rs.length ∧ q = .int .i64 r ∧ i = .int .i64 k ∧ r + rs.length + totalO (rs.take k) ≤ left ∧ Hid (Below w.heap.size w wr)) (fun _ i _ => rs.length - (intOf i).toNat)
    case atStart => exact ⟨0, left - rs.length, Nat.zero_le _, by go_num, rfl, by simp [totalO]; omega, Below.refl _ _⟩
    case round =>
      obtain ⟨k, r, hk, rfl, rfl, hr1, HB⟩ := hrel
      by_cases hlt : k < rs.length
      · obtain ⟨g, o, a2, c2, rfl, hg, hcell0, hrk⟩ := hat k hlt
        have hcell := (HB.out.cell (p := ⟨g, o + k, none⟩) hg).trans hcell0
        have HC := Lib.hid (szOpS_any rs[k] r _ wr (hrk.below HB.out) (hx rs[k] (List.getElem_mem hlt)) (by omega))
        have HT := Lib.hid (totalO_next hlt)
        have HR := Lib.hid hr1
        have hr2 : r ≤ 2000000 := by omega
        clear hcell0 hat hrk hx hr1
        generalize rs[k].length = n at hcell HC HT
        go_wp2_with fail
        refine HC.out.mono ?_
        rintro e w1 ⟨r1, rfl, hle, hif, hb1⟩
        have HB1 := Lib.hid (HB.out.trans (hb1.mono HB.out.size))
        clear hb1 HC
        by_cases h0 : 0 ≤ r1
        · obtain ⟨r2, rfl⟩ : ∃ r2 : Nat, r1 = r2 := ⟨r1.toNat, by omega⟩
          have hd : decide ((r2 : Int) < 0) = false := decide_eq_false (by omega)
          have HS2 : Hid (r2 + rs.length + totalO (rs.take (k + 1)) ≤ left) := by have h1 := (hif h0).1; have h2 := HT.out; have h3 := HR.out; unfold Hid; omega
          clear hif
          go_wp2_with fail
          go_roundw
          case rel => exact ⟨k + 1, r2, by omega, rfl, by go_num, HS2.out, HB1⟩
          case measure => simp [intOf]; omega
        · have hd : decide (r1 < 0) = true := decide_eq_true (by omega)
          clear hif
          go_wp2_with fail
          go_ret
          exact ⟨-1, rfl, by omega, fun h => by omega, HB1.out⟩
      · have HS : Hid (r + rs.length + totalO rs ≤ left) := by have := hr1; rw [totalO_all (by omega)] at this; exact this
        clear hat hx hr1
        go_wp2_with fail
        go_ret
        exact ⟨r, rfl, by have := HS.out; omega, fun _ => by have := HS.out; omega, HB.out⟩
  · have hlen1 : decide ((left : Int) - (rs.length : Int) < 0) = true := by simp; omega
    clear hat hx
    go_enter Tryz.func120, Tryz.ntmps120
    go_wp2_with fail
    go_ret
    exact ⟨-1, rfl, by omega, fun h => by omega, Below.refl _ _⟩

/-- A copy of a list of lists of ops. -/
def ListsPostO (rs : List (List OpT)) (w : World) (e : Ending) (w' : World) : Prop := ∃ v' sl, e = .returned v' ∧ OwnOO w.heap.size w' v' sl rs ∧ Below w.heap.size w w'
theorem zip_snocO (sl : List Value) (rs : List (List OpT)) (k : Nat) (hk : k < rs.length) (hs : sl.length = k) (u : Value) : (sl ++ [u]).zip (rs.take (k + 1)) = sl.zip (rs.take k) ++ [(u, rs[k])] := by
  rw [List.take_succ_eq_append_getElem hk, List.zip_append (by rw [List.length_take]; omega)]
  rfl

set_option maxRecDepth 20000 in
set_option maxHeartbeats 2000000 in
theorem toOpSS_any (rs : List (List OpT)) (v : Value) (w : World) (hrow : RowOO w v rs) (hl : rs.length + totalO rs ≤ 2000000) :
    Calls Tryz.prog 123 #[v] w (ListsPostO rs w) := by
  obtain ⟨a, cap, rfl, hc1, hc2, hat⟩ := hrow.lists
  clear hrow
  unfold maxLen at hc2
  obtain ⟨w0, hmk, hown0, hb0⟩ := make_row elemOO rfl rs.length w (by omega)
  have HN0 := Lib.hid hown0
  have HB0 := Lib.hid hb0
  clear hown0 hb0
  go_enter Tryz.func123, Tryz.ntmps123
  go_wp2_with fail
  clear hmk
  go_loopw [4] (fun i wr => ∃ (k : Nat) (sl : List Value), k ≤ rs.length ∧ i = .int .i64 k ∧ sl.length = k ∧ wr.ownsRow w.heap.size 50 1 (.slice (some ⟨w.heap.size, 0, none⟩) rs.length rs.length) rs.length (sl ++ List.replicate (rs.length - k) (.slice none 0 0)) ∧ ListsO w.heap.size wr (sl.zip (rs.take k)) ∧ Below w.heap.size w wr) (fun i _ => rs.length - (intOf i).toNat)
  case atStart => exact ⟨0, [], Nat.zero_le _, rfl, rfl, by simpa using HN0.out, by simp [ListsO], HB0.out⟩
  case round =>
    clear HN0 HB0
    obtain ⟨k, sl, hk, rfl, hsl, hown, hls, hb⟩ := hrel
    have HO := Lib.hid hown
    have HL := Lib.hid hls
    have HB := Lib.hid hb
    by_cases hlt : k < rs.length
    · obtain ⟨g, o, a2, c2, rfl, hg, hcell0, hrk⟩ := hat k hlt
      have hcell : wr.cell? ⟨g, o + k, none⟩ = some (.slice a2 rs[k].length c2) := by rw [hb.cell (p := ⟨g, o + k, none⟩) hg]; exact hcell0
      have HC := Lib.hid (toOpS_any rs[k] _ wr (hrk.below hb) (by have := totalO_at hlt; omega))
      have HZ := Lib.hid (zip_snocO sl rs k hlt hsl)
      clear hcell0 hat hown hls hb hrk
      have hsl' := hsl
      generalize rs[k] = x at hcell HC HZ
      go_wp2_with fail
      refine HC.out.mono ?_
      rintro e w1 ⟨v1, rfl, hown1, hb1⟩
      have h2 := own_below HO.out hb1
      have hfz := h2.frozenAt k
      have hcz : w1.cell? ⟨w.heap.size, k, none⟩ = some (.slice none 0 0) := by rw [h2.cellAt k (by omega), get_sl sl _ _ k hsl' hlt]
      have hst := h2.stored k v1
      rw [set_sl sl v1 _ _ k hsl' hlt] at hst
      have HN1 := Lib.hid hst.1
      have HL1 := Lib.hid (((HL.out.snoc hb1 hown1 (Nat.le_refl _) HB.out.size).outer h2 (by decide) hst.2))
      have HB1 := Lib.hid ((bth HB.out hb1 (Nat.le_refl _)).trans (only_below hst.2 (Nat.le_refl _) (Nat.le_trans HB.out.size hb1.size)))
      rw [← HZ.out v1] at HL1
      obtain ⟨a3, c3, rfl⟩ := own_sliceG hown1
      clear hst h2 hown1 hb1 HO HL HB HC HZ hsl
      go_wp2_with fail
      go_roundw
      case rel => exact ⟨k + 1, _, by omega, by go_num, by simp [hsl'], HN1.out, HL1.out, HB1.out⟩
      case measure => simp [intOf]; omega
    · obtain rfl : k = rs.length := by omega
      have HN1 : Hid (OwnOO w.heap.size wr (.slice (some ⟨w.heap.size, 0, none⟩) rs.length rs.length) sl rs) := by
        rw [Nat.sub_self, List.replicate_zero, List.append_nil] at hown
        rw [List.take_length] at hls
        exact ⟨hsl, hown, hls⟩
      clear hown hls hb hat HO HL
      go_wp2_with fail
      go_ret
      exact ⟨_, _, rfl, HN1.out, HB.out⟩

theorem eqOpS_b {l m : List OpT} {v u : Value} {w : World} {b : Bool} (hr1 : RowO w v l) (hr2 : RowO w u m) (hl : l.length ≤ 2000000) (h : decide (l = m) = b) :
    Calls Tryz.prog 167 #[v, u] w fun e w' => e = .returned (.bool b) ∧ Below w.heap.size w w' := by
  subst h
  exact eqOpS_any l m v u w hr1 hr2 hl

set_option maxRecDepth 20000 in
set_option maxHeartbeats 2000000 in
theorem eqOpSS_any (l m : List (List OpT)) (v u : Value) (w : World) (hr1 : RowOO w v l) (hr2 : RowOO w u m) (hl : l.length + totalO l ≤ 2000000) :
    Calls Tryz.prog 126 #[v, u] w fun e w' => e = .returned (.bool (decide (l = m))) ∧ Below w.heap.size w w' := by
  obtain ⟨a, cap, rfl, hc1, hc2, hat⟩ := hr1.lists
  obtain ⟨a2, cap2, rfl, hc3, hc4, hat2⟩ := hr2.lists
  clear hr1 hr2
  unfold maxLen at hc2 hc4
  by_cases hlen : l.length = m.length
  · have hlen1 : ((l.length : Int) != (m.length : Int)) = false := by simp [hlen]
    have HLEN := Lib.hid hlen
    clear hlen
    go_enter Tryz.func126, Tryz.ntmps126
    go_wp2_with fail
    go_loopw [5] (fun i wr => ∃ k : Nat, k ≤ l.length ∧ i = .int .i64 k ∧ Hid (l.take k = m.take k) ∧ Below w.heap.size w wr) (fun i _ => l.length - (intOf i).toNat)
    case atStart => exact ⟨0, Nat.zero_le _, rfl, rfl, Below.refl _ _⟩
    case round =>
      obtain ⟨k, hk, rfl, HO, hb⟩ := hrel
      have HB := Lib.hid hb
      by_cases hlt : k < l.length
      · obtain ⟨g, o, b1, d1, rfl, hg, hcell0, hrk⟩ := hat k hlt
        obtain ⟨g2, o2, b2, d2, rfl, hg2, hcell02, hrk2⟩ := hat2 k (by have := HLEN.out; omega)
        have hcell : wr.cell? ⟨g, o + k, none⟩ = some (.slice b1 l[k].length d1) := by rw [hb.cell (p := ⟨g, o + k, none⟩) hg]; exact hcell0
        have hcell2 : wr.cell? ⟨g2, o2 + k, none⟩ = some (.slice b2 m[k].length d2) := by rw [hb.cell (p := ⟨g2, o2 + k, none⟩) hg2]; exact hcell02
        have hi1 : (k : Int) < (l.length : Int) := by omega
        have hlt2 : k < m.length := by have := HLEN.out; omega
        have hi2 : (k : Int) < (m.length : Int) := by omega
        have hx : l[k].length ≤ 2000000 := by have := totalO_at hlt; omega
        by_cases he : l[k] = m[k]
        · have HS := Lib.hid (same_next HO.out hlt hlt2 he)
          have HC := Lib.hid (fun W (h : Below w.heap.size w W) => eqOpS_b (hrk.below h) (hrk2.below h) hx (decide_eq_true he))
          clear hcell0 hcell02 hat hat2 hb hrk hrk2 hx he
          generalize l[k].length = n1 at hcell HC
          generalize m[k].length = n2 at hcell2 HC
          clear HO
          have ks := And.intro hcell hcell2
          have hgw : g < wr.heap.size := Nat.lt_of_lt_of_le hg HB.out.size
          have hgw2 : g2 < wr.heap.size := Nat.lt_of_lt_of_le hg2 HB.out.size
          clear hcell hcell2
          go_wp2_with fail
          go_region_held3 (fun w' => w'.cell? ⟨g, o + k, none⟩ = some (.slice b1 n1 d1) ∧ w'.cell? ⟨g2, o2 + k, none⟩ = some (.slice b2 n2 d2)) (first | exact ks)
            (first | (go_at_call 167; refine (HC.out _ (Below.drew HB.out)).mono ?_; rintro e w5 ⟨rfl, hb5⟩; have ks := And.intro ((hb5.cell (p := ⟨g, o + k, none⟩) hgw).trans ks.1) ((hb5.cell (p := ⟨g2, o2 + k, none⟩) hgw2).trans ks.2)))
          have HB5 := Lib.hid (bth (Below.drew HB.out) hb5 (Nat.le_refl _))
          clear hb5 ks
          go_wp2_with fail
          go_roundw
          case rel => exact ⟨k + 1, by omega, by go_num, HS, HB5.out⟩
          case measure => simp [intOf]; omega
        · have HS : Hid (decide (l = m) = false) := decide_eq_false (same_not hlt hlt2 he)
          have HC := Lib.hid (fun W (h : Below w.heap.size w W) => eqOpS_b (hrk.below h) (hrk2.below h) hx (decide_eq_false he))
          clear hcell0 hcell02 hat hat2 hb hrk hrk2 hx he
          generalize l[k].length = n1 at hcell HC
          generalize m[k].length = n2 at hcell2 HC
          clear HO
          have ks := And.intro hcell hcell2
          have hgw : g < wr.heap.size := Nat.lt_of_lt_of_le hg HB.out.size
          have hgw2 : g2 < wr.heap.size := Nat.lt_of_lt_of_le hg2 HB.out.size
          clear hcell hcell2
          go_wp2_with fail
          go_region_held3 (fun w' => w'.cell? ⟨g, o + k, none⟩ = some (.slice b1 n1 d1) ∧ w'.cell? ⟨g2, o2 + k, none⟩ = some (.slice b2 n2 d2)) (first | exact ks)
            (first | (go_at_call 167; refine (HC.out _ (Below.drew HB.out)).mono ?_; rintro e w5 ⟨rfl, hb5⟩; have ks := And.intro ((hb5.cell (p := ⟨g, o + k, none⟩) hgw).trans ks.1) ((hb5.cell (p := ⟨g2, o2 + k, none⟩) hgw2).trans ks.2)))
          have HB5 := Lib.hid (bth (Below.drew HB.out) hb5 (Nat.le_refl _))
          clear hb5 ks
          go_wp2_with fail
          go_ret
          exact ⟨ret_bool HS.out.symm, HB5.out⟩
      · have HS : Hid (decide (l = m) = true) := decide_eq_true (same_all HO.out (by omega) (by have := HLEN.out; omega))
        clear HO hat hat2 hb
        go_wp2_with fail
        go_ret
        exact ⟨ret_bool HS.out.symm, HB.out⟩
  · have hlen1 : ((l.length : Int) != (m.length : Int)) = true := by simp; omega
    have HS : Hid (decide (l = m) = false) := decide_eq_false (fun h => hlen (by rw [h]))
    clear hat hat2
    go_enter Tryz.func126, Tryz.ntmps126
    go_wp2_with fail
    go_ret
    exact ⟨ret_bool HS.out.symm, Below.refl _ _⟩


end Go.Proofs.YtcfhfhpdnjaokaaGreatDoor

/- Plans in memory, wherever they lie and as0 memory of the call's own; the laws' helpers on them: how large, copies, whether they are the same. -/
namespace Go.Proofs.YtcfhfhpdnjaokaaGreatDoor
open Go.RowKit Pth

/-- A plan, wherever it lies. -/
def PlanV (w : World) (v : Value) (ls : List (List Int)) (l : List Int) (bs : List Bool) (rs : List (List OpT)) : Prop :=
  ∃ nv ov sv rv, v = .agg #[nv, ov, sv, rv] ∧ RowN w nv ls ∧ RowV w ov (I l) ∧ RowV w sv (BL bs) ∧ RowOO w rv rs
theorem PlanV.below {w w' : World} {v : Value} {ls : List (List Int)} {l : List Int} {bs : List Bool} {rs : List (List OpT)} (h : PlanV w v ls l bs rs) (hb : Below w.heap.size w w') : PlanV w' v ls l bs rs := by
  obtain ⟨nv, ov, sv, rv, hv, h1, h2, h3, h4⟩ := h
  exact ⟨nv, ov, sv, rv, hv, h1.below hb, h2.below hb, h3.below hb, h4.below hb⟩
/-- How large a plan is. -/
def planZ (ls : List (List Int)) (l : List Int) (bs : List Bool) (rs : List (List OpT)) : Nat := ls.length + total ls + l.length + bs.length + rs.length + totalO rs

theorem GraphO.set {B : Nat} {w : World} {v : Value} {ls : List (List Int)} {l : List Int} (h : GraphO B w v ls l) {p : Addr} (hp : p.block < B) (u : Value) : GraphO B (w.setCell p u) v ls l := by
  obtain ⟨nv, ov, sl, hv, h1, h2, h3⟩ := h
  exact ⟨nv, ov, sl, hv, h1, own_setI h2 hp u, h3.set hp u⟩
/-- A plan of the call's own. -/
def PlanO (B : Nat) (w : World) (v : Value) (ls : List (List Int)) (l : List Int) (bs : List Bool) (rs : List (List OpT)) : Prop :=
  ∃ nv ov sv rv so, v = .agg #[nv, ov, sv, rv] ∧ GraphO B w (.agg #[nv, ov]) ls l ∧ w.ownsRow B 4 1 sv bs.length (BL bs) ∧ OwnOO B w rv so rs
theorem PlanO.view {B : Nat} {w : World} {v : Value} {ls : List (List Int)} {l : List Int} {bs : List Bool} {rs : List (List OpT)} (h : PlanO B w v ls l bs rs) : PlanV w v ls l bs rs := by
  obtain ⟨nv, ov, sv, rv, so, hv, h1, h2, h3⟩ := h
  obtain ⟨nv', ov', he, h4, h5⟩ := h1.view
  simp only [Value.agg.injEq, Array.mk.injEq, List.cons.injEq, and_true] at he
  obtain ⟨rfl, rfl⟩ := he
  exact ⟨nv, ov, sv, rv, hv, h4, h5, RowV.of_own h2, h3.view⟩
theorem PlanO.below {B : Nat} {w w' : World} {v : Value} {ls : List (List Int)} {l : List Int} {bs : List Bool} {rs : List (List OpT)} (h : PlanO B w v ls l bs rs) (hb : Below w.heap.size w w') : PlanO B w' v ls l bs rs := by
  obtain ⟨nv, ov, sv, rv, so, hv, h1, h2, h3⟩ := h
  exact ⟨nv, ov, sv, rv, so, hv, h1.below hb, own_below h2 hb, h3.below hb⟩

/-- A block of four cells. -/
def Blk4 (w : World) (b t : Nat) (x y z u : Value) : Prop := w.heap[b]? = some (.cells #[x, y, z, u] t (0, 0))
theorem Blk4.cells {w : World} {b t : Nat} {x y z u : Value} (h : Blk4 w b t x y z u) : w.cell? ⟨b, 0, none⟩ = some x ∧ w.cell? ⟨b, 1, none⟩ = some y ∧ w.cell? ⟨b, 2, none⟩ = some z ∧ w.cell? ⟨b, 3, none⟩ = some u := by
  refine ⟨?_, ?_, ?_, ?_⟩ <;> rw [cell_of_row w b _ _ t (0, 0) h] <;> rfl
theorem Blk4.soft {w : World} {b t : Nat} {x y z u : Value} (h : Blk4 w b t x y z u) (j : Nat) : w.frozen? ⟨b, j, none⟩ = false := frozen_of_row w b j _ t h
theorem Blk4.set0 {w : World} {b t : Nat} {x y z u : Value} (h : Blk4 w b t x y z u) (n : Value) : Blk4 (w.setCell ⟨b, 0, none⟩ n) b t n y z u := heap_setCell_same w b 0 _ t n h
theorem Blk4.set1 {w : World} {b t : Nat} {x y z u : Value} (h : Blk4 w b t x y z u) (n : Value) : Blk4 (w.setCell ⟨b, 1, none⟩ n) b t x n z u := heap_setCell_same w b 1 _ t n h
theorem Blk4.set2 {w : World} {b t : Nat} {x y z u : Value} (h : Blk4 w b t x y z u) (n : Value) : Blk4 (w.setCell ⟨b, 2, none⟩ n) b t x y n u := heap_setCell_same w b 2 _ t n h
theorem Blk4.set3 {w : World} {b t : Nat} {x y z u : Value} (h : Blk4 w b t x y z u) (n : Value) : Blk4 (w.setCell ⟨b, 3, none⟩ n) b t x y z n := heap_setCell_same w b 3 _ t n h
theorem Blk4.below {w w' : World} {B b t : Nat} {x y z u : Value} (h : Blk4 w b t x y z u) (hb : Below B w w') (hlt : b < B) : Blk4 w' b t x y z u := (hb.block b hlt).trans h
theorem Blk4.new {w : World} {t : Nat} {x y z u : Value} : Blk4 (w.alloc (.cells #[x, y, z, u] t)) w.heap.size t x y z u := heap_alloc_new w _
theorem Blk4.old {w : World} {b t : Nat} {x y z u : Value} (h : Blk4 w b t x y z u) (o : Obj) : Blk4 (w.alloc o) b t x y z u := (Below.heap_alloc w o b (lt_of_block h)).trans h
theorem Blk4.other {w : World} {b t : Nat} {x y z u : Value} (h : Blk4 w b t x y z u) {p : Addr} (hp : b ≠ p.block) (n : Value) : Blk4 (w.setCell p n) b t x y z u := (Below.heap_setCell w p n b hp).trans h

set_option maxRecDepth 20000 in
set_option maxHeartbeats 2000000 in
theorem szPlan_any (ls : List (List Int)) (l : List Int) (bs : List Bool) (rs : List (List OpT)) (left : Nat) (v : Value) (w : World) (hp : PlanV w v ls l bs rs) (hx : ∀ l ∈ rs, ∀ f ∈ l, f.2.2.length ≤ maxLen) (hl : left ≤ 2000000) :
    Calls Tryz.prog 53 #[v, .int .i64 (left : Int)] w fun e w' => ∃ r : Int, e = .returned (.int .i64 r) ∧ r ≤ left ∧ (0 ≤ r → r + planZ ls l bs rs ≤ left) ∧ Below w.heap.size w w' := by
  obtain ⟨nv, ov, sv, rv, rfl, h1, h2, h3, h4⟩ := hp
  obtain ⟨as0, cs, rfl, hs1, hs2, _⟩ := h3.boolsW
  obtain ⟨an, cn, rfl, _⟩ := h1.lists
  obtain ⟨ao, co, rfl, _⟩ := h2.ints
  obtain ⟨ar, cr, rfl, _⟩ := h4.lists
  have hbl : bs.length ≤ maxLen := by omega
  obtain ⟨wa, hwa⟩ : ∃ wa, wa = w.alloc (.cells #[.slice an ls.length cn, .slice ao l.length co, .slice as0 bs.length cs, .slice ar rs.length cr] 76) := ⟨_, rfl⟩
  have P0 : Hid (Blk4 wa w.heap.size 76 (.slice an ls.length cn) (.slice ao l.length co) (.slice as0 bs.length cs) (.slice ar rs.length cr)) := by rw [hwa]; exact Blk4.new
  have hsz : wa.heap.size = w.heap.size + 1 := by rw [hwa]; simp
  have HA : Hid (Below w.heap.size w wa) := by rw [hwa]; exact (Below.refl w.heap.size w).alloc (Nat.le_refl _) _
  have HG : Hid (GraphV wa (.agg #[.slice an ls.length cn, .slice ao l.length co]) ls l) := ⟨_, _, rfl, h1.below HA.out, h2.below HA.out⟩
  have H4 := Lib.hid h4
  have HX := Lib.hid hx
  have HWA := Lib.hid hwa
  clear hwa h1 h2 h3 h4 hx
  go_enter Tryz.func53, Tryz.ntmps53
  go_wp2_with fail
  rw [← HWA.out]
  refine (szGraph_any ls l left _ wa HG.out hl).mono ?_
  rintro e w1 ⟨r1, rfl, hr1, hb1⟩
  have HR1 := Lib.hid hr1
  have HB1 := Lib.hid (bth HA.out hb1 (Nat.le_refl _))
  have P1 := Lib.hid (P0.out.below hb1 (by omega))
  clear hr1 hb1
  by_cases p1 : 0 ≤ r1
  · obtain ⟨n1, rfl⟩ : ∃ n1 : Nat, r1 = n1 := ⟨r1.toNat, by omega⟩
    have HQ := Lib.hid (HR1.out p1)
    have q1 : n1 ≤ 2000000 := by have := HQ.out; omega
    have t1 : decide ((n1 : Int) < 0) = false := decide_eq_false (by omega)
    have c2 := P1.out.cells.2.2.1
    clear HR1
    go_wp2_with fail
    refine (szBoolS_any as0 bs.length cs n1 w1 hbl q1).mono ?_
    rintro e w2 ⟨r2, rfl, hr2, rfl⟩
    have HR2 := Lib.hid hr2
    clear hr2
    by_cases p2 : 0 ≤ r2
    · obtain ⟨n2, rfl⟩ : ∃ n2 : Nat, r2 = n2 := ⟨r2.toNat, by omega⟩
      have HQ2 := Lib.hid (HR2.out p2)
      have q2 : n2 ≤ 2000000 := by have := HQ2.out; omega
      have t2 : decide ((n2 : Int) < 0) = false := decide_eq_false (by omega)
      have c3 := P1.out.cells.2.2.2
      clear HR2
      go_wp2_with fail
      refine (szOpSS_any rs n2 _ w1 (H4.out.below HB1.out) HX.out q2).mono ?_
      rintro e w3 ⟨r3, rfl, hle3, hr3, hb3⟩
      have HR3 := Lib.hid hr3
      have HB3 := Lib.hid (bth HB1.out hb3 (Nat.le_refl _))
      clear hr3 hb3
      by_cases p3 : 0 ≤ r3
      · have t3 : decide (r3 < 0) = false := decide_eq_false (by omega)
        go_wp2_with fail
        go_ret
        exact ⟨r3, rfl, by have := HQ.out; have := HQ2.out; omega, fun h => by have h1 := HQ.out; have h2 := HQ2.out; have h3 := HR3.out h; unfold planZ; omega, HB3.out⟩
      · have t3 : decide (r3 < 0) = true := decide_eq_true (by omega)
        go_wp2_with fail
        go_ret
        exact ⟨-1, rfl, by omega, fun h => by omega, HB3.out⟩
    · have t2 : decide (r2 < 0) = true := decide_eq_true (by omega)
      go_wp2_with fail
      go_ret
      exact ⟨-1, rfl, by omega, fun h => by omega, HB1.out⟩
  · have t1 : decide (r1 < 0) = true := decide_eq_true (by omega)
    clear HR1
    go_wp2_with fail
    go_ret
    exact ⟨-1, rfl, by omega, fun h => by omega, HB1.out⟩

set_option maxRecDepth 20000 in
set_option maxHeartbeats 2000000 in
theorem eqPlan_same (ls : List (List Int)) (l : List Int) (bs : List Bool) (rs : List (List OpT)) (v u : Value) (w : World) (hp : PlanV w v ls l bs rs) (hq : PlanV w u ls l bs rs) (hz : planZ ls l bs rs ≤ 2000000) :
    Calls Tryz.prog 58 #[v, u] w fun e w' => e = .returned (.bool true) ∧ Below w.heap.size w w' := by
  obtain ⟨nv, ov, sv, rv, rfl, h1, h2, h3, h4⟩ := hp
  obtain ⟨nu, ou, su, ru, rfl, k1, k2, k3, k4⟩ := hq
  unfold planZ at hz
  have H3 := Lib.hid h3
  have H4 := Lib.hid h4
  have K3 := Lib.hid k3
  have K4 := Lib.hid k4
  obtain ⟨as0, cs, rfl, _⟩ := h3.boolsW
  obtain ⟨an, cn, rfl, _⟩ := h1.lists
  obtain ⟨ao, co, rfl, _⟩ := h2.ints
  obtain ⟨ar, cr, rfl, _⟩ := h4.lists
  obtain ⟨bs', ds, rfl, _⟩ := k3.boolsW
  obtain ⟨bn, dn, rfl, _⟩ := k1.lists
  obtain ⟨bo, do', rfl, _⟩ := k2.ints
  obtain ⟨br, dr, rfl, _⟩ := k4.lists
  obtain ⟨wa, hwa⟩ : ∃ wa, wa = (w.alloc (.cells #[.slice an ls.length cn, .slice ao l.length co, .slice as0 bs.length cs, .slice ar rs.length cr] 30)).alloc (.cells #[.slice bn ls.length dn, .slice bo l.length do', .slice bs' bs.length ds, .slice br rs.length dr] 30) := ⟨_, rfl⟩
  have hsz : wa.heap.size = w.heap.size + 2 := by rw [hwa]; simp
  have P0 : Hid (Blk4 wa w.heap.size 30 (.slice an ls.length cn) (.slice ao l.length co) (.slice as0 bs.length cs) (.slice ar rs.length cr)) := by rw [hwa]; exact Blk4.new.old _
  have O0 : Hid (Blk4 wa (w.heap.size + 1) 30 (.slice bn ls.length dn) (.slice bo l.length do') (.slice bs' bs.length ds) (.slice br rs.length dr)) := by
    rw [hwa]
    have := Blk4.new (w := w.alloc (.cells #[.slice an ls.length cn, .slice ao l.length co, .slice as0 bs.length cs, .slice ar rs.length cr] 30)) (t := 30) (x := .slice bn ls.length dn) (y := .slice bo l.length do') (z := .slice bs' bs.length ds) (u := .slice br rs.length dr)
    simpa [Hid] using this
  have HA : Hid (Below w.heap.size w wa) := by rw [hwa]; exact ((Below.refl w.heap.size w).alloc (Nat.le_refl _) _).alloc (by simp) _
  have HG : Hid (GraphV wa (.agg #[.slice an ls.length cn, .slice ao l.length co]) ls l) := ⟨_, _, rfl, h1.below HA.out, h2.below HA.out⟩
  have HK : Hid (GraphV wa (.agg #[.slice bn ls.length dn, .slice bo l.length do']) ls l) := ⟨_, _, rfl, k1.below HA.out, k2.below HA.out⟩
  have HWA := Lib.hid hwa
  clear hwa h1 h2 h3 h4 k1 k2 k3 k4
  go_enter Tryz.func58, Tryz.ntmps58
  go_wp2_with fail
  rw [← HWA.out]
  refine (eqGraph_any ls ls l l _ _ wa HG.out HK.out (by omega)).mono ?_
  rw [sameG_self]
  rintro e w1 ⟨rfl, hb1⟩
  have HB1 := Lib.hid (bth HA.out hb1 (Nat.le_refl _))
  have P1 := Lib.hid (P0.out.below hb1 (by omega))
  have O1 := Lib.hid (O0.out.below hb1 (by omega))
  have hs1 := hb1.size
  have c2 := P1.out.cells.2.2.1
  have d2 := O1.out.cells.2.2.1
  clear hb1
  go_wp2_with fail
  refine (eqBoolS_any bs bs _ _ w1 (H3.out.below HB1.out) (K3.out.below HB1.out) (by omega)).mono ?_
  rw [decide_eq_true (rfl : bs = bs)]
  rintro e w2 ⟨rfl, hb2⟩
  have HB2 := Lib.hid (bth HB1.out hb2 (Nat.le_refl _))
  have c3 := (P1.out.below hb2 (by omega)).cells.2.2.2
  have d3 := (O1.out.below hb2 (by omega)).cells.2.2.2
  clear hb2 c2 d2
  go_wp2_with fail
  refine (eqOpSS_any rs rs _ _ w2 (H4.out.below HB2.out) (K4.out.below HB2.out) (by omega)).mono ?_
  rw [decide_eq_true (rfl : rs = rs)]
  rintro e w3 ⟨rfl, hb3⟩
  have HB3 := Lib.hid (bth HB2.out hb3 (Nat.le_refl _))
  clear hb3 c3 d3
  go_wp2_with fail
  go_ret
  exact ⟨rfl, HB3.out⟩

theorem load_plan {w : World} {b : Nat} {x y z u : Value} (h : Blk4 w b 30 x y z u) : (loadVar 30 ⟨b, 0, none⟩).run Tryz.prog w = .ok (.agg #[x, y, z, u]) w := by
  obtain ⟨h0, h1, h2, h3⟩ := h.cells
  clear h
  go_simp
end Go.Proofs.YtcfhfhpdnjaokaaGreatDoor

/- What the rows of chapter 7 share: how texts, ops, bools, results and plans that came in read. -/
namespace Go.Proofs.YtcfhfhpdnjaokaaGreatDoor
open Go.ChangeShapes Go.WideShapes Go.ChangeAt Go.RowKit Pth

/-- A slice of texts that came in. -/
theorem texts_cells {H : Type} {enc : TypeId × Value → H} {W : World} {fuel : Nat} {v : Value} {x : DataW H × List MemPlace}
    (h : DataW.trod enc Tryz.prog W 0 (fun _ => true) true fuel 31 [v] = some x) : ∃ l : List (List UInt8), RowV W v (S l) ∧ ∀ x ∈ l, x.length ≤ maxLen := by
  rcases open_strings Tryz.underlying31 Tryz.underlying9 (by kernel_rfl) h with ⟨hcs, _⟩ | ⟨x, len, cap, ss, hcs, _, hl, hm, hz, hx, hcell, hws⟩
  · simp at hcs
    subst hcs
    exact ⟨[], ⟨none, 0, rfl, Nat.le_refl _, by unfold maxLen; omega, fun k hk => absurd hk (by simp [S])⟩, fun x hx => by simp at hx⟩
  · simp at hcs
    subst hcs
    simp only [if_true] at hz
    have hlen : ((ss.take len).map (·.data.toList)).length = len := by rw [List.length_map, List.length_take]; omega
    refine ⟨(ss.take len).map (·.data.toList), ⟨some x, cap, by rw [S_len, hlen], by rw [S_len, hlen]; omega, by omega, fun k hk => ?_⟩, fun y hy => ?_⟩
    · rw [S_len, hlen] at hk
      have hc := hcell k (by omega)
      have h0 := hcell 0 (by omega)
      obtain ⟨b, off, spot⟩ := x
      have hspot : spot = none := by simpa [Addr.add] using World.cell?_spot h0
      subst hspot
      rw [add_addr] at hc
      refine ⟨b, off, rfl, World.block_lt_of_cell? _ _ hc, ?_⟩
      rw [hc]
      simp only [S, List.getElem_map, List.getElem_take]
      rw [List.getD_eq_getElem?_getD, List.getElem?_eq_getElem (by omega)]
      rfl
    · simp only [List.mem_map] at hy
      obtain ⟨z, hz1, rfl⟩ := hy
      have := hws z (List.mem_of_mem_take hz1)
      show z.data.toList.length ≤ maxLen
      rw [Array.length_toList]
      exact this

/-- A slice of results that came in. -/
theorem res_cells {H : Type} {enc : TypeId × Value → H} {W : World} {fuel : Nat} {v : Value} {x : DataW H × List MemPlace}
    (h : DataW.trod enc Tryz.prog W 0 (fun _ => true) true fuel 85 [v] = some x) : ∃ l : List ResT, RowR W v l ∧ ∀ f ∈ l, f.1.length ≤ maxLen := by
  rcases Deep.open_slice_pairs Tryz.underlying85 Tryz.underlying150 (by kernel_rfl) rfl rfl (by kernel_rfl) (by kernel_rfl) h with ⟨hcs, _⟩ | ⟨a, len, cap, m, n, V0, V1, D0, D1, P0, P1, hcs, _, hl, hm, hmm, _, hc⟩
  · simp at hcs
    subst hcs
    exact ⟨[], ⟨none, 0, rfl, rfl, Nat.le_refl _, by unfold maxLen; omega, fun k hk => absurd hk (by simp [RC])⟩, fun f hf => by simp at hf⟩
  · simp at hcs
    subst hcs
    simp only [if_true] at hmm
    have each : ∀ i, i < m → ∃ q : ResT, W.cell? (a.add (i * 2)) = some (.string ⟨q.1.toArray⟩) ∧ W.cell? (a.add (i * 2 + 1)) = some (.int .i64 q.2) ∧ q.1.length ≤ maxLen := by
      intro i hi
      obtain ⟨c0, c1, t0, t1⟩ := hc i hi
      obtain ⟨s0, e0, _, z0⟩ := DataW.trod_string Tryz.underlying9 t0
      obtain ⟨n1, e1, _, _⟩ := DataW.trod_int Tryz.underlying3 t1
      simp at e0 e1
      rw [e0] at c0
      rw [e1] at c1
      exact ⟨(s0.data.toList, n1), by simpa using c0, by simpa using c1, by show s0.data.toList.length ≤ _; rw [Array.length_toList]; exact z0⟩
    obtain ⟨q, hq⟩ := Deep.choose_lt each
    have hlen : ((List.range len).map q).length = len := by simp
    refine ⟨(List.range len).map q, ⟨some a, cap, by rw [hlen], by rw [RC_len], by rw [hlen]; exact hl, hm, fun k hk => ?_⟩, fun f hf => ?_⟩
    · rw [RC_len, hlen] at hk
      obtain ⟨b, off, spot⟩ := a
      have h0 := (hq 0 (by omega)).1
      have hspot : spot = none := by simpa [Addr.add] using World.cell?_spot h0
      subst hspot
      have hi : k / 2 < len := by omega
      have hqi := hq (k / 2) (by omega)
      have hget : ((List.range len).map q)[k / 2]'(by rw [hlen]; exact hi) = q (k / 2) := by simp
      rw [add_addr, add_addr] at hqi
      refine ⟨b, off, rfl, World.block_lt_of_cell? _ _ hqi.1, ?_⟩
      have hat := RC_at (l := (List.range len).map q) (k := k / 2) (by rw [hlen]; exact hi)
      rw [hget] at hat
      have hkl : k < (RC ((List.range len).map q)).length := by rw [RC_len, hlen]; exact hk
      have hgk : (RC ((List.range len).map q))[k]? = some (RC ((List.range len).map q))[k] := List.getElem?_eq_getElem hkl
      rw [← hgk]
      rcases Nat.mod_two_eq_zero_or_one k with e | e
      · have ek : k = k / 2 * 2 := by omega
        have h1 := hat.1
        rw [← ek] at h1
        rw [h1, ← hqi.1]
        congr 2
        omega
      · have ek : k = k / 2 * 2 + 1 := by omega
        have h1 := hat.2
        rw [← ek] at h1
        rw [h1, ← hqi.2.1]
        congr 2
        omega
    · obtain ⟨i, hi, rfl⟩ := List.mem_map.1 hf
      have := hq i (by have := List.mem_range.1 hi; omega)
      exact this.2.2
/-- A struct of three fields, a cell each. -/
theorem three_cells {H : Type} {enc : TypeId × Value → H} {P : Program} {w : World} {base : Nat} {spare : Nat → Bool} {held : Bool} {t : TypeId} {f0 f1 f2 : Field} {n : Nat} {cs : List Value} {x : DataW H × List MemPlace}
    (he : P.underlying t = some (.struct #[f0, f1, f2])) (o0 : f0.offset = 0) (o1 : f1.offset = 1) (o2 : f2.offset = 2) (c0 : P.cellsOf f0.type = 1) (c1 : P.cellsOf f1.type = 1) (c2 : P.cellsOf f2.type = 1)
    (h : DataW.trod enc P w base spare held n t cs = some x) (hl : cs.length = 3) :
    ∃ (v0 v1 v2 : Value) (y0 y1 y2 : DataW H × List MemPlace) (k : Nat), cs = [v0, v1, v2] ∧ DataW.trod enc P w base spare held k f0.type [v0] = some y0 ∧ DataW.trod enc P w base spare held k f1.type [v1] = some y1 ∧ DataW.trod enc P w base spare held k f2.type [v2] = some y2 := by
  obtain ⟨xs, k, hk, hxy, _, hxl, hf⟩ := DataW.trod_struct he h
  match xs, hxl, cs, hl with
  | [y0, y1, y2], _, [v0, v1, v2], _ =>
    have g0 := hf 0 f0 rfl
    have g1 := hf 1 f1 rfl
    have g2 := hf 2 f2 rfl
    simp [o0, o1, o2, c0, c1, c2] at g0 g1 g2
    exact ⟨v0, v1, v2, y0, y1, y2, k, rfl, g0, g1, g2⟩

/-- A list of ops that came in. -/
theorem ops_cells {H : Type} {enc : TypeId × Value → H} {W : World} {fuel : Nat} {v : Value} {x : DataW H × List MemPlace}
    (hf : DataW.trod enc Tryz.prog W 0 (fun _ => true) true fuel 181 [v] = some x) : ∃ l : List OpT, RowO W v l ∧ ∀ f ∈ l, f.2.2.length ≤ maxLen := by
  rcases Deep.open_slice Tryz.underlying181 hf with ⟨hcs, _⟩ | ⟨a, len, cap, m, n, D, Pl, hcs, hb, hl, hm, hmm, _, hx⟩
  · simp at hcs
    subst hcs
    exact ⟨[], ⟨none, 0, rfl, rfl, Nat.le_refl _, by unfold maxLen; omega, fun k hk => absurd hk (by simp [OC])⟩, fun f hf => by simp at hf⟩
  · simp at hcs
    subst hcs
    simp only [if_true] at hmm
    have each : ∀ i, i < m → ∃ q : OpT, W.cell? ((a.add (i * 3)).add 0) = some (.int .i64 q.1) ∧ W.cell? ((a.add (i * 3)).add 1) = some (.int .i64 q.2.1) ∧ W.cell? ((a.add (i * 3)).add 2) = some (.string ⟨q.2.2.toArray⟩) ∧ q.2.2.length ≤ maxLen := by
      intro i hi
      obtain ⟨cs', h1, h2⟩ := hx i hi
      rw [show Tryz.prog.cellsOf 216 = 3 by kernel_rfl] at h1
      obtain ⟨_, hlen, hcell⟩ := World.cells?_some h1
      obtain ⟨v0, v1, v2, y0, y1, y2, k, rfl, g0, g1, g2⟩ := three_cells Tryz.underlying216 rfl rfl rfl (by kernel_rfl) (by kernel_rfl) (by kernel_rfl) h2 hlen
      obtain ⟨n0, e0, _, _⟩ := DataW.trod_int Tryz.underlying3 g0
      obtain ⟨n1, e1, _, _⟩ := DataW.trod_int Tryz.underlying3 g1
      obtain ⟨s2, e2, _, z2⟩ := DataW.trod_string Tryz.underlying9 g2
      simp at e0 e1 e2
      subst e0 e1 e2
      have q0 := hcell 0 (by omega)
      have q1 := hcell 1 (by omega)
      have q2 := hcell 2 (by omega)
      exact ⟨(n0, n1, s2.data.toList), by simpa using q0, by simpa using q1, by simpa using q2, by show s2.data.toList.length ≤ _; rw [Array.length_toList]; exact z2⟩
    obtain ⟨q, hq⟩ := Deep.choose_lt each
    have hlen : ((List.range len).map q).length = len := by simp
    refine ⟨(List.range len).map q, ⟨some a, cap, by rw [hlen], by rw [OC_len], by rw [hlen]; exact hl, hm, fun k hk => ?_⟩, fun f hf => ?_⟩
    · rw [OC_len, hlen] at hk
      obtain ⟨b, off, spot⟩ := a
      have h0 := (hq 0 (by omega)).1
      have hspot : spot = none := by simpa [Addr.add] using World.cell?_spot h0
      subst hspot
      have hi : k / 3 < len := by omega
      have hqi := hq (k / 3) (by omega)
      have hget : ((List.range len).map q)[k / 3]'(by rw [hlen]; exact hi) = q (k / 3) := by simp
      rw [add_addr, add_addr, add_addr, add_addr] at hqi
      refine ⟨b, off, rfl, World.block_lt_of_cell? _ _ hqi.1, ?_⟩
      have hat := OC_at (l := (List.range len).map q) (k := k / 3) (by rw [hlen]; exact hi)
      rw [hget] at hat
      have hm3 : k % 3 = 0 ∨ k % 3 = 1 ∨ k % 3 = 2 := by omega
      have hkl : k < (OC ((List.range len).map q)).length := by rw [OC_len, hlen]; exact hk
      have hgk : (OC ((List.range len).map q))[k]? = some (OC ((List.range len).map q))[k] := List.getElem?_eq_getElem hkl
      rw [← hgk]
      rcases hm3 with e | e | e
      · have ek : k = k / 3 * 3 := by omega
        have h1 := hat.1
        rw [← ek] at h1
        rw [h1, ← hqi.1]
        congr 2
        omega
      · have ek : k = k / 3 * 3 + 1 := by omega
        have h1 := hat.2.1
        rw [← ek] at h1
        rw [h1, ← hqi.2.1]
        congr 2
        omega
      · have ek : k = k / 3 * 3 + 2 := by omega
        have h1 := hat.2.2
        rw [← ek] at h1
        rw [h1, ← hqi.2.2.1]
        congr 2
        omega
    · simp only [List.mem_map, List.mem_range] at hf
      obtain ⟨i, hi, rfl⟩ := hf
      exact (hq i (by omega)).2.2.2

/-- A slice of lists of ops that came in. -/
theorem opss_cells {H : Type} {enc : TypeId × Value → H} {W : World} {fuel : Nat} {v : Value} {x : DataW H × List MemPlace}
    (h : DataW.trod enc Tryz.prog W 0 (fun _ => true) true fuel 74 [v] = some x) : ∃ ls : List (List OpT), RowOO W v ls ∧ ∀ l ∈ ls, ∀ f ∈ l, f.2.2.length ≤ maxLen := by
  rcases Deep.open_slice Tryz.underlying74 h with ⟨hcs, _⟩ | ⟨a, len, cap, m, n, D, Pl, hcs, hb, hl, hm, hmm, _, hx⟩
  · simp at hcs
    subst hcs
    exact ⟨[], ⟨[], rfl, ⟨none, 0, rfl, Nat.le_refl _, by unfold maxLen; omega, fun k hk => absurd hk (by simp)⟩, fun k h1 h2 => absurd h2 (by simp)⟩, by simp⟩
  · simp at hcs
    subst hcs
    simp only [if_true] at hmm
    have each : ∀ i, i < m → ∃ q : Value × List OpT, W.cell? ((a.add (i * 1)).add 0) = some q.1 ∧ RowO W q.1 q.2 ∧ ∀ f ∈ q.2, f.2.2.length ≤ maxLen := by
      intro i hi
      obtain ⟨cs', h1, h2⟩ := hx i hi
      rw [show Tryz.prog.cellsOf 181 = 1 by kernel_rfl] at h1
      obtain ⟨_, hlen, hcell⟩ := World.cells?_some h1
      match cs', hlen with
      | [u], _ =>
        obtain ⟨l, hl, hx3⟩ := ops_cells h2
        have q0 := hcell 0 (by omega)
        exact ⟨(u, l), by simpa using q0, hl, hx3⟩
    obtain ⟨q, hq⟩ := Deep.choose_lt each
    have hlen : ((List.range len).map fun i => (q i).2).length = len := by simp
    have hlen1 : ((List.range len).map fun i => (q i).1).length = len := by simp
    refine ⟨(List.range len).map fun i => (q i).2, ⟨(List.range len).map fun i => (q i).1, by rw [hlen, hlen1], ⟨some a, cap, by rw [hlen1], by rw [hlen1]; exact hl, hm, fun k hk => ?_⟩, fun k h1 h2 => ?_⟩, fun l hl3 f hf3 => ?_⟩
    · rw [hlen1] at hk
      obtain ⟨b, off, spot⟩ := a
      have h0 := (hq 0 (by omega)).1
      have hspot : spot = none := by simpa [Addr.add] using World.cell?_spot h0
      subst hspot
      have hk1 := (hq k (by omega)).1
      rw [add_addr, add_addr, Nat.mul_one, Nat.add_zero] at hk1
      refine ⟨b, off, rfl, World.block_lt_of_cell? _ _ hk1, ?_⟩
      rw [hk1]
      simp
    · have := (hq k (by rw [hlen1] at h1; omega)).2.1
      simpa using this
    · obtain ⟨i, hi, rfl⟩ := List.mem_map.1 hl3
      exact (hq i (by have := List.mem_range.1 hi; omega)).2.2 f hf3
/-- A slice of bools that came in. -/
theorem bools_cells {H : Type} {enc : TypeId × Value → H} {W : World} {fuel : Nat} {v : Value} {x : DataW H × List MemPlace}
    (h : DataW.trod enc Tryz.prog W 0 (fun _ => true) true fuel 27 [v] = some x) : ∃ l : List Bool, RowV W v (BL l) := by
  rcases Deep.open_slice Tryz.underlying27 h with ⟨hcs, _⟩ | ⟨a, len, cap, m, n, D, Pl, hcs, hb, hl, hm, hmm, _, hx⟩
  · simp at hcs
    subst hcs
    exact ⟨[], none, 0, rfl, Nat.le_refl _, by unfold maxLen; omega, fun k hk => absurd hk (by simp [BL])⟩
  · simp at hcs
    subst hcs
    simp only [if_true] at hmm
    have each : ∀ i, i < m → ∃ q : Bool, W.cell? ((a.add (i * 1)).add 0) = some (.bool q) := by
      intro i hi
      obtain ⟨cs', h1, h2⟩ := hx i hi
      rw [show Tryz.prog.cellsOf 4 = 1 by kernel_rfl] at h1
      obtain ⟨_, hlen, hcell⟩ := World.cells?_some h1
      obtain ⟨b, e0, _⟩ := DataW.trod_bool Tryz.underlying4 h2
      subst e0
      have q0 := hcell 0 (by omega)
      exact ⟨b, by simpa using q0⟩
    obtain ⟨q, hq⟩ := Deep.choose_lt each
    have hlen : ((List.range len).map q).length = len := by simp
    refine ⟨(List.range len).map q, some a, cap, by rw [BL_len, hlen], by rw [BL_len, hlen]; exact hl, hm, fun k hk => ?_⟩
    rw [BL_len, hlen] at hk
    obtain ⟨b, off, spot⟩ := a
    have h0 := hq 0 (by omega)
    have hspot : spot = none := by simpa [Addr.add] using World.cell?_spot h0
    subst hspot
    have hk1 := hq k (by omega)
    rw [add_addr, add_addr, Nat.mul_one, Nat.add_zero] at hk1
    refine ⟨b, off, rfl, World.block_lt_of_cell? _ _ hk1, ?_⟩
    rw [hk1, BL_get (by rw [hlen]; exact hk)]
    simp
theorem texts_inU {H : Type} {enc : TypeId × Value → H} {W : World} {a : Option Addr} {len cap : Nat} {d : DataW H} {p : List MemPlace}
    (h : DataW.Trod enc Tryz.prog W 0 (fun _ => true) true 31 (.slice a len cap) d p) : ∃ l : List (List UInt8), RowV W (.slice a len cap) (S l) ∧ ∀ x ∈ l, x.length ≤ maxLen := by
  obtain ⟨fuel, hf⟩ := h
  exact texts_cells (by simpa [Value.cells] using hf)
theorem res_in {H : Type} {enc : TypeId × Value → H} {W : World} {a : Option Addr} {len cap : Nat} {d : DataW H} {p : List MemPlace}
    (h : DataW.Trod enc Tryz.prog W 0 (fun _ => true) true 85 (.slice a len cap) d p) : ∃ l : List ResT, RowR W (.slice a len cap) l ∧ ∀ f ∈ l, f.1.length ≤ maxLen := by
  obtain ⟨fuel, hf⟩ := h
  exact res_cells (by simpa [Value.cells] using hf)
/-- A struct of three fields, the first of two cells, the others of one. -/
theorem four_cells {H : Type} {enc : TypeId × Value → H} {P : Program} {w : World} {base : Nat} {spare : Nat → Bool} {held : Bool} {t : TypeId} {f0 f1 f2 : Field} {n : Nat} {c0 c1 c2 c3 : Value} {x : DataW H × List MemPlace}
    (he : P.underlying t = some (.struct #[f0, f1, f2])) (o0 : f0.offset = 0) (o1 : f1.offset = 2) (o2 : f2.offset = 3) (k0 : P.cellsOf f0.type = 2) (k1 : P.cellsOf f1.type = 1) (k2 : P.cellsOf f2.type = 1)
    (h : DataW.trod enc P w base spare held n t [c0, c1, c2, c3] = some x) :
    ∃ (y0 y1 y2 : DataW H × List MemPlace) (k : Nat), DataW.trod enc P w base spare held k f0.type [c0, c1] = some y0 ∧ DataW.trod enc P w base spare held k f1.type [c2] = some y1 ∧ DataW.trod enc P w base spare held k f2.type [c3] = some y2 := by
  obtain ⟨xs, k, hk, hxy, _, hxl, hf⟩ := DataW.trod_struct he h
  match xs, hxl with
  | [y0, y1, y2], _ =>
    have g0 := hf 0 f0 rfl
    have g1 := hf 1 f1 rfl
    have g2 := hf 2 f2 rfl
    simp [o0, o1, o2, k0, k1, k2] at g0 g1 g2
    exact ⟨y0, y1, y2, k, g0, g1, g2⟩
/-- A struct of two fields, a cell each. -/
theorem two_cells {H : Type} {enc : TypeId × Value → H} {P : Program} {w : World} {base : Nat} {spare : Nat → Bool} {held : Bool} {t : TypeId} {f0 f1 : Field} {n : Nat} {c0 c1 : Value} {x : DataW H × List MemPlace}
    (he : P.underlying t = some (.struct #[f0, f1])) (o0 : f0.offset = 0) (o1 : f1.offset = 1) (k0 : P.cellsOf f0.type = 1) (k1 : P.cellsOf f1.type = 1)
    (h : DataW.trod enc P w base spare held n t [c0, c1] = some x) :
    ∃ (y0 y1 : DataW H × List MemPlace) (k : Nat), DataW.trod enc P w base spare held k f0.type [c0] = some y0 ∧ DataW.trod enc P w base spare held k f1.type [c1] = some y1 := by
  obtain ⟨xs, k, hk, hxy, _, hxl, hf⟩ := DataW.trod_struct he h
  match xs, hxl with
  | [y0, y1], _ =>
    have g0 := hf 0 f0 rfl
    have g1 := hf 1 f1 rfl
    simp [o0, o1, k0, k1] at g0 g1
    exact ⟨y0, y1, k, g0, g1⟩
set_option maxRecDepth 100000 in
/-- A plan that came in. -/
theorem plan_in {H : Type} {enc : TypeId × Value → H} {W : World} {base : Nat} {v : Value} {d : DataW H} {p : List MemPlace} (hv : Value.okWide Tryz.prog W .any base 76 v)
    (h : DataW.Trod enc Tryz.prog W 0 (fun _ => true) true 76 v d p) : ∃ ls l bs rs, PlanV W v ls l bs rs ∧ ∀ l ∈ rs, ∀ f ∈ l, f.2.2.length ≤ maxLen := by
  obtain ⟨cs, rfl, hsz⟩ := okWide_struct Tryz.underlying76 hv
  obtain ⟨c0, c1, c2, c3, rfl⟩ := Joins.array4 (hsz.trans (by kernel_rfl))
  obtain ⟨fuel, hf⟩ := h
  obtain ⟨y0, y1, y2, k, h0, h1, h2⟩ := four_cells Tryz.underlying76 rfl rfl rfl (by kernel_rfl) (by kernel_rfl) (by kernel_rfl) (by simpa [Value.cells] using hf)
  obtain ⟨z0, z1, k', g0, g1⟩ := two_cells Tryz.underlying73 rfl rfl (by kernel_rfl) (by kernel_rfl) h0
  obtain ⟨ls, r0⟩ := lists_cells g0
  obtain ⟨l, r1⟩ := ints_cells g1
  obtain ⟨bs, r2⟩ := bools_cells h1
  obtain ⟨rs, r3, x3⟩ := opss_cells h2
  exact ⟨ls, l, bs, rs, ⟨c0, c1, c2, c3, rfl, r0, r1, r2, r3⟩, x3⟩
end Go.Proofs.YtcfhfhpdnjaokaaGreatDoor

/- What the rows of chapters 7 and 8 with listed tables share: a world in which the listed tables lie, for the witness. -/
namespace Go.Proofs.YtcfhfhpdnjaokaaGreatDoor
open Go.ChangeShapes Go.WideShapes Go.ChangeAt Go.RowKit Pth

/-- The cells of a table as the row lists it. -/
def litCell {H : Type} : DataW H → Value
  | .lit (.int k n) => .int k n
  | _ => .int .u8 0
def tabCells {H : Type} : DataW H → Array Value
  | .agg l => (l.map litCell).toArray
  | _ => #[]
def refill (cs : Array Value) : Obj → Obj
  | .cells _ t fr => .cells cs t fr
  | o => o
/-- The settled world with the three tables laid. -/
noncomputable def laidWorld (os : Os) : World :=
  { World.holding Tryz.prog os ⟨#[], #[], []⟩ with heap := (((World.holding Tryz.prog os ⟨#[], #[], []⟩).heap.modify 1 (refill (tabCells (H := Unit) Rows.laid_math_bits_deBruijn32tab))).modify 2 (refill (tabCells (H := Unit) Rows.laid_math_bits_deBruijn64tab))).modify 0 (refill (tabCells (H := Unit) Rows.laid_internal_strconv_uint64pow10)) }

end Go.Proofs.YtcfhfhpdnjaokaaGreatDoor

/- Walks: digests of both programs; the reference's good recipes. -/
namespace Go.Proofs.YtcfhfhpdnjaokaaGreatDoor
open Go.RowKit Pth

/-- A number and whether it was told. -/
def IntPost (x : Int) (b : Bool) (w : World) (e : Ending) (w' : World) : Prop := e = .returned (.tuple #[.int .i64 x, .bool b]) ∧ w = w'
theorem bytes_at {s : ByteArray} {k : Nat} (hk : k < s.size) : s.data.toList[k]'(by simpa using hk) = s[k] := rfl

/-- A bool is handed back; what lay there lies there. -/
def BoolPost (b : Bool) (w : World) (e : Ending) (w' : World) : Prop := e = .returned (.bool b) ∧ Below w.heap.size w w'
theorem in_l {n lo hi : Int} {b : Bool} (h : (decide (lo ≤ n) && decide (n ≤ hi)) = b) (w : World) : Calls Tryz.prog 136 #[.int .i64 n, .int .i64 lo, .int .i64 hi] w fun e w' => e = .returned (.bool b) ∧ w = w' := by
  have := l1In_any n lo hi w; rwa [h] at this
theorem nil_b {t : List UInt8} {b : Bool} (h : decide (t = []) = b) : (t == []) = b := by
  subst h; cases t <;> rfl

set_option maxRecDepth 20000 in
set_option maxHeartbeats 2000000 in
theorem l4Op_any (o : OpT) (ins : Int) (w : World) (h0 : 0 ≤ ins) (h1 : ins ≤ 10) (hx : o.2.2.length ≤ maxLen) :
    Calls Tryz.prog 140 #[opV o, .int .i64 ins] w (BoolPost (opOk ins o) w) := by
  obtain ⟨k, n, t⟩ := o
  unfold opV
  simp only at hx ⊢
  unfold maxLen at hx
  have HB := Lib.hid ((Below.refl w.heap.size w).alloc (Nat.le_refl _) (.cells #[.int .i64 k, .int .i64 n, .string ⟨t.toArray⟩] 158))
  by_cases k1 : k = 1
  · subst k1
    obtain ⟨b1, hb1⟩ : ∃ b, (decide (0 ≤ n) && decide (n ≤ ins - 1)) = b := ⟨_, rfl⟩
    obtain ⟨b2, hb2⟩ : ∃ b, decide (t = []) = b := ⟨_, rfl⟩
    have HT : Hid (opOk ins (1, n, t) = (b1 && b2)) := by rw [opOk_cat, hb1, hb2]; rfl
    have HC := Lib.hid (fun W => in_l hb1 W)
    have hn := nil_b hb2
    clear hb1 hb2
    rcases b1 with _ | _
    · go_enter Tryz.func140, Tryz.ntmps140
      go_wp2_with fail
      refine (HC.out _).mono ?_
      rintro e w1 ⟨rfl, rfl⟩
      go_wp2_with fail
      go_ret
      exact ⟨ret_bool HT.out.symm, HB.out⟩
    · go_enter Tryz.func140, Tryz.ntmps140
      go_wp2_with fail
      refine (HC.out _).mono ?_
      rintro e w1 ⟨rfl, rfl⟩
      go_wp2_with fail
      go_ret
      exact ⟨ret_bool HT.out.symm, HB.out⟩
  have e1 : (k == 1) = false := by simpa using k1
  by_cases k2 : k = 2
  · subst k2
    obtain ⟨b1, hb1⟩ : ∃ b, decide (n = 0) = b := ⟨_, rfl⟩
    obtain ⟨b2, hb2⟩ : ∃ b, decide (t.length ≤ 10) = b := ⟨_, rfl⟩
    have HT : Hid (opOk ins (2, n, t) = (b1 && b2)) := by rw [opOk_text, hb1, hb2]; rfl
    have hn1 : (n == 0) = b1 := hb1
    have hn2 : decide ((t.length : Int) ≤ 10) = b2 := by rw [← hb2]; exact decide_eq_decide.2 (by omega)
    clear hb1 hb2 e1 k1
    rcases b1 with _ | _ <;> rcases b2 with _ | _ <;>
      (go_enter Tryz.func140, Tryz.ntmps140
       go_wp2_with fail
       go_ret
       exact ⟨ret_bool HT.out.symm, HB.out⟩)
  have e2 : (k == 2) = false := by simpa using k2
  by_cases k5 : k = 5
  · subst k5
    obtain ⟨b1, hb1⟩ : ∃ b, (decide (0 ≤ n) && decide (n ≤ 40)) = b := ⟨_, rfl⟩
    obtain ⟨b2, hb2⟩ : ∃ b, decide (t = []) = b := ⟨_, rfl⟩
    have HT : Hid (opOk ins (5, n, t) = (b1 && b2)) := by rw [opOk_drop, hb1, hb2]; rfl
    have HC := Lib.hid (fun W => in_l hb1 W)
    have hn := nil_b hb2
    clear hb1 hb2 e1 k1 e2 k2
    rcases b1 with _ | _
    · go_enter Tryz.func140, Tryz.ntmps140
      go_wp2_with fail
      refine (HC.out _).mono ?_
      rintro e w1 ⟨rfl, rfl⟩
      go_wp2_with fail
      go_ret
      exact ⟨ret_bool HT.out.symm, HB.out⟩
    · go_enter Tryz.func140, Tryz.ntmps140
      go_wp2_with fail
      refine (HC.out _).mono ?_
      rintro e w1 ⟨rfl, rfl⟩
      go_wp2_with fail
      go_ret
      exact ⟨ret_bool HT.out.symm, HB.out⟩
  have e5 : (k == 5) = false := by simpa using k5
  by_cases k3 : k = 3 ∨ k = 4 ∨ k = 6 ∨ k = 7
  · obtain ⟨b1, hb1⟩ : ∃ b, decide (n = 0) = b := ⟨_, rfl⟩
    obtain ⟨b2, hb2⟩ : ∃ b, decide (t = []) = b := ⟨_, rfl⟩
    have HT : Hid (opOk ins (k, n, t) = (b1 && b2)) := by rw [opOk_bare k3, hb1, hb2]; rfl
    have hn1 : (n == 0) = b1 := hb1
    have hn := nil_b hb2
    clear hb1 hb2 k1 k2 k5 e1 e2 e5
    rcases k3 with rfl | rfl | rfl | rfl <;> rcases b1 with _ | _ <;>
      (go_enter Tryz.func140, Tryz.ntmps140
       go_wp2_with fail
       go_ret
       exact ⟨ret_bool HT.out.symm, HB.out⟩)
  · have k3' : k ≠ 3 ∧ k ≠ 4 ∧ k ≠ 6 ∧ k ≠ 7 := by omega
    have HT := Lib.hid (opOk_none (ins := ins) (n := n) (t := t) k1 k2 k3'.1 k3'.2.1 k5 k3'.2.2.1 k3'.2.2.2)
    have e3 : (k == 3) = false := by simpa using k3'.1
    have e4 : (k == 4) = false := by simpa using k3'.2.1
    have e6 : (k == 6) = false := by simpa using k3'.2.2.1
    have e7 : (k == 7) = false := by simpa using k3'.2.2.2
    clear k1 k2 k5 k3 k3'
    go_enter Tryz.func140, Tryz.ntmps140
    go_wp2_with fail
    go_ret
    exact ⟨ret_bool HT.out.symm, HB.out⟩

end Go.Proofs.YtcfhfhpdnjaokaaGreatDoor

/- Walks: the reference's good recipes, what they read, their texts. -/
namespace Go.Proofs.YtcfhfhpdnjaokaaGreatDoor
open Go.RowKit Pth

theorem l4Op_b {o : OpT} {ins : Int} {b : Bool} (h : opOk ins o = b) (h0 : 0 ≤ ins) (h1 : ins ≤ 10) (hx : o.2.2.length ≤ maxLen) (w : World) : Calls Tryz.prog 140 #[opV o, .int .i64 ins] w (BoolPost b w) := by
  have := l4Op_any o ins w h0 h1 hx; rwa [h] at this

set_option maxRecDepth 20000 in
set_option maxHeartbeats 2000000 in
theorem specGoodR_any (r : List OpT) (ins : Int) (v : Value) (w : World) (hrow : RowO w v r) (hx : ∀ f ∈ r, f.2.2.length ≤ maxLen) :
    Calls Tryz.prog 78 #[v, .int .i64 ins] w (BoolPost (goodR r ins) w) := by
  obtain ⟨a, cap, rfl, hc1, hc2, hat⟩ := hrow.ops
  clear hrow
  unfold maxLen at hc2
  by_cases hi : 0 ≤ ins ∧ ins ≤ 10
  · have HC0 := Lib.hid (fun W => in_l (n := ins) (lo := 0) (hi := 10) (b := true) (by simp [hi.1, hi.2]) W)
    by_cases h8 : 8 < r.length
    · have HT := Lib.hid (goodR_long (ins := ins) h8)
      have hd : decide ((r.length : Int) > 8) = true := decide_eq_true (by omega)
      clear hat hx
      go_enter Tryz.func78, Tryz.ntmps78
      go_wp2_with fail
      refine (HC0.out _).mono ?_
      rintro e w1 ⟨rfl, rfl⟩
      go_wp2_with fail
      go_ret
      exact ⟨ret_bool HT.out.symm, Below.refl _ _⟩
    · have hd : decide ((r.length : Int) > 8) = false := decide_eq_false (by omega)
      obtain ⟨hi0, hi1⟩ := hi
      go_enter Tryz.func78, Tryz.ntmps78
      go_wp2_with fail
      refine (HC0.out _).mono ?_
      rintro e w1 ⟨rfl, rfl⟩
      go_wp2_with fail
      go_loopw [17] (fun i wr => ∃ k : Nat, k ≤ r.length ∧ i = .int .i64 k ∧ Hid (Below w.heap.size w wr) ∧ Hid ((r.take k).all (opOk ins) = true)) (fun i _ => r.length - (intOf i).toNat)
      case atStart => exact ⟨0, Nat.zero_le _, rfl, Below.refl _ _, by simp [Hid]⟩
      case round =>
        obtain ⟨k, hk, rfl, HB, HO⟩ := hrel
        have hbs := HB.out.size
        by_cases hlt : k < r.length
        · obtain ⟨g, o, rfl, hg, hcell1, hcell2, hcell3⟩ := hat k hlt
          have s1 := (HB.out.cell (p := ⟨g, o + k * 3, none⟩) hg).trans hcell1
          have s2 := (HB.out.cell (p := ⟨g, o + k * 3 + 1, none⟩) hg).trans hcell2
          have s3 := (HB.out.cell (p := ⟨g, o + k * 3 + 2, none⟩) hg).trans hcell3
          have HBA := Lib.hid (HB.out.alloc hbs (.cells #[.int .i64 r[k].1, .int .i64 r[k].2.1, .string ⟨r[k].2.2.toArray⟩] 158))
          have hxl := hx r[k] (List.getElem_mem hlt)
          obtain ⟨b, hbE⟩ : ∃ b, opOk ins r[k] = b := ⟨_, rfl⟩
          have HC := Lib.hid (fun W => l4Op_b hbE hi0 hi1 hxl W)
          have HS : Hid (if b then (r.take (k + 1)).all (opOk ins) = true else goodR r ins = false) := by
            unfold Hid
            rcases b with _ | _
            · exact goodR_bad hlt hbE
            · exact all_next hlt HO.out hbE
          clear hcell1 hcell2 hcell3 hat HO hx hxl hbE
          generalize r[k] = x at s1 s2 s3 HC HBA
          obtain ⟨x1, x2, x3⟩ := x
          unfold opV at HC
          simp only at s1 s2 s3 HC HBA
          go_wp2_with fail
          refine (HC.out _).mono ?_
          rintro e w1 ⟨rfl, hb1⟩
          have HB1 := Lib.hid (HBA.out.trans (hb1.mono HBA.out.size))
          clear hb1 HC
          rcases b with _ | _
          · go_wp2_with fail
            go_ret
            exact ⟨ret_bool (by have := HS.out; simpa using this.symm), HB1.out⟩
          · go_wp2_with fail
            go_roundw
            case rel => exact ⟨k + 1, by omega, by go_num, HB1, by have := HS.out; simpa [Hid] using this⟩
            case measure => simp [intOf]; omega
        · have HT := Lib.hid (goodR_end hi0 hi1 (by omega) (by omega : r.length ≤ k) HO.out)
          clear HO hat hx
          go_wp2_with fail
          go_ret
          exact ⟨ret_bool HT.out.symm, HB.out⟩
  · have HC0 := Lib.hid (fun W => in_l (n := ins) (lo := 0) (hi := 10) (b := false) (by
      rcases Int.lt_or_le ins 0 with h | h
      · simp; omega
      · simp; omega) W)
    have HT := Lib.hid (goodR_ins (r := r) hi)
    clear hat hx
    go_enter Tryz.func78, Tryz.ntmps78
    go_wp2_with fail
    refine (HC0.out _).mono ?_
    rintro e w1 ⟨rfl, rfl⟩
    go_wp2_with fail
    go_ret
    exact ⟨ret_bool HT.out.symm, Below.refl _ _⟩

theorem specGood_b {r : List OpT} {ins : Int} {b : Bool} (h : goodR r ins = b) (v : Value) (w : World) (hrow : RowO w v r) (hx : ∀ f ∈ r, f.2.2.length ≤ maxLen) : Calls Tryz.prog 78 #[v, .int .i64 ins] w (BoolPost b w) := by
  have := specGoodR_any r ins v w hrow hx; rwa [h] at this

/-- Numbers and whether they stand are handed back, the numbers in memory of the call's own. -/
def IntsOk (l : List Int) (ok : Bool) (w : World) (e : Ending) (w' : World) : Prop :=
  ∃ v, e = .returned (.tuple #[v, .bool ok]) ∧ w'.ownsRow w.heap.size 3 1 v l.length (I l) ∧ Below w.heap.size w w'
/-- A text and whether it stands. -/
def TextOk (t : List UInt8) (ok : Bool) (w : World) (e : Ending) (w' : World) : Prop := e = .returned (.tuple #[.string ⟨t.toArray⟩, .bool ok]) ∧ Below w.heap.size w w'
theorem none_own (w : World) (B e : Nat) : w.ownsRow B e 1 (.slice none 0 0) 0 [] := ⟨rfl, .inl ⟨rfl, rfl⟩⟩
theorem read1_cat {out : List Int} {o : OpT} (h : (o.1 == 1) = true) : read1 out o = putL out o.2.1 := by
  rw [read1, if_pos (by simpa using h)]
theorem read1_not {out : List Int} {o : OpT} (h : (o.1 == 1) = false) : read1 out o = out := by
  rw [read1, if_neg (by simpa using h)]
theorem fold_len (r : List OpT) (out : List Int) : (r.foldl read1 out).length ≤ out.length + r.length := by
  induction r generalizing out with
  | nil => simp
  | cons o t ih =>
    have h1 := ih (read1 out o)
    have h2 : (read1 out o).length ≤ out.length + 1 := by
      unfold read1
      split
      · exact put_len _ _
      · omega
    simp only [List.foldl_cons, List.length_cons] at h1 ⊢
    omega

end Go.Proofs.YtcfhfhpdnjaokaaGreatDoor

/- Plain mathematics: what is sorted and has no two alike any more; no program. -/
namespace Go.Proofs.YtcfhfhpdnjaokaaGreatDoor
namespace Pth
open Go.Lib

def sortI (l : List Int) : List Int := l.mergeSort fun x y => decide (x ≤ y)
theorem sortI_perm (l : List Int) : (sortI l).Perm l := List.mergeSort_perm _ _
theorem sortI_sorted (l : List Int) : (sortI l).Pairwise (· ≤ ·) := by
  have := List.pairwise_mergeSort (le := fun a b : Int => decide (a ≤ b)) (fun a b c h1 h2 => by simp only [decide_eq_true_eq] at *; omega) (fun a b => by simp only [Bool.or_eq_true, decide_eq_true_eq]; omega) l
  exact this.imp (fun h => by simpa using h)
theorem get_bang {l : List Int} {j : Nat} (hj : j < l.length) : l.toArray[j]! = l[j] := by
  simp [hj]
theorem mem_compact {l : List Int} {x : Int} : x ∈ compact l ↔ x ∈ l := by
  unfold compact compactUpTo
  constructor
  · intro h
    obtain ⟨j, hj, rfl⟩ := List.mem_map.1 h
    have hj' := List.mem_range.1 (List.mem_filter.1 hj).1
    rw [get_bang hj']
    exact List.getElem_mem hj'
  · intro h
    have key : ∀ j : Nat, (hj : j < l.length) → l[j] = x → x ∈ ((List.range l.length).filter (keeps l.toArray)).map (l.toArray[·]!) := by
      intro j
      induction j with
      | zero =>
        intro hj hx
        refine List.mem_map.2 ⟨0, List.mem_filter.2 ⟨List.mem_range.2 hj, by simp [keeps]⟩, by rw [get_bang hj]; exact hx⟩
      | succ j ih =>
        intro hj hx
        by_cases he : l[j] = x
        · exact ih (by omega) he
        · refine List.mem_map.2 ⟨j + 1, List.mem_filter.2 ⟨List.mem_range.2 hj, ?_⟩, by rw [get_bang hj]; exact hx⟩
          apply keeps_pos
          rw [get_bang hj, Nat.add_sub_cancel, get_bang (by omega : j < l.length), hx]
          exact fun h => he h.symm
    obtain ⟨j, hj, hx⟩ := List.mem_iff_getElem.1 h
    exact key j hj hx
theorem compact_rise {l : List Int} (h : l.Pairwise (· ≤ ·)) : Rise (compact l) := by
  unfold compact compactUpTo Rise
  rw [List.pairwise_map]
  refine List.Pairwise.imp_of_mem (R := fun a b => a < b) ?_ (List.pairwise_lt_range.filter _)
  intro i j hi hj hlt
  have hi' := List.mem_range.1 (List.mem_filter.1 hi).1
  have hj' := List.mem_range.1 (List.mem_filter.1 hj).1
  have hk := (List.mem_filter.1 hj).2
  rw [get_bang hi', get_bang hj']
  have hne : l[j] ≠ l[j - 1] := by
    simp only [keeps, decide_eq_true_eq] at hk
    rcases hk with h0 | h0
    · omega
    · rwa [get_bang hj', get_bang (by omega : j - 1 < l.length)] at h0
  have h1 : l[j - 1] ≤ l[j] := List.pairwise_iff_getElem.1 h (j - 1) j (by omega) hj' (by omega)
  have h2 : l[i] ≤ l[j - 1] := by
    by_cases e : i = j - 1
    · subst e; exact Int.le_refl _
    · exact List.pairwise_iff_getElem.1 h i (j - 1) hi' (by omega) (by omega)
  omega
theorem compact_reads (r : List OpT) : compact (sortI (catsL r)) = readsL r :=
  reads_is (compact_rise (sortI_sorted _)) (fun x => by rw [mem_compact]; exact (sortI_perm _).mem_iff)

end Pth
end Go.Proofs.YtcfhfhpdnjaokaaGreatDoor

/- The library's contracts that the walks use, at this program: each an application of the shelf's; each structure's fields are facts of the loaded program. -/
namespace Go.Proofs
open Go.Shelf Go.RowKit Go.Sort
def Tryz.lays125_ren : Go.Shelf.Ren := ⟨fun | 125 => 184 | 128 => 210 | 129 => 211 | n => n, fun | 46 => 211 | 3 => 3 | 51 => 233 | 53 => 111 | 4 => 4 | 5 => 5 | 9 => 9 | n => n, fun | n => n⟩
theorem Tryz.lays125 : Go.Proofs.Lays.n125 Tryz.prog Tryz.lays125_ren := {
  mixed := by kernel_rfl
  f125 := Tryz.func184.trans (congrArg some (by kernel_rfl))
  f128 := Tryz.func210.trans (congrArg some (by kernel_rfl))
  f129 := Tryz.func211.trans (congrArg some (by kernel_rfl))
  t3 := Tryz.underlying3
  a3 := Tryz.isAgg3
  z3 := Tryz.sizeOf3
  v3 := Tryz.zeroValue3
  t4 := Tryz.underlying4
  a4 := Tryz.isAgg4
  z4 := Tryz.sizeOf4
  v4 := Tryz.zeroValue4
  t5 := Tryz.underlying5
  a5 := Tryz.isAgg5
  z5 := Tryz.sizeOf5
  v5 := Tryz.zeroValue5
  t9 := Tryz.underlying9
  a9 := Tryz.isAgg9
  z9 := Tryz.sizeOf9
  v9 := Tryz.zeroValue9
  t46 := Tryz.underlying211
  a46 := Tryz.isAgg211
  z46 := Tryz.sizeOf211
  v46 := Tryz.zeroValue211
  t51 := Tryz.underlying233
  a51 := Tryz.isAgg233
  z51 := Tryz.sizeOf233
  v51 := Tryz.zeroValue233
  t53 := Tryz.underlying111
  a53 := Tryz.isAgg111
  z53 := Tryz.sizeOf111
  v53 := Tryz.zeroValue111 }
theorem Tryz.bits_Len (x : Int) (w : World) (h0 : 0 ≤ x) (h1 : x ≤ 18446744073709551615) :
    Calls Tryz.prog 184 #[.int .u64 x] w fun e w' => e = .returned (.int .i64 (Lib.bitLen x.toNat)) ∧ w' = w := Any.bits_Len Tryz.lays125 x w h0 h1
def Tryz.lays171_ren : Go.Shelf.Ren := ⟨fun | 171 => 176 | 243 => 191 | 246 => 213 | 283 => 230 | 284 => 231 | 285 => 232 | 286 => 233 | 129 => 211 | 317 => 240 | 318 => 241 | 319 => 242 | 320 => 243 | 337 => 245 | 338 => 246 | n => n, fun | 3 => 3 | 9 => 9 | 2 => 2 | 4 => 4 | 171 => 250 | 0 => 0 | 53 => 111 | 37 => 22 | 5 => 5 | 173 => 252 | 212 => 261 | 51 => 233 | 20 => 20 | 213 => 262 | 46 => 211 | 232 => 264 | 233 => 265 | n => n, fun | 17 => 0 | 18 => 1 | 19 => 2 | n => n⟩
theorem Tryz.lays171 : Go.Proofs.Lays.n171 Tryz.prog Tryz.lays171_ren := {
  mixed := by kernel_rfl
  f129 := Tryz.func211.trans (congrArg some (by kernel_rfl))
  f171 := Tryz.func176.trans (congrArg some (by kernel_rfl))
  f243 := Tryz.func191.trans (congrArg some (by kernel_rfl))
  f246 := Tryz.func213.trans (congrArg some (by kernel_rfl))
  f283 := Tryz.func230.trans (congrArg some (by kernel_rfl))
  f284 := Tryz.func231.trans (congrArg some (by kernel_rfl))
  f285 := Tryz.func232.trans (congrArg some (by kernel_rfl))
  f286 := Tryz.func233.trans (congrArg some (by kernel_rfl))
  f317 := Tryz.func240.trans (congrArg some (by kernel_rfl))
  f318 := Tryz.func241.trans (congrArg some (by kernel_rfl))
  f319 := Tryz.func242.trans (congrArg some (by kernel_rfl))
  f320 := Tryz.func243.trans (congrArg some (by kernel_rfl))
  f337 := Tryz.func245.trans (congrArg some (by kernel_rfl))
  f338 := Tryz.func246.trans (congrArg some (by kernel_rfl))
  t0 := Tryz.underlying0
  a0 := Tryz.isAgg0
  z0 := Tryz.sizeOf0
  v0 := Tryz.zeroValue0
  t2 := Tryz.underlying2
  a2 := Tryz.isAgg2
  z2 := Tryz.sizeOf2
  v2 := Tryz.zeroValue2
  t3 := Tryz.underlying3
  a3 := Tryz.isAgg3
  z3 := Tryz.sizeOf3
  v3 := Tryz.zeroValue3
  t4 := Tryz.underlying4
  a4 := Tryz.isAgg4
  z4 := Tryz.sizeOf4
  v4 := Tryz.zeroValue4
  t5 := Tryz.underlying5
  a5 := Tryz.isAgg5
  z5 := Tryz.sizeOf5
  v5 := Tryz.zeroValue5
  t9 := Tryz.underlying9
  a9 := Tryz.isAgg9
  z9 := Tryz.sizeOf9
  v9 := Tryz.zeroValue9
  t20 := Tryz.underlying20
  a20 := Tryz.isAgg20
  z20 := Tryz.sizeOf20
  v20 := Tryz.zeroValue20
  t37 := Tryz.underlying22
  a37 := Tryz.isAgg22
  z37 := Tryz.sizeOf22
  v37 := Tryz.zeroValue22
  t46 := Tryz.underlying211
  a46 := Tryz.isAgg211
  z46 := Tryz.sizeOf211
  v46 := Tryz.zeroValue211
  t51 := Tryz.underlying233
  a51 := Tryz.isAgg233
  z51 := Tryz.sizeOf233
  v51 := Tryz.zeroValue233
  t53 := Tryz.underlying111
  a53 := Tryz.isAgg111
  z53 := Tryz.sizeOf111
  v53 := Tryz.zeroValue111
  t171 := Tryz.underlying250
  a171 := Tryz.isAgg250
  z171 := Tryz.sizeOf250
  v171 := Tryz.zeroValue250
  t173 := Tryz.underlying252
  a173 := Tryz.isAgg252
  z173 := Tryz.sizeOf252
  v173 := Tryz.zeroValue252
  t212 := Tryz.underlying261
  a212 := Tryz.isAgg261
  z212 := Tryz.sizeOf261
  v212 := Tryz.zeroValue261
  t213 := Tryz.underlying262
  a213 := Tryz.isAgg262
  z213 := Tryz.sizeOf262
  t232 := Tryz.underlying264
  a232 := Tryz.isAgg264
  z232 := Tryz.sizeOf264
  v232 := Tryz.zeroValue264
  t233 := Tryz.underlying265
  a233 := Tryz.isAgg265
  z233 := Tryz.sizeOf265
  v233 := Tryz.zeroValue265
  g17 := by kernel_rfl
  g18 := by kernel_rfl
  g19 := by kernel_rfl }
theorem Tryz.strconv_Itoa_small (i : Nat) (hi : i < 100) (w : World) :
    Calls Tryz.prog 176 #[.int .i64 i] w fun e w' => e = .returned (.string ⟨(Lib.decDigits i).toArray⟩) ∧ w' = w := Any.strconv_Itoa_small Tryz.lays171 i hi w
def Tryz.laysM316_ren : Go.Shelf.Ren := ⟨fun | 316 => 170 | n => n, fun | 9 => 9 | 3 => 3 | 4 => 4 | 37 => 22 | 0 => 0 | 127 => 219 | 5 => 5 | n => n, fun | n => n⟩
theorem Tryz.laysM316 : Go.Proofs.LaysM.n316 Tryz.prog Tryz.laysM316_ren := {
  mixed := by kernel_rfl
  f316 := Tryz.func170.trans (congrArg some (by kernel_rfl))
  t0 := Tryz.underlying0
  a0 := Tryz.isAgg0
  z0 := Tryz.sizeOf0
  v0 := Tryz.zeroValue0
  t3 := Tryz.underlying3
  a3 := Tryz.isAgg3
  z3 := Tryz.sizeOf3
  v3 := Tryz.zeroValue3
  t4 := Tryz.underlying4
  a4 := Tryz.isAgg4
  z4 := Tryz.sizeOf4
  v4 := Tryz.zeroValue4
  t9 := Tryz.underlying9
  a9 := Tryz.isAgg9
  z9 := Tryz.sizeOf9
  v9 := Tryz.zeroValue9
  t37 := Tryz.underlying22
  a37 := Tryz.isAgg22
  z37 := Tryz.sizeOf22
  v37 := Tryz.zeroValue22
  t127 := Tryz.underlying219
  a127 := Tryz.isAgg219
  z127 := Tryz.sizeOf219
  v127 := Tryz.zeroValue219
  t5 := Tryz.underlying5
  a5 := Tryz.isAgg5
  z5 := Tryz.sizeOf5
  v5 := Tryz.zeroValue5
  i0 := by kernel_rfl
  i3 := by kernel_rfl
  i4 := by kernel_rfl
  i5 := by kernel_rfl
  i9 := by kernel_rfl
  i37 := by kernel_rfl
  i127 := by kernel_rfl }
theorem Tryz.stringslite_Clone (s : ByteArray) (w : World) (hlim : s.size ≤ 281474976710656) :
    Calls Tryz.prog 170 #[.string s] w fun e w' => e = .returned (.string s) ∧ Below w.heap.size w w' := Any.stringslite_Clone Tryz.laysM316 s w hlim
def Tryz.lays189_ren : Go.Shelf.Ren := ⟨fun | 189 => 153 | 125 => 184 | 257 => 183 | 128 => 210 | 129 => 211 | 294 => 201 | 295 => 202 | 296 => 203 | 297 => 204 | 298 => 205 | 299 => 206 | 216 => 207 | 300 => 208 | 301 => 209 | 328 => 215 | 329 => 216 | 330 => 217 | 331 => 218 | 332 => 219 | 215 => 220 | 343 => 235 | n => n, fun | 28 => 24 | 3 => 3 | 46 => 211 | 0 => 0 | 51 => 233 | 53 => 111 | 4 => 4 | 183 => 227 | 182 => 226 | 131 => 44 | 5 => 5 | 9 => 9 | 218 => 238 | 222 => 242 | 228 => 254 | 229 => 255 | n => n, fun | n => n⟩
theorem Tryz.lays189 : Go.Proofs.Lays.n189 Tryz.prog Tryz.lays189_ren := {
  mixed := by kernel_rfl
  f125 := Tryz.func184.trans (congrArg some (by kernel_rfl))
  f128 := Tryz.func210.trans (congrArg some (by kernel_rfl))
  f129 := Tryz.func211.trans (congrArg some (by kernel_rfl))
  f189 := Tryz.func153.trans (congrArg some (by kernel_rfl))
  f215 := Tryz.func220.trans (congrArg some (by kernel_rfl))
  f216 := Tryz.func207.trans (congrArg some (by kernel_rfl))
  f257 := Tryz.func183.trans (congrArg some (by kernel_rfl))
  f294 := Tryz.func201.trans (congrArg some (by kernel_rfl))
  f295 := Tryz.func202.trans (congrArg some (by kernel_rfl))
  f296 := Tryz.func203.trans (congrArg some (by kernel_rfl))
  f297 := Tryz.func204.trans (congrArg some (by kernel_rfl))
  f298 := Tryz.func205.trans (congrArg some (by kernel_rfl))
  f299 := Tryz.func206.trans (congrArg some (by kernel_rfl))
  f300 := Tryz.func208.trans (congrArg some (by kernel_rfl))
  f301 := Tryz.func209.trans (congrArg some (by kernel_rfl))
  f328 := Tryz.func215.trans (congrArg some (by kernel_rfl))
  f329 := Tryz.func216.trans (congrArg some (by kernel_rfl))
  f330 := Tryz.func217.trans (congrArg some (by kernel_rfl))
  f331 := Tryz.func218.trans (congrArg some (by kernel_rfl))
  f332 := Tryz.func219.trans (congrArg some (by kernel_rfl))
  f343 := Tryz.func235.trans (congrArg some (by kernel_rfl))
  t0 := Tryz.underlying0
  a0 := Tryz.isAgg0
  z0 := Tryz.sizeOf0
  v0 := Tryz.zeroValue0
  t3 := Tryz.underlying3
  a3 := Tryz.isAgg3
  z3 := Tryz.sizeOf3
  v3 := Tryz.zeroValue3
  t4 := Tryz.underlying4
  a4 := Tryz.isAgg4
  z4 := Tryz.sizeOf4
  v4 := Tryz.zeroValue4
  t5 := Tryz.underlying5
  a5 := Tryz.isAgg5
  z5 := Tryz.sizeOf5
  v5 := Tryz.zeroValue5
  t9 := Tryz.underlying9
  a9 := Tryz.isAgg9
  z9 := Tryz.sizeOf9
  v9 := Tryz.zeroValue9
  t28 := Tryz.underlying24
  a28 := Tryz.isAgg24
  z28 := Tryz.sizeOf24
  v28 := Tryz.zeroValue24
  t46 := Tryz.underlying211
  a46 := Tryz.isAgg211
  z46 := Tryz.sizeOf211
  v46 := Tryz.zeroValue211
  t51 := Tryz.underlying233
  a51 := Tryz.isAgg233
  z51 := Tryz.sizeOf233
  v51 := Tryz.zeroValue233
  t53 := Tryz.underlying111
  a53 := Tryz.isAgg111
  z53 := Tryz.sizeOf111
  v53 := Tryz.zeroValue111
  t131 := Tryz.underlying44
  a131 := Tryz.isAgg44
  z131 := Tryz.sizeOf44
  v131 := Tryz.zeroValue44
  t182 := Tryz.underlying226
  a182 := Tryz.isAgg226
  z182 := Tryz.sizeOf226
  v182 := Tryz.zeroValue226
  t183 := Tryz.underlying227
  a183 := Tryz.isAgg227
  z183 := Tryz.sizeOf227
  v183 := Tryz.zeroValue227
  t218 := Tryz.underlying238
  a218 := Tryz.isAgg238
  z218 := Tryz.sizeOf238
  v218 := Tryz.zeroValue238
  t222 := Tryz.underlying242
  a222 := Tryz.isAgg242
  z222 := Tryz.sizeOf242
  v222 := Tryz.zeroValue242
  t228 := Tryz.underlying254
  a228 := Tryz.isAgg254
  z228 := Tryz.sizeOf254
  v228 := Tryz.zeroValue254
  t229 := Tryz.underlying255
  a229 := Tryz.isAgg255
  z229 := Tryz.sizeOf255
  v229 := Tryz.zeroValue255 }
theorem Tryz.slices_Sort_int (blk off cap : Nat) (zs : List Int) (w : World) (hH : Holds (Value.int .i64) w blk off zs.toArray) (hblk : blk < w.heap.size) (hsz : zs.length < 4611686018427387904) :
    Calls Tryz.prog 153 #[.slice (some ⟨blk, off, none⟩) zs.length cap] w fun e w' =>
      e = .returned (.tuple #[]) ∧ ∃ n os, w' = grow (putRow (Value.int .i64) (Sort.ahead w n) blk off (zs.mergeSort fun x y => decide (x ≤ y)).toArray) os := Any.slices_Sort_int Tryz.lays189 blk off cap zs w hH hblk hsz
theorem Tryz.slices_Sort_int_none (p : Option Addr) (cap : Nat) (w : World) :
    Calls Tryz.prog 153 #[.slice p 0 cap] w fun e w' => e = .returned (.tuple #[]) ∧ w' = w := Any.slices_Sort_int_none Tryz.lays189 p cap w
end Go.Proofs

/- Numbers in memory of the call's own: sorted, and without two alike, by the library. -/
namespace Go.Proofs.YtcfhfhpdnjaokaaGreatDoor
open Go.RowKit Pth Go.Lib Go.Sort

theorem I_enc (l : List Int) : I l = l.map (Value.int .i64) := rfl
theorem sortI_len (l : List Int) : (sortI l).length = l.length := (sortI_perm l).length_eq
theorem sortInts_any (l : List Int) (v : Value) (B : Nat) (w : World) (hown : w.ownsRow B 3 1 v l.length (I l)) (hl : l.length ≤ 1000000) (hB : B ≤ w.heap.size) :
    Calls Tryz.prog 153 #[v] w fun e w' => e = .returned (.tuple #[]) ∧ w'.ownsRow B 3 1 v (sortI l).length (I (sortI l)) ∧ Below B w w' := by
  rcases hown.2 with ⟨hv, h0⟩ | ⟨g, cap, cur, hv, hBg, hh, h1, h2, h3, h4⟩
  · subst hv
    have h00 : l = [] := List.eq_nil_of_length_eq_zero h0
    subst h00
    refine (Tryz.slices_Sort_int_none none 0 w).mono fun e w' ⟨he, hw⟩ => ?_
    subst hw
    rw [show sortI [] = [] by simp [sortI]]
    exact ⟨he, hown, Below.refl _ _⟩
  · subst hv
    have hH := holds_of_blockI (ss := l) hh (by rw [Nat.mul_one] at h4; rw [← I_enc]; exact h4)
    refine (Tryz.slices_Sort_int g 0 cap l w hH (lt_of_block hh) (by omega)).mono ?_
    rintro e w' ⟨he, n, os, rfl⟩
    refine ⟨he, ?_, (Below.refl B w).grown (grownBy_sortedI _) hB (fun k hk => by cases hk; exact hBg)⟩
    have := ownsRow_sortedI (base := B) (n := n) (os := os) (ss := l) (ts := sortI l) (sortI_len l) hBg hh h1 h2 h3
    rw [sortI_len, I_enc]
    exact this
theorem compact_len (l : List Int) : (compact l).length ≤ l.length := compact_length_le l
end Go.Proofs.YtcfhfhpdnjaokaaGreatDoor
