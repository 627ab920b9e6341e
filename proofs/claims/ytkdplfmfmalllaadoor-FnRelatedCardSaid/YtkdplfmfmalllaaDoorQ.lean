/- Walks: how many parts two paths have alike, and whether one leads up; both programs'. -/
import Derived.Test.YtkdplfmfmalllaaDoorP
import Derived.Deep.QuietTactic
import Derived.BigQuiet
import Derived.Deep.RegionHeld3
namespace Go.Proofs.YtkdplfmfmalllaaDoor
open Go.RowKit Pth

theorem below_drewN {B : Nat} {a w : World} (h : Below B a w) (n : Nat) : Below B a (w.drewN n) := ⟨h.os, h.tape, h.output, h.size, h.block⟩

/-- Whether the first part leads up. -/
def upsL : List (List UInt8) → Bool
  | [] => false
  | p :: _ => p == [46, 46]

theorem row_alloc {w : World} {v : Value} {l : List (List UInt8)} (h : RowAt w v l) (o : Obj) : RowAt (w.alloc o) v l := by
  obtain ⟨a, c, hv, hat⟩ := h
  refine ⟨a, c, hv, fun k hk => ?_⟩
  obtain ⟨g, o', ha, hg, hc⟩ := hat k hk
  exact ⟨g, o', ha, by simp; omega, by rw [World.cell?_alloc_lt _ _ _ hg]; exact hc⟩
theorem row_below {w w' : World} {v : Value} {l : List (List UInt8)} (h : RowAt w v l) (hb : Below w.heap.size w w') : RowAt w' v l := by
  obtain ⟨a, c, hv, hat⟩ := h
  refine ⟨a, c, hv, fun k hk => ?_⟩
  obtain ⟨g, o', ha, hg, hc⟩ := hat k hk
  exact ⟨g, o', ha, by have := hb.size; omega, by rw [hb.cell (p := ⟨g, o' + k, none⟩) hg]; exact hc⟩

theorem leadsUp_any (l : List (List UInt8)) (r : Bool) (v : Value) (w : World) (hrow : RowAt w v l) (hl : l.length ≤ 1000000) :
    Calls Tryd.prog 37 #[.agg #[.bool r, v]] w (BoolPost (upsL l) w) := by
  obtain ⟨a, c, rfl, hat⟩ := row_alloc hrow (.cells #[.bool r, v] 43)
  rcases l with _ | ⟨p, t⟩
  · clear hat
    go_enter Tryd.func37, Tryd.ntmps37
    go_wp2
    go_ret
    exact ⟨rfl, (Below.refl _ _).alloc (Nat.le_refl _) _⟩
  · obtain ⟨g, o, rfl, hg, hc⟩ := hat 0 (by simp)
    rw [Nat.add_zero, List.getElem_cons_zero] at hc
    have hl2 : ((p :: t).length : Int) = t.length + 1 := by simp
    have hl3 : t.length + 1 ≤ 1000000 := by simpa using hl
    have HU : Hid (upsL (p :: t) = (p == [46, 46])) := rfl
    clear hat hl
    rw [List.length_cons] at hc ⊢
    clear hl2
    go_enter Tryd.func37, Tryd.ntmps37
    go_wp2
    go_ret
    exact ⟨by rw [HU.out] <;> rfl, (Below.refl _ _).alloc (Nat.le_refl _) _⟩

theorem l1Ups_any (l : List (List UInt8)) (v : Value) (w : World) (hrow : RowAt w v l) (hl : l.length ≤ 1000000) :
    Calls Tryd.prog 46 #[v] w fun e w' => e = .returned (.bool (upsL l)) ∧ w = w' := by
  obtain ⟨a, c, rfl, hat⟩ := hrow
  rcases l with _ | ⟨p, t⟩
  · clear hat
    go_enter Tryd.func46, Tryd.ntmps46
    go_wp2
    go_ret
    exact ⟨rfl, rfl⟩
  · obtain ⟨g, o, rfl, hg, hc⟩ := hat 0 (by simp)
    rw [Nat.add_zero, List.getElem_cons_zero] at hc
    have hl3 : t.length + 1 ≤ 1000000 := by simpa using hl
    have HU : Hid (upsL (p :: t) = (p == [46, 46])) := rfl
    clear hat hl
    rw [List.length_cons]
    go_enter Tryd.func46, Tryd.ntmps46
    go_wp2
    go_ret
    exact ⟨by rw [HU.out] <;> rfl, rfl⟩

/-- How many are alike from the front on. -/
def alikeN : List (List UInt8) → List (List UInt8) → Nat
  | x :: r, y :: t => if x = y then alikeN r t + 1 else 0
  | _, _ => 0
theorem alike_le (a b : List (List UInt8)) : alikeN a b ≤ a.length ∧ alikeN a b ≤ b.length := by
  induction a generalizing b with
  | nil => simp [alikeN]
  | cons x r ih =>
    cases b with
    | nil => simp [alikeN]
    | cons y t =>
      have := ih t
      unfold alikeN
      split
      · simp only [List.length_cons]; omega
      · simp
/-- Where the first k are alike and the next are not (or one has none) the count is k. -/
theorem alike_stop {a b : List (List UInt8)} {k : Nat} (hk : a.take k = b.take k) (ha : k ≤ a.length) (hb : k ≤ b.length)
    (hs : k = a.length ∨ k = b.length ∨ ∃ (h1 : k < a.length) (h2 : k < b.length), ¬ a[k] = b[k]) : alikeN a b = k := by
  induction k generalizing a b with
  | zero =>
    cases a with
    | nil => simp [alikeN]
    | cons x r =>
      cases b with
      | nil => simp [alikeN]
      | cons y t =>
        rcases hs with h | h | ⟨_, _, h⟩
        · simp at h
        · simp at h
        · unfold alikeN; rw [if_neg (by simpa using h)]
  | succ k ih =>
    cases a with
    | nil => simp at ha
    | cons x r =>
      cases b with
      | nil => simp at hb
      | cons y t =>
        simp only [List.take_succ_cons, List.cons.injEq] at hk
        unfold alikeN
        rw [if_pos hk.1, ih hk.2 (by simpa using ha) (by simpa using hb)]
        rcases hs with h | h | ⟨h1, h2, h⟩
        · exact .inl (by simpa using h)
        · exact .inr (.inl (by simpa using h))
        · exact .inr (.inr ⟨by simpa using h1, by simpa using h2, by simpa using h⟩)
theorem take_next {a b : List (List UInt8)} {k : Nat} (hk : a.take k = b.take k) (h1 : k < a.length) (h2 : k < b.length) (h : a[k] = b[k]) : a.take (k + 1) = b.take (k + 1) := by
  rw [List.take_succ_eq_append_getElem h1, List.take_succ_eq_append_getElem h2, hk, h]

set_option maxHeartbeats 1000000 in
theorem partsAlike_any (a b : List (List UInt8)) (ra rb : Bool) (va vb : Value) (w : World) (hra : RowAt w va a) (hrb : RowAt w vb b) (hla : a.length ≤ 1000000) (hlb : b.length ≤ 1000000) :
    Calls Tryd.prog 38 #[.agg #[.bool ra, va], .agg #[.bool rb, vb]] w fun e w' => e = .returned (.int .i64 (alikeN a b : Nat)) ∧ Below w.heap.size w w' := by
  obtain ⟨aa, ca, rfl, hata⟩ := row_alloc (row_alloc hra (.cells #[.bool ra, va] 43)) (.cells #[.bool rb, vb] 43)
  obtain ⟨ab, cb, rfl, hatb⟩ := row_alloc (row_alloc hrb (.cells #[.bool ra, .slice aa a.length ca] 43)) (.cells #[.bool rb, vb] 43)
  have HA := Lib.hid hata
  have HB := Lib.hid hatb
  clear hata hatb
  go_enter Tryd.func38, Tryd.ntmps38
  go_wp2
  go_loopw [5] (fun n wr => ∃ (k j : Nat), k ≤ a.length ∧ k ≤ b.length ∧ n = .int .i64 k ∧ Hid (a.take k = b.take k) ∧
    wr = ((w.alloc (.cells #[.bool ra, .slice aa a.length ca] 43)).alloc (.cells #[.bool rb, .slice ab b.length cb] 43)).drewN j) (fun n _ => a.length - (intOf n).toNat)
  case atStart => exact ⟨0, 0, Nat.zero_le _, Nat.zero_le _, rfl, rfl, rfl⟩
  case round =>
    obtain ⟨k, j, hka, hkb, rfl, HT, rfl⟩ := hrel
    by_cases h1 : k < a.length
    · have g1 : decide ((k : Int) < (a.length : Int)) = true := by simpa using h1
      by_cases h2 : k < b.length
      · have g2 : decide ((k : Int) < (b.length : Int)) = true := by simpa using h2
        obtain ⟨g, o, rfl, hg, hc⟩ := HA.out k h1
        obtain ⟨g', o', rfl, hg', hc'⟩ := HB.out k h2
        by_cases he : a[k] = b[k]
        · have HN := Lib.hid (take_next HT.out h1 h2 he)
          rw [← he] at hc'
          clear HT he
          generalize a[k] = p at hc hc'
          go_wp2
          go_quiet (fail)
          go_wp2
          go_roundw
          case rel => exact ⟨k + 1, _, by omega, by omega, by go_num, HN.out, rfl⟩
          case measure => simp [intOf]; omega
        · have HE : Hid (alikeN a b = k) := alike_stop HT.out hka hkb (.inr (.inr ⟨h1, h2, he⟩))
          have he1 : (a[k] == b[k]) = false := by simpa using he
          clear HT
          generalize a[k] = p at hc he he1
          generalize b[k] = q at hc' he he1
          go_wp2
          go_quiet (fail)
          go_wp2
          go_ret
          exact ⟨by rw [HE.out] <;> rfl, below_drewN (below_drewN (((Below.refl _ _).alloc (Nat.le_refl _) _).alloc (by simp) _) _) _⟩
      · have g2 : decide ((k : Int) < (b.length : Int)) = false := by simpa using h2
        have HE : Hid (alikeN a b = k) := alike_stop HT.out hka hkb (.inr (.inl (by omega)))
        clear HT
        go_wp2
        go_quiet (fail)
        go_wp2
        go_ret
        exact ⟨by rw [HE.out] <;> rfl, below_drewN (below_drewN (((Below.refl _ _).alloc (Nat.le_refl _) _).alloc (by simp) _) _) _⟩
    · have g1 : decide ((k : Int) < (a.length : Int)) = false := by simpa using h1
      have HE : Hid (alikeN a b = k) := alike_stop HT.out hka hkb (.inl (by omega))
      clear HT
      go_wp2
      go_quiet (fail)
      go_wp2
      go_ret
      exact ⟨by rw [HE.out] <;> rfl, below_drewN (below_drewN (((Below.refl _ _).alloc (Nat.le_refl _) _).alloc (by simp) _) _) _⟩

end Go.Proofs.YtkdplfmfmalllaaDoor
