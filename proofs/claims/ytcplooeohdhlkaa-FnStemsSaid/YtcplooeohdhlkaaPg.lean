/- Walks: the reference's fits, and its functions on places. -/
import Derived.Test.YtcplooeohdhlkaaPf
namespace Go.Proofs.Ytcplooeohdhlkaa
open Go.RowKit Pth

theorem run_next {p : ByteArray} {s : ByteArray} {k : Nat} (hk : k < s.size) {cur : List Int} (h : cur = (s.data.toList.take k).foldl (stepL p.data.toList) (startL p.data.toList)) :
    stepL p.data.toList cur s[k] = (s.data.toList.take (k + 1)).foldl (stepL p.data.toList) (startL p.data.toList) := by
  rw [take_snoc s k hk, List.foldl_append, ← h]; rfl

set_option maxHeartbeats 2000000 in
theorem l2Fits_any (p s : ByteArray) (w : World) (hs : p.size ≤ 100) (hl : s.size ≤ 2000000) :
    Calls Try.prog 53 #[.string p, .string s] w fun e w' => e = .returned (.bool (fitsL p.data.toList s.data.toList)) ∧ Below w.heap.size w w' := by
  have HZ : Hid (fitsL p.data.toList s.data.toList = hasL (runL p.data.toList s.data.toList) p.size) := by rw [fitsL, len_eq]; rfl
  go_enter Try.func53, Try.ntmps53
  go_wp2_with fail
  refine (l2Close_any p [0] w.heap.size _ _ (World.ownsRow_lit w #[.int .i64 0] 1 (Nat.le_refl _) (by unfold maxLen; omega) rfl) (by simp) hs (by decide)).mono ?_
  rintro e w0 ⟨v0, rfl, hown0, hb0⟩
  have HN0 := Lib.hid hown0
  have HB0 := Lib.hid (((Below.refl _ w).alloc (Nat.le_refl _) (.cells #[.int .i64 0] 3)).trans (hb0.mono (by simp)))
  clear hown0 hb0
  go_wp2_with fail
  go_loopw [5, 6] (fun u i wr => ∃ (cur : List Int) (k : Nat), k ≤ s.size ∧ i = .int .i64 k ∧ wr.ownsRow w.heap.size 3 1 u cur.length (I cur) ∧ Below w.heap.size w wr ∧
     Hid (Rise cur ∧ Within 0 p.data.toList.length cur) ∧ Hid (cur = (s.data.toList.take k).foldl (stepL p.data.toList) (startL p.data.toList))) (fun _ i _ => s.size - (intOf i).toNat)
  case atStart => exact ⟨startL p.data.toList, 0, Nat.zero_le _, rfl, HN0.out, HB0.out, ⟨start_rise _, start_within _⟩, rfl⟩
  case round =>
    clear HN0 HB0
    obtain ⟨cur, k, hk, rfl, hown, hb, HR, HS⟩ := hrel
    have hbs := hb.size
    have HN := Lib.hid hown
    have HB := Lib.hid hb
    have hcl : cur.length ≤ 200 := by have := rise_len21 HR.out.1 HR.out.2; rw [len_eq] at this; omega
    clear hown hb
    by_cases hlt : k < s.size
    · go_wp2_with fail
      refine (l2Step_any p cur s[k] _ wr (RowV.of_own HN.out) HR.out.2 hs hcl).mono ?_
      rintro e w1 ⟨v1, rfl, hown1, hb1⟩
      have HN1 := Lib.hid (own_base hown1 HB.out.size)
      have HB1 := Lib.hid (HB.out.trans (hb1.mono HB.out.size))
      clear hown1 hb1
      go_wp2_with fail
      go_roundw
      case rel => exact ⟨_, k + 1, by omega, by go_num, HN1.out, HB1.out, ⟨step_rise _ _ _, step_within _ HR.out.2⟩, run_next hlt HS.out⟩
      case measure => simp [intOf]; omega
    · have HE : Hid (cur = runL p.data.toList s.data.toList) := by have := HS.out; rw [take_all s k (by omega)] at this; exact this
      clear HS
      go_wp2_with fail
      refine (l1Has_any cur p.size _ wr (RowV.of_own HN.out)).mono ?_
      rintro e w1 ⟨rfl, rfl⟩
      go_wp2_with fail
      go_ret
      exact ⟨ret_bool (by rw [HZ.out, HE.out]), HB.out⟩

/-- Numbers and whether they stand are handed back, the numbers in memory of the call's own. -/
def IntsOk (l : List Int) (ok : Bool) (w : World) (e : Ending) (w' : World) : Prop :=
  ∃ v, e = .returned (.tuple #[v, .bool ok]) ∧ w'.ownsRow w.heap.size 3 1 v l.length (I l) ∧ Below w.heap.size w w'
def BoolsPost (a b : Bool) (w : World) (e : Ending) (w' : World) : Prop := e = .returned (.tuple #[.bool a, .bool b]) ∧ Below w.heap.size w w'

def startT (p : List UInt8) : List Int := if patL p = true then startL p else []
theorem patL_len {p : ByteArray} (h : patL p.data.toList = true) : 1 ≤ p.size ∧ p.size ≤ 20 := by
  simp only [patL, Bool.and_eq_true, decide_eq_true_iff, len_eq] at h
  exact h.2
theorem pathL_len {s : ByteArray} (h : pathL s.data.toList = true) : s.size ≤ 60 := by
  simp only [pathL, Bool.and_eq_true, decide_eq_true_iff, len_eq] at h
  exact h.2

set_option maxHeartbeats 1000000 in
theorem specStart_any (p : ByteArray) (w : World) (hs : p.size ≤ maxLen) :
    Calls Try.prog 24 #[.string p] w (IntsOk (startT p.data.toList) (patL p.data.toList) w) := by
  have C := Lib.hid (l2Pattern_any p w hs)
  rcases hp : patL p.data.toList with _ | _
  · have HT : Hid (startT p.data.toList = []) := by rw [startT, if_neg (by rw [hp]; simp)]; rfl
    rw [hp] at C
    clear hp
    go_enter Try.func24, Try.ntmps24
    go_wp2_with fail
    refine C.out.mono ?_
    rintro e w1 ⟨rfl, hb1⟩
    have HB1 := Lib.hid hb1
    clear hb1 C
    go_wp2_with fail
    go_ret2
    exact ⟨_, rfl, by rw [HT.out]; exact World.ownsRow_nil _ _ _ _, HB1.out⟩
  · have HT : Hid (startT p.data.toList = closeL p.data.toList [0]) := by rw [startT, if_pos hp]; rfl
    have hl := (patL_len hp).2
    rw [hp] at C
    clear hp
    go_enter Try.func24, Try.ntmps24
    go_wp2_with fail
    refine C.out.mono ?_
    rintro e w1 ⟨rfl, hb1⟩
    have HB1 := Lib.hid hb1
    have hb1s := hb1.size
    clear hb1 C
    go_wp2_with fail
    refine (l2Close_any p [0] w.heap.size _ _ (World.ownsRow_lit w1 #[.int .i64 0] 1 hb1s (by unfold maxLen; omega) rfl) (by simp; omega) (by omega) (by decide)).mono ?_
    rintro e w2 ⟨v2, rfl, hown2, hb2⟩
    have HN2 := Lib.hid hown2
    have HB2 := Lib.hid ((HB1.out.alloc hb1s (.cells #[.int .i64 0] 3)).trans (hb2.mono (by simp; omega)))
    clear hown2 hb2
    go_wp2_with fail
    go_ret2
    exact ⟨_, rfl, by rw [HT.out]; exact HN2.out, HB2.out⟩

def stepOk (p : List UInt8) (l : List Int) (b : UInt8) : Bool := patL p && (riseB 0 p.length l && pb (b.toNat : Int))
def stepT (p : List UInt8) (l : List Int) (b : UInt8) : List Int := if stepOk p l b = true then stepL p l b else []

set_option maxHeartbeats 1000000 in
theorem specStep_any (p : ByteArray) (l : List Int) (b : UInt8) (v : Value) (w : World) (hrow : RowV w v (I l)) (hs : p.size ≤ maxLen) :
    Calls Try.prog 26 #[.string p, v, .int .u8 (b.toNat : Int)] w (IntsOk (stepT p.data.toList l b) (stepOk p.data.toList l b) w) := by
  have C := Lib.hid (l2Pattern_any p w hs)
  have HW := Lib.hid hrow
  clear hrow
  rcases hp : patL p.data.toList with _ | _
  · have HT : Hid (stepOk p.data.toList l b = false) := by rw [stepOk, hp]; rfl
    have HT2 : Hid (stepT p.data.toList l b = []) := by rw [stepT, HT.out]; rfl
    rw [HT.out, HT2.out]
    rw [hp] at C
    clear hp HT HT2
    go_enter Try.func26, Try.ntmps26
    go_wp2_with fail
    refine C.out.mono ?_
    rintro e w1 ⟨rfl, hb1⟩
    have HB1 := Lib.hid hb1
    clear hb1 C
    go_wp2_with fail
    go_ret2
    exact ⟨_, rfl, World.ownsRow_nil _ _ _ _, HB1.out⟩
  · have hl := (patL_len hp).2
    rcases hr : riseB 0 p.data.toList.length l with _ | _
    · have HT : Hid (stepOk p.data.toList l b = false) := by rw [stepOk, hr]; simp [Hid]
      have HT2 : Hid (stepT p.data.toList l b = []) := by rw [stepT, HT.out]; rfl
      rw [HT.out, HT2.out]
      rw [hp] at C
      have HR : Hid (riseB 0 p.size l = false) := by rw [len_eq] at hr; exact hr
      clear hp hr HT HT2
      go_enter Try.func26, Try.ntmps26
      go_wp2_with fail
      refine C.out.mono ?_
      rintro e w1 ⟨rfl, hb1⟩
      have HB1 := Lib.hid hb1
      clear hb1 C
      go_wp2_with fail
      refine (l1Rising_any l 0 p.size _ w1 (HW.out.below HB1.out)).mono ?_
      rw [HR.out]
      rintro e w2 ⟨rfl, rfl⟩
      go_wp2_with fail
      go_ret2
      exact ⟨_, rfl, World.ownsRow_nil _ _ _ _, HB1.out⟩
    · have HR : Hid (riseB 0 p.size l = true) := by rw [len_eq] at hr; exact hr
      obtain ⟨hr1, hr2⟩ := riseB_iff.1 hr
      have hll : l.length ≤ 200 := by have := rise_len21 hr1 hr2; rw [len_eq] at this; omega
      have HI := Lib.hid hr2
      clear hr1 hr2
      rcases hb : pb (b.toNat : Int) with _ | _
      · have HT : Hid (stepOk p.data.toList l b = false) := by rw [stepOk, hb]; simp [Hid]
        have HT2 : Hid (stepT p.data.toList l b = []) := by rw [stepT, HT.out]; rfl
        rw [HT.out, HT2.out]
        rw [hp] at C
        have C2 := l2Byte_any b
        rw [hb] at C2
        have HC2 := Lib.hid C2
        clear hp hr HT HT2 hb C2
        go_enter Try.func26, Try.ntmps26
        go_wp2_with fail
        refine C.out.mono ?_
        rintro e w1 ⟨rfl, hb1⟩
        have HB1 := Lib.hid hb1
        clear hb1 C
        go_wp2_with fail
        refine (l1Rising_any l 0 p.size _ w1 (HW.out.below HB1.out)).mono ?_
        rw [HR.out]
        rintro e w2 ⟨rfl, rfl⟩
        go_wp2_with fail
        refine (HC2.out w1).mono ?_
        rintro e w2 ⟨rfl, hb2⟩
        have HB2 := Lib.hid (HB1.out.trans (hb2.mono HB1.out.size))
        clear hb2
        go_wp2_with fail
        go_ret2
        exact ⟨_, rfl, World.ownsRow_nil _ _ _ _, HB2.out⟩
      · have HT : Hid (stepOk p.data.toList l b = true) := by rw [stepOk, hb, hr, hp]; rfl
        have HT2 : Hid (stepT p.data.toList l b = stepL p.data.toList l b) := by rw [stepT, HT.out]; rfl
        rw [HT.out, HT2.out]
        rw [hp] at C
        have C2 := l2Byte_any b
        rw [hb] at C2
        have HC2 := Lib.hid C2
        clear hp hr HT HT2 hb C2
        go_enter Try.func26, Try.ntmps26
        go_wp2_with fail
        refine C.out.mono ?_
        rintro e w1 ⟨rfl, hb1⟩
        have HB1 := Lib.hid hb1
        clear hb1 C
        go_wp2_with fail
        refine (l1Rising_any l 0 p.size _ w1 (HW.out.below HB1.out)).mono ?_
        rw [HR.out]
        rintro e w2 ⟨rfl, rfl⟩
        go_wp2_with fail
        refine (HC2.out w1).mono ?_
        rintro e w2 ⟨rfl, hb2⟩
        have HB2 := Lib.hid (HB1.out.trans (hb2.mono HB1.out.size))
        clear hb2
        go_wp2_with fail
        refine (l2Step_any p l b _ w2 (HW.out.below HB2.out) HI.out (by omega) hll).mono ?_
        rintro e w3 ⟨v3, rfl, hown3, hb3⟩
        have HN3 := Lib.hid (own_base hown3 HB2.out.size)
        have HB3 := Lib.hid (HB2.out.trans (hb3.mono HB2.out.size))
        clear hown3 hb3
        go_wp2_with fail
        go_ret2
        exact ⟨_, rfl, HN3.out, HB3.out⟩

end Go.Proofs.Ytcplooeohdhlkaa
