/- Walks: the reference's fits of one, and of a list; plain patterns; stems. -/
import Derived.Test.YtcplooeohdhlkaaPg
namespace Go.Proofs.Ytcplooeohdhlkaa
open Go.RowKit Pth

def fitsOk (p s : List UInt8) : Bool := patL p && pathL s
def fitsT (p s : List UInt8) : Bool := fitsOk p s && fitsL p s

set_option maxHeartbeats 1000000 in
theorem specFits_any (p s : ByteArray) (w : World) (hp : p.size ≤ maxLen) (hs : s.size ≤ maxLen) :
    Calls Try.prog 14 #[.string p, .string s] w (BoolsPost (fitsT p.data.toList s.data.toList) (fitsOk p.data.toList s.data.toList) w) := by
  have C := Lib.hid (l2Pattern_any p w hp)
  have D := Lib.hid (fun W => l1Path_any s W hs)
  unfold fitsT fitsOk
  rcases h1 : patL p.data.toList with _ | _
  · rw [h1] at C
    clear h1
    go_enter Try.func14, Try.ntmps14
    go_wp2_with fail
    refine C.out.mono ?_
    rintro e w1 ⟨rfl, hb1⟩
    have HB1 := Lib.hid hb1
    clear hb1 C
    go_wp2_with fail
    go_ret2
    exact ⟨rfl, HB1.out⟩
  · have hl := (patL_len h1).2
    rw [h1] at C
    clear h1
    rcases h2 : pathL s.data.toList with _ | _
    · rw [h2] at D
      clear h2
      go_enter Try.func14, Try.ntmps14
      go_wp2_with fail
      refine C.out.mono ?_
      rintro e w1 ⟨rfl, hb1⟩
      have HB1 := Lib.hid hb1
      clear hb1 C
      go_wp2_with fail
      refine (D.out w1).mono ?_
      rintro e w2 ⟨rfl, rfl⟩
      go_wp2_with fail
      go_ret2
      exact ⟨rfl, HB1.out⟩
    · have hl2 := pathL_len h2
      rw [h2] at D
      clear h2
      go_enter Try.func14, Try.ntmps14
      go_wp2_with fail
      refine C.out.mono ?_
      rintro e w1 ⟨rfl, hb1⟩
      have HB1 := Lib.hid hb1
      clear hb1 C
      go_wp2_with fail
      refine (D.out w1).mono ?_
      rintro e w2 ⟨rfl, rfl⟩
      go_wp2_with fail
      refine (l2Fits_any p s w1 (by omega) (by omega)).mono ?_
      rintro e w2 ⟨rfl, hb2⟩
      have HB2 := Lib.hid (HB1.out.trans (hb2.mono HB1.out.size))
      clear hb2
      go_wp2_with fail
      go_ret2
      exact ⟨rfl, HB2.out⟩

def plainT (p : List UInt8) : Bool := patL p && pathL p

set_option maxHeartbeats 1000000 in
theorem specPlain_any (p : ByteArray) (w : World) (hp : p.size ≤ maxLen) :
    Calls Try.prog 36 #[.string p] w (BoolsPost (plainT p.data.toList) (patL p.data.toList) w) := by
  have C := Lib.hid (l2Pattern_any p w hp)
  have D := Lib.hid (fun W => l1Path_any p W hp)
  unfold plainT
  rcases h1 : patL p.data.toList with _ | _
  · rw [h1] at C
    clear h1
    go_enter Try.func36, Try.ntmps36
    go_wp2_with fail
    refine C.out.mono ?_
    rintro e w1 ⟨rfl, hb1⟩
    have HB1 := Lib.hid hb1
    clear hb1 C
    go_wp2_with fail
    go_ret2
    exact ⟨rfl, HB1.out⟩
  · rw [h1] at C
    clear h1
    go_enter Try.func36, Try.ntmps36
    go_wp2_with fail
    refine C.out.mono ?_
    rintro e w1 ⟨rfl, hb1⟩
    have HB1 := Lib.hid hb1
    clear hb1 C
    go_wp2_with fail
    refine (D.out w1).mono ?_
    rintro e w2 ⟨rfl, rfl⟩
    go_wp2_with fail
    go_ret2
    exact ⟨by simp, HB1.out⟩

/-- The stem of a text by a pattern. -/
def TextOk (t : List UInt8) (ok : Bool) (w : World) (e : Ending) (w' : World) : Prop := e = .returned (.tuple #[.string ⟨t.toArray⟩, .bool ok]) ∧ Below w.heap.size w w'
def stemOk (p s : List UInt8) : Bool := patL p && (pathL s && (decide (0 ≤ stemAt p) && fitsL p s))
def stemT (p s : List UInt8) : List UInt8 := if stemOk p s = true then mid s (stemAt p).toNat (s.length - (p.length - (stemAt p).toNat - 1)) else []

theorem stem_range (p : List UInt8) : -1 ≤ stemAt p ∧ stemAt p < p.length := by
  rcases stem_cases p with h | ⟨a, b, hp, h, _⟩
  · rw [h]; omega
  · rw [h, hp]; simp only [List.length_append, List.length_cons]; omega
theorem stem_room {p s : List UInt8} (h0 : 0 ≤ stemAt p) (hf : fitsL p s = true) : p.length ≤ s.length := by
  rcases stem_cases p with h | ⟨a, b, hp, h, ha, hb⟩
  · omega
  · rw [hp] at hf
    obtain ⟨t, ht, hs⟩ := (stem_fit ha hb s).1 hf
    have : 0 < t.length := by cases t with
      | nil => exact absurd rfl ht
      | cons _ _ => simp
    rw [hp, hs]; simp only [List.length_append, List.length_cons]; omega

set_option maxHeartbeats 2000000 in
theorem specStem_any (p s : ByteArray) (w : World) (hp : p.size ≤ maxLen) (hs : s.size ≤ maxLen) :
    Calls Try.prog 31 #[.string p, .string s] w (TextOk (stemT p.data.toList s.data.toList) (stemOk p.data.toList s.data.toList) w) := by
  have C0 := Lib.hid (l2Stem_any p w hp)
  have C := Lib.hid (l2Pattern_any p w hp)
  have D := Lib.hid (fun W => l1Path_any s W hs)
  obtain ⟨hr1, hr2⟩ := stem_range p.data.toList
  rw [len_eq] at hr2
  rcases h1 : patL p.data.toList with _ | _
  · have HT : Hid (stemOk p.data.toList s.data.toList = false) := by rw [stemOk, h1]; rfl
    have HT2 : Hid (stemT p.data.toList s.data.toList = []) := by rw [stemT, HT.out]; rfl
    rw [HT.out, HT2.out]
    rw [h1] at C
    clear h1 HT HT2
    generalize stemAt p.data.toList = m at C0 hr1 hr2
    go_enter Try.func31, Try.ntmps31
    go_wp2_with fail
    refine C0.out.mono ?_
    rintro e w0 ⟨rfl, rfl⟩
    go_wp2_with fail
    refine C.out.mono ?_
    rintro e w1 ⟨rfl, hb1⟩
    have HB1 := Lib.hid hb1
    clear hb1 C
    go_wp2_with fail
    go_ret2
    exact ⟨rfl, HB1.out⟩
  · have hl := (patL_len h1).2
    rw [h1] at C
    rcases h2 : pathL s.data.toList with _ | _
    · have HT : Hid (stemOk p.data.toList s.data.toList = false) := by rw [stemOk, h2]; simp [Hid]
      have HT2 : Hid (stemT p.data.toList s.data.toList = []) := by rw [stemT, HT.out]; rfl
      rw [HT.out, HT2.out]
      rw [h2] at D
      clear h1 h2 HT HT2
      generalize stemAt p.data.toList = m at C0 hr1 hr2
      go_enter Try.func31, Try.ntmps31
      go_wp2_with fail
      refine C0.out.mono ?_
      rintro e w0 ⟨rfl, rfl⟩
      go_wp2_with fail
      refine C.out.mono ?_
      rintro e w1 ⟨rfl, hb1⟩
      have HB1 := Lib.hid hb1
      clear hb1 C
      go_wp2_with fail
      refine (D.out w1).mono ?_
      rintro e w2 ⟨rfl, rfl⟩
      go_wp2_with fail
      go_ret2
      exact ⟨rfl, HB1.out⟩
    · have hl2 := pathL_len h2
      rw [h2] at D
      by_cases h3 : 0 ≤ stemAt p.data.toList
      · have h3' : decide (stemAt p.data.toList < 0) = false := by simp; omega
        have C2 := Lib.hid (fun W => l2Fits_any p s W (by omega) (by omega))
        rcases h4 : fitsL p.data.toList s.data.toList with _ | _
        · have HT : Hid (stemOk p.data.toList s.data.toList = false) := by rw [stemOk, h4]; simp [Hid]
          have HT2 : Hid (stemT p.data.toList s.data.toList = []) := by rw [stemT, HT.out]; rfl
          rw [HT.out, HT2.out]
          rw [h4] at C2
          clear h1 h2 h4 HT HT2
          generalize stemAt p.data.toList = m at C0 hr1 hr2 h3 h3'
          go_enter Try.func31, Try.ntmps31
          go_wp2_with fail
          refine C0.out.mono ?_
          rintro e w0 ⟨rfl, rfl⟩
          go_wp2_with fail
          refine C.out.mono ?_
          rintro e w1 ⟨rfl, hb1⟩
          have HB1 := Lib.hid hb1
          clear hb1 C
          go_wp2_with fail
          refine (D.out w1).mono ?_
          rintro e w2 ⟨rfl, rfl⟩
          go_wp2_with fail
          refine (C2.out w1).mono ?_
          rintro e w2 ⟨rfl, hb2⟩
          have HB2 := Lib.hid (HB1.out.trans (hb2.mono HB1.out.size))
          clear hb2
          go_wp2_with fail
          go_ret2
          exact ⟨rfl, HB2.out⟩
        · have HT : Hid (stemOk p.data.toList s.data.toList = true) := by rw [stemOk, h4, h1, h2]; simp [Hid, h3]
          have HT2 : Hid (stemT p.data.toList s.data.toList = mid s.data.toList (stemAt p.data.toList).toNat (s.size - (p.size - (stemAt p.data.toList).toNat - 1))) := by rw [stemT, HT.out, len_eq, len_eq]; rfl
          have hroom := stem_room h3 h4
          rw [len_eq, len_eq] at hroom
          rw [HT.out, HT2.out]
          rw [h4] at C2
          clear h1 h2 h4 HT HT2
          generalize stemAt p.data.toList = x at C0 hr1 hr2 h3 h3'
          obtain ⟨m, rfl⟩ : ∃ m : Nat, x = m := ⟨x.toNat, by omega⟩
          rw [Int.toNat_natCast]
          go_enter Try.func31, Try.ntmps31
          go_wp2_with fail
          refine C0.out.mono ?_
          rintro e w0 ⟨rfl, rfl⟩
          go_wp2_with fail
          refine C.out.mono ?_
          rintro e w1 ⟨rfl, hb1⟩
          have HB1 := Lib.hid hb1
          clear hb1 C
          go_wp2_with fail
          refine (D.out w1).mono ?_
          rintro e w2 ⟨rfl, rfl⟩
          go_wp2_with fail
          refine (C2.out w1).mono ?_
          rintro e w2 ⟨rfl, hb2⟩
          have HB2 := Lib.hid (HB1.out.trans (hb2.mono HB1.out.size))
          clear hb2
          go_wp2_with fail
          go_ret2
          exact ⟨by rw [← extract_mid]; rfl, HB2.out⟩
      · have h3' : decide (stemAt p.data.toList < 0) = true := by simp; omega
        have HT : Hid (stemOk p.data.toList s.data.toList = false) := by rw [stemOk, decide_eq_false h3]; simp [Hid]
        have HT2 : Hid (stemT p.data.toList s.data.toList = []) := by rw [stemT, HT.out]; rfl
        rw [HT.out, HT2.out]
        clear h1 h2 HT HT2
        generalize stemAt p.data.toList = m at C0 hr1 hr2 h3 h3'
        go_enter Try.func31, Try.ntmps31
        go_wp2_with fail
        refine C0.out.mono ?_
        rintro e w0 ⟨rfl, rfl⟩
        go_wp2_with fail
        refine C.out.mono ?_
        rintro e w1 ⟨rfl, hb1⟩
        have HB1 := Lib.hid hb1
        clear hb1 C
        go_wp2_with fail
        refine (D.out w1).mono ?_
        rintro e w2 ⟨rfl, rfl⟩
        go_wp2_with fail
        go_ret2
        exact ⟨rfl, HB1.out⟩

end Go.Proofs.Ytcplooeohdhlkaa
