/- Walks: the reference's filled patterns, and lists that fit. -/
import Derived.Test.YtcplooeohdhlkaaPh
namespace Go.Proofs.Ytcplooeohdhlkaa
open Go.RowKit Pth

theorem l1Path_l (x : List UInt8) (w : World) (hx : x.length ≤ maxLen) : Calls Try.prog 52 #[.string ⟨x.toArray⟩] w fun e w' => e = .returned (.bool (pathL x)) ∧ w = w' := by
  have h := l1Path_any ⟨x.toArray⟩ w (by simpa [ByteArray.size] using hx)
  exact h
theorem l2Fits_l (p : ByteArray) (x : List UInt8) (w : World) (hp : p.size ≤ 100) (hx : x.length ≤ 2000000) : Calls Try.prog 53 #[.string p, .string ⟨x.toArray⟩] w fun e w' => e = .returned (.bool (fitsL p.data.toList x)) ∧ Below w.heap.size w w' :=
  l2Fits_any p ⟨x.toArray⟩ w hp (by simpa [ByteArray.size] using hx)

def fillL (p t : List UInt8) : List UInt8 := p.take (stemAt p).toNat ++ t ++ p.drop ((stemAt p).toNat + 1)
def fillOk (p t : List UInt8) : Bool := patL p && (pathL t && (!t.isEmpty && (decide (0 ≤ stemAt p) && decide ((fillL p t).length ≤ 60))))
def fillT (p t : List UInt8) : List UInt8 := if fillOk p t = true then fillL p t else []

theorem path_len {t : List UInt8} (h : pathL t = true) : t.length ≤ 60 := by
  simp only [pathL, Bool.and_eq_true, decide_eq_true_iff] at h
  exact h.2
theorem fill_bytes (p : ByteArray) (t : List UInt8) (m : Nat) : p.extract 0 m ++ ⟨t.toArray⟩ ++ p.extract (m + 1) p.size = ⟨(p.data.toList.take m ++ t ++ p.data.toList.drop (m + 1)).toArray⟩ := by
  apply ByteArray.ext
  apply Array.ext'
  rw [extract_mid, extract_mid, ByteArray.data_append, ByteArray.data_append]
  have e : p.data.toList.take p.size = p.data.toList := take_all p _ (Nat.le_refl _)
  simp [mid, e]
theorem fill_size (p : ByteArray) (t : List UInt8) (m : Nat) (hm : m < p.size) : (p.data.toList.take m ++ t ++ p.data.toList.drop (m + 1)).length = p.size + t.length - 1 := by
  simp only [List.length_append, List.length_take, List.length_drop, len_eq]; omega

set_option maxHeartbeats 2000000 in
theorem specFill_l (p : ByteArray) (t : List UInt8) (w : World) (hp : p.size ≤ maxLen) (hs : t.length ≤ maxLen) :
    Calls Try.prog 34 #[.string p, .string ⟨t.toArray⟩] w (TextOk (fillT p.data.toList t) (fillOk p.data.toList t) w) := by
  have C0 := Lib.hid (l2Stem_any p w hp)
  have C := Lib.hid (l2Pattern_any p w hp)
  have D := Lib.hid (fun W => l1Path_l t W hs)
  obtain ⟨hr1, hr2⟩ := stem_range p.data.toList
  rw [len_eq] at hr2
  rcases h1 : patL p.data.toList with _ | _
  · have HT : Hid (fillOk p.data.toList t = false) := by rw [fillOk, h1]; rfl
    have HT2 : Hid (fillT p.data.toList t = []) := by rw [fillT, HT.out]; rfl
    rw [HT.out, HT2.out]
    rw [h1] at C
    clear h1 HT HT2
    generalize stemAt p.data.toList = m at C0 hr1 hr2
    go_enter Try.func34, Try.ntmps34
    go_wp2_with fail
    refine C0.out.mono ?_
    rintro e w0 ⟨rfl, rfl⟩
    go_wp2_with fail
    refine C.out.mono ?_
    rintro e w1 ⟨rfl, hb1⟩
    have HB1 := Lib.hid hb1
    clear hb1 C
    go_wp2_with fail
    go_ret2
    exact ⟨rfl, HB1.out⟩
  · have hl := (patL_len h1).2
    rw [h1] at C
    rcases h2 : pathL t with _ | _
    · have HT : Hid (fillOk p.data.toList t = false) := by rw [fillOk, h2]; simp [Hid]
      have HT2 : Hid (fillT p.data.toList t = []) := by rw [fillT, HT.out]; rfl
      rw [HT.out, HT2.out]
      rw [h2] at D
      clear h1 h2 HT HT2
      generalize stemAt p.data.toList = m at C0 hr1 hr2
      go_enter Try.func34, Try.ntmps34
      go_wp2_with fail
      refine C0.out.mono ?_
      rintro e w0 ⟨rfl, rfl⟩
      go_wp2_with fail
      refine C.out.mono ?_
      rintro e w1 ⟨rfl, hb1⟩
      have HB1 := Lib.hid hb1
      clear hb1 C
      go_wp2_with fail
      refine (D.out w1).mono ?_
      rintro e w2 ⟨rfl, rfl⟩
      go_wp2_with fail
      go_ret2
      exact ⟨rfl, HB1.out⟩
    · have hl2 := path_len h2
      rw [h2] at D
      by_cases ht : t = []
      · subst ht
        have HT : Hid (fillOk p.data.toList [] = false) := by rw [fillOk]; simp [Hid]
        have HT2 : Hid (fillT p.data.toList [] = []) := by rw [fillT, HT.out]; rfl
        rw [HT.out, HT2.out]
        clear h1 h2 HT HT2
        generalize stemAt p.data.toList = m at C0 hr1 hr2
        go_enter Try.func34, Try.ntmps34
        go_wp2_with fail
        refine C0.out.mono ?_
        rintro e w0 ⟨rfl, rfl⟩
        go_wp2_with fail
        refine C.out.mono ?_
        rintro e w1 ⟨rfl, hb1⟩
        have HB1 := Lib.hid hb1
        clear hb1 C
        go_wp2_with fail
        refine (D.out w1).mono ?_
        rintro e w2 ⟨rfl, rfl⟩
        go_wp2_with fail
        go_ret2
        exact ⟨rfl, HB1.out⟩
      · have ht4 : t.isEmpty = false := by simpa using ht
        by_cases h3 : 0 ≤ stemAt p.data.toList
        · have h3' : decide (stemAt p.data.toList < 0) = false := by simp; omega
          obtain ⟨m, hm⟩ : ∃ m : Nat, stemAt p.data.toList = m := ⟨(stemAt p.data.toList).toNat, by omega⟩
          have hF : fillL p.data.toList t = p.data.toList.take m ++ t ++ p.data.toList.drop (m + 1) := by rw [fillL, hm, Int.toNat_natCast]
          have hFl : (fillL p.data.toList t).length = p.size + t.length - 1 := by rw [hF, fill_size p t m (by omega)]
          have hB := fill_bytes p t m
          rw [← hF] at hB
          have hmp : (m : Int) + 1 ≤ (p.size : Int) := by omega
          by_cases h5 : p.size + t.length - 1 ≤ 60
          · have HT : Hid (fillOk p.data.toList t = true) := by rw [fillOk, h1, h2, ht4, decide_eq_true h3, hFl, decide_eq_true h5]; rfl
            have HT2 : Hid (fillT p.data.toList t = fillL p.data.toList t) := by rw [fillT, HT.out]; rfl
            rw [HT.out, HT2.out]
            clear h1 h2 HT HT2 hF
            rw [hm] at C0 hr1 hr2 h3 h3'
            clear hm
            generalize fillL p.data.toList t = F at hFl hB
            go_enter Try.func34, Try.ntmps34
            go_wp2_with fail
            refine C0.out.mono ?_
            rintro e w0 ⟨rfl, rfl⟩
            go_wp2_with fail
            refine C.out.mono ?_
            rintro e w1 ⟨rfl, hb1⟩
            have HB1 := Lib.hid hb1
            clear hb1 C
            go_wp2_with fail
            refine (D.out w1).mono ?_
            rintro e w2 ⟨rfl, rfl⟩
            go_wp2_with fail
            have h6 : decide ((60 : Int) < ((p.size + t.length - 1 : Nat) : Int)) = false := by simp; omega
            go_quiet (fail)
            go_wp2_with fail
            go_ret2
            exact ⟨rfl, below_drewN HB1.out _⟩
          · have HT : Hid (fillOk p.data.toList t = false) := by rw [fillOk, hFl, decide_eq_false h5]; simp [Hid]
            have HT2 : Hid (fillT p.data.toList t = []) := by rw [fillT, HT.out]; rfl
            rw [HT.out, HT2.out]
            clear h1 h2 HT HT2 hF
            rw [hm] at C0 hr1 hr2 h3 h3'
            clear hm
            generalize fillL p.data.toList t = F at hFl hB
            go_enter Try.func34, Try.ntmps34
            go_wp2_with fail
            refine C0.out.mono ?_
            rintro e w0 ⟨rfl, rfl⟩
            go_wp2_with fail
            refine C.out.mono ?_
            rintro e w1 ⟨rfl, hb1⟩
            have HB1 := Lib.hid hb1
            clear hb1 C
            go_wp2_with fail
            refine (D.out w1).mono ?_
            rintro e w2 ⟨rfl, rfl⟩
            go_wp2_with fail
            have h6 : decide ((60 : Int) < ((p.size + t.length - 1 : Nat) : Int)) = true := by simp; omega
            go_quiet (fail)
            go_wp2_with fail
            go_ret2
            exact ⟨rfl, below_drewN HB1.out _⟩
        · have h3' : decide (stemAt p.data.toList < 0) = true := by simp; omega
          have HT : Hid (fillOk p.data.toList t = false) := by rw [fillOk, decide_eq_false h3]; simp [Hid]
          have HT2 : Hid (fillT p.data.toList t = []) := by rw [fillT, HT.out]; rfl
          rw [HT.out, HT2.out]
          clear h1 h2 HT HT2
          generalize stemAt p.data.toList = m at C0 hr1 hr2 h3 h3'
          go_enter Try.func34, Try.ntmps34
          go_wp2_with fail
          refine C0.out.mono ?_
          rintro e w0 ⟨rfl, rfl⟩
          go_wp2_with fail
          refine C.out.mono ?_
          rintro e w1 ⟨rfl, hb1⟩
          have HB1 := Lib.hid hb1
          clear hb1 C
          go_wp2_with fail
          refine (D.out w1).mono ?_
          rintro e w2 ⟨rfl, rfl⟩
          go_wp2_with fail
          go_ret2
          exact ⟨rfl, HB1.out⟩

end Go.Proofs.Ytcplooeohdhlkaa
