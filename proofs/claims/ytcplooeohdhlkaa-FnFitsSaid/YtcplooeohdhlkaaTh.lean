/- Mathematics of what stands around the stem's sign; the program's taking apart of a pattern; copies of texts. -/
import Derived.Test.YtcplooeohdhlkaaTg
import Derived.Test.YtcplooeohdhlkaaLb
import Derived.Test.YtcplooeohdhlkaaSe
namespace Go.Proofs.Ytcplooeohdhlkaa
open Go.RowKit Pth

theorem index_none37 (p : List UInt8) (h : (37 : UInt8) ∉ p) : Lib.index p [37] = -1 := by
  induction p with
  | nil => rfl
  | cons c t ih =>
    simp only [List.mem_cons, not_or] at h
    have h1 : ([37] : List UInt8).isPrefixOf (c :: t) = false := by simp [List.isPrefixOf, h.1]
    rw [Lib.index, h1, ih h.2]
    rfl
theorem index_at37 (a b : List UInt8) (h : (37 : UInt8) ∉ a) : Lib.index (a ++ 37 :: b) [37] = (a.length : Int) := by
  induction a with
  | nil =>
    have h1 : ([37] : List UInt8).isPrefixOf (37 :: b) = true := by simp [List.isPrefixOf]
    rw [List.nil_append, Lib.index, h1]; rfl
  | cons c t ih =>
    simp only [List.mem_cons, not_or] at h
    have h1 : ([37] : List UInt8).isPrefixOf (c :: (t ++ 37 :: b)) = false := by simp [List.isPrefixOf, h.1]
    have h2 : (((t.length : Nat) : Int) == -1) = false := by rw [beq_eq_false_iff_ne]; omega
    rw [List.cons_append, Lib.index, h1, ih h.2, h2]
    simp
theorem split37 (p : List UInt8) : (37 : UInt8) ∉ p ∨ ∃ a b, p = a ++ 37 :: b ∧ (37 : UInt8) ∉ a := by
  induction p with
  | nil => exact .inl (by simp)
  | cons c t ih =>
    by_cases hc : c = 37
    · exact .inr ⟨[], t, by rw [hc]; rfl, by simp⟩
    · rcases ih with h | ⟨a, b, rfl, h⟩
      · exact .inl (by simp only [List.mem_cons, not_or]; exact ⟨fun e => hc e.symm, h⟩)
      · exact .inr ⟨c :: a, b, rfl, by simp only [List.mem_cons, not_or]; exact ⟨fun e => hc e.symm, h⟩⟩
theorem stem_none37 (p : List UInt8) (i : Nat) (h : (37 : UInt8) ∉ p) : stemFrom p i (-1) = -1 := by
  induction p generalizing i with
  | nil => rfl
  | cons c t ih =>
    simp only [List.mem_cons, not_or] at h
    unfold stemFrom
    split
    · rfl
    · rw [if_neg (fun e => h.1 e.symm), ih _ h.2]
theorem stem_at37 (a b : List UInt8) (i : Nat) (h : (37 : UInt8) ∉ a) : stemFrom (a ++ 37 :: b) i (-1) = if a.all plainB && b.all plainB then ((i + a.length : Nat) : Int) else -1 := by
  induction a generalizing i with
  | nil =>
    rw [List.nil_append, stemFrom, if_neg (by decide), if_pos rfl, if_neg (by decide), stem_found]
    simp
  | cons c t ih =>
    simp only [List.mem_cons, not_or] at h
    rw [List.cons_append, stemFrom]
    by_cases h1 : c = 42 ∨ c = 63
    · rw [if_pos h1]
      have : plainB c = false := by rcases h1 with rfl | rfl <;> rfl
      rw [List.all_cons, this]; rfl
    · rw [if_neg h1, if_neg (fun e => h.1 e.symm), ih _ h.2]
      have : plainB c = true := by simp only [not_or] at h1; simp [plainB, h1.1, h1.2, Ne.symm h.1]
      rw [List.all_cons, this, Bool.true_and, List.length_cons]
      have e : i + 1 + t.length = i + (t.length + 1) := by omega
      rw [e]
theorem okL_all {a : List UInt8} (h : patOk a = true) : okL a = a.all plainB := by
  rw [Bool.eq_iff_iff]
  constructor
  · intro h1
    rw [List.all_eq_true]
    intro c hc
    rw [okL, List.all_eq_true] at h1
    exact pb_plain (h1 c hc)
  · exact okL_plain h
theorem patOk_append (a b : List UInt8) : patOk (a ++ b) = (patOk a && patOk b) := by simp [patOk]

/-- What stands ahead of the sign and behind it. -/
def aheadT (p : List UInt8) : List UInt8 := p.take (stemAt p).toNat
def behindT (p : List UInt8) : List UInt8 := p.drop ((stemAt p).toNat + 1)
theorem around_yes {p : List UInt8} (hp : patL p = true) (h : 0 ≤ stemAt p) : Lib.cut p [37] = (aheadT p, behindT p, true) ∧ pathL (aheadT p ++ behindT p) = true := by
  have hp2 : patOk p = true ∧ p.length ≤ 20 := by simp only [patL, Bool.and_eq_true, decide_eq_true_iff] at hp; exact ⟨hp.1, hp.2.2⟩
  rcases split37 p with h1 | ⟨a, b, rfl, h1⟩
  · have := stem_none37 p 0 h1
    unfold stemAt at h
    omega
  · have h2 := stem_at37 a b 0 h1
    have h3 : stemAt (a ++ 37 :: b) = _ := h2
    by_cases h4 : (a.all plainB && b.all plainB) = true
    · rw [if_pos h4] at h3
      have h5 : (stemAt (a ++ 37 :: b)).toNat = a.length := by omega
      have e1 : aheadT (a ++ 37 :: b) = a := by rw [aheadT, h5]; simp
      have e2 : behindT (a ++ 37 :: b) = b := by rw [behindT, h5]; simp
      rw [e1, e2]
      rw [Bool.and_eq_true] at h4
      have h6 := hp2.1
      have e3 : a ++ 37 :: b = a ++ ([37] ++ b) := rfl
      rw [e3, patOk_append, patOk_append, Bool.and_eq_true, Bool.and_eq_true] at h6
      constructor
      · rw [Lib.cut, index_at37 a b h1, if_pos (by omega)]
        simp
      · have h7 := hp2.2
        simp only [List.length_append, List.length_cons] at h7
        rw [pathL, okL_append, okL_all h6.1, okL_all h6.2.2, h4.1, h4.2]
        simp; omega
    · rw [if_neg h4] at h3
      omega
theorem around_no {p : List UInt8} (hp : patL p = true) (h : ¬ 0 ≤ stemAt p) : (Lib.cut p [37]).2.2 = false ∨ ((Lib.cut p [37]).2.2 = true ∧ pathL ((Lib.cut p [37]).1 ++ (Lib.cut p [37]).2.1) = false) := by
  have hp2 : patOk p = true ∧ p.length ≤ 20 := by simp only [patL, Bool.and_eq_true, decide_eq_true_iff] at hp; exact ⟨hp.1, hp.2.2⟩
  rcases split37 p with h1 | ⟨a, b, rfl, h1⟩
  · left
    rw [Lib.cut, index_none37 p h1, if_neg (by decide)]
  · right
    have h2 := stem_at37 a b 0 h1
    have h3 : stemAt (a ++ 37 :: b) = _ := h2
    have e : Lib.cut (a ++ 37 :: b) [37] = (a, b, true) := by
      rw [Lib.cut, index_at37 a b h1, if_pos (by omega)]
      simp
    rw [e]
    refine ⟨rfl, ?_⟩
    by_cases h4 : (a.all plainB && b.all plainB) = true
    · rw [if_pos h4] at h3
      omega
    · have h6 := hp2.1
      have e3 : a ++ 37 :: b = a ++ ([37] ++ b) := rfl
      rw [e3, patOk_append, patOk_append, Bool.and_eq_true, Bool.and_eq_true] at h6
      show pathL (a ++ b) = false
      rw [pathL, okL_append, okL_all h6.1, okL_all h6.2.2, Bool.eq_false_iff.2 h4]
      rfl
theorem ahead_len {p : List UInt8} (h : 0 ≤ stemAt p) : ((aheadT p).length : Int) = stemAt p ∧ (aheadT p).length + (behindT p).length + 1 = p.length := by
  obtain ⟨h1, h2⟩ := stem_range p
  rw [aheadT, behindT, List.length_take, List.length_drop]
  omega

/-- A text and what it is copied to. -/
theorem clone_any (s : ByteArray) (w : World) (hs : s.size ≤ 2000000) : Calls Try.prog 63 #[.string s] w fun e w' => e = .returned (.string s) ∧ Below w.heap.size w w' := by
  go_enter Try.func63, Try.ntmps63
  go_wp2_with fail
  refine (Try.stringslite_Clone s w (by omega)).mono ?_
  rintro e w1 ⟨rfl, hb1⟩
  have HB1 := Lib.hid hb1
  clear hb1
  go_wp2_with fail
  go_ret
  exact ⟨rfl, HB1.out⟩

def aroundOk (p : List UInt8) : Bool := patL p && decide (0 ≤ stemAt p)
def AroundPost (p : List UInt8) (w : World) (e : Ending) (w' : World) : Prop :=
  e = .returned (.tuple #[.string ⟨(if aroundOk p = true then aheadT p else []).toArray⟩, .string ⟨(if aroundOk p = true then behindT p else []).toArray⟩, .bool (aroundOk p)]) ∧ Below w.heap.size w w'

theorem cat_bytes (a b : List UInt8) : (⟨a.toArray⟩ : ByteArray) ++ ⟨b.toArray⟩ = ⟨(a ++ b).toArray⟩ := by
  apply ByteArray.ext
  apply Array.ext'
  simp [ByteArray.data_append]

set_option maxHeartbeats 2000000 in
theorem around_any (p : ByteArray) (m : Int) (w : World) (hp : p.size ≤ maxLen) (hm : w.cell? ⟨0, 0, none⟩ = some (.int .i64 m)) :
    Calls Try.prog 70 #[.string p] w (AroundPost p.data.toList w) := by
  have C := Lib.hid (isPattern_any p w hp)
  have hm0 : 0 < w.heap.size := World.block_lt_of_cell? w ⟨0, 0, none⟩ hm
  have HM := Lib.hid hm
  clear hm
  unfold AroundPost
  rcases h1 : patL p.data.toList with _ | _
  · have HT : Hid (aroundOk p.data.toList = false) := by rw [aroundOk, h1]; rfl
    rw [HT.out]
    rw [h1] at C
    clear h1 HT
    go_enter Try.func70, Try.ntmps70
    go_wp2_with fail
    refine C.out.mono ?_
    rintro e w1 ⟨rfl, hb1⟩
    have HB1 := Lib.hid hb1
    clear hb1 C
    go_wp2_with fail
    go_ret3
    exact ⟨rfl, HB1.out⟩
  · have hl := (patL_len h1).2
    rw [h1] at C
    by_cases h2 : 0 ≤ stemAt p.data.toList
    · have HT : Hid (aroundOk p.data.toList = true) := by rw [aroundOk, h1, decide_eq_true h2]; rfl
      obtain ⟨hc, hpath⟩ := around_yes h1 h2
      rw [HT.out]
      have HC := Lib.hid hc
      have hal := (ahead_len h2).2
      rw [len_eq] at hal
      have HP := isPath_l (aheadT p.data.toList ++ behindT p.data.toList)
      rw [hpath] at HP
      have HPP := Lib.hid HP
      have hcat := cat_bytes (aheadT p.data.toList) (behindT p.data.toList)
      generalize aheadT p.data.toList = A at hc hpath HC HPP hcat hal
      generalize behindT p.data.toList = B at hc hpath HC HPP hcat hal
      clear h1 HT HP hc hpath
      go_enter Try.func70, Try.ntmps70
      go_wp2_with fail
      refine C.out.mono ?_
      rintro e w1 ⟨rfl, hb1⟩
      have HB1 := Lib.hid hb1
      clear hb1 C
      go_wp2_with fail
      have CC := Try.strings_Cut p ⟨#[37]⟩ m w1 (by omega) (by rw [HB1.out.cell (p := ⟨0, 0, none⟩) hm0]; exact HM.out)
      have e37 : (⟨#[37]⟩ : ByteArray).data.toList = [37] := rfl
      rw [e37, HC.out] at CC
      refine CC.mono ?_
      clear CC
      rintro e w2 ⟨rfl, n, rfl⟩
      have HB2 := Lib.hid (below_drewN HB1.out n)
      generalize w1.drewN n = w2 at HB2
      clear HB1
      go_wp2_with fail
      refine (HPP.out w2 (by unfold maxLen; rw [List.length_append]; omega)).mono ?_
      rintro e w3 ⟨rfl, hb3⟩
      have HB3 := Lib.hid (HB2.out.trans (hb3.mono HB2.out.size))
      clear hb3
      go_wp2_with fail
      go_ret3
      exact ⟨rfl, HB3.out⟩
    · have HT : Hid (aroundOk p.data.toList = false) := by rw [aroundOk, decide_eq_false h2]; simp [Hid]
      rw [HT.out]
      have hno := around_no h1 h2
      clear h1 HT h2
      have CC := fun w1 h => Try.strings_Cut p ⟨#[37]⟩ m w1 (by omega) h
      have e37 : (⟨#[37]⟩ : ByteArray).data.toList = [37] := rfl
      rw [e37] at CC
      have hcl : (Lib.cut p.data.toList [37]).1.length + (Lib.cut p.data.toList [37]).2.1.length ≤ 40 := by
        unfold Lib.cut
        split
        · simp only [List.length_take, List.length_drop, len_eq]; omega
        · simp only [len_eq, List.length_nil]; omega
      generalize Lib.cut p.data.toList [37] = cc at CC hno hcl
      obtain ⟨A, B, f⟩ := cc
      simp only at CC hno hcl
      have HCC := Lib.hid CC
      clear CC
      rcases hno with hf | ⟨hf, hpf⟩
      · subst hf
        go_enter Try.func70, Try.ntmps70
        go_wp2_with fail
        refine C.out.mono ?_
        rintro e w1 ⟨rfl, hb1⟩
        have HB1 := Lib.hid hb1
        clear hb1 C
        go_wp2_with fail
        refine (HCC.out w1 (by rw [HB1.out.cell (p := ⟨0, 0, none⟩) hm0]; exact HM.out)).mono ?_
        rintro e w2 ⟨rfl, n, rfl⟩
        have HB2 := Lib.hid (below_drewN HB1.out n)
        generalize w1.drewN n = w2 at HB2
        clear HB1
        go_wp2_with fail
        go_ret3
        exact ⟨rfl, HB2.out⟩
      · subst hf
        have HP := isPath_l (A ++ B)
        rw [hpf] at HP
        have HPP := Lib.hid HP
        have hcat := cat_bytes A B
        clear HP hpf
        go_enter Try.func70, Try.ntmps70
        go_wp2_with fail
        refine C.out.mono ?_
        rintro e w1 ⟨rfl, hb1⟩
        have HB1 := Lib.hid hb1
        clear hb1 C
        go_wp2_with fail
        refine (HCC.out w1 (by rw [HB1.out.cell (p := ⟨0, 0, none⟩) hm0]; exact HM.out)).mono ?_
        rintro e w2 ⟨rfl, n, rfl⟩
        have HB2 := Lib.hid (below_drewN HB1.out n)
        generalize w1.drewN n = w2 at HB2
        clear HB1
        go_wp2_with fail
        refine (HPP.out w2 (by unfold maxLen; rw [List.length_append]; omega)).mono ?_
        rintro e w3 ⟨rfl, hb3⟩
        have HB3 := Lib.hid (HB2.out.trans (hb3.mono HB2.out.size))
        clear hb3
        go_wp2_with fail
        go_ret3
        exact ⟨rfl, HB3.out⟩

end Go.Proofs.Ytcplooeohdhlkaa
