/- Mathematics: a stem taken out fills the pattern back, and the other way. -/
import Derived.Test.YtcplooeohdhlkaaSd
namespace Go.Proofs.Ytcplooeohdhlkaa
open Go.RowKit Pth

theorem mid_stem (a t b : List UInt8) : mid (a ++ t ++ b) a.length ((a ++ t ++ b).length - ((a ++ 37 :: b).length - a.length - 1)) = t := by
  have e : (a ++ t ++ b).length - ((a ++ 37 :: b).length - a.length - 1) = (a ++ t).length := by
    simp only [List.length_append, List.length_cons]; omega
  rw [e, mid, List.take_left' rfl, List.drop_left' rfl]
theorem fill_parts (a t b : List UInt8) (h : stemAt (a ++ 37 :: b) = (a.length : Int)) : fillL (a ++ 37 :: b) t = a ++ t ++ b := by
  have e : (a ++ 37 :: b).drop (a.length + 1) = b := by
    rw [List.drop_append]; simp
  rw [fillL, h, Int.toNat_natCast, e, List.take_left' rfl]
theorem okL_append (a b : List UInt8) : okL (a ++ b) = (okL a && okL b) := by simp [okL]
theorem okL_plain {a : List UInt8} (h : patOk a = true) (hp : a.all plainB = true) : okL a = true := by
  rw [okL, List.all_eq_true]
  intro c hc
  rw [patOk, List.all_eq_true] at h
  rw [List.all_eq_true] at hp
  exact plain_pb (h c hc) (hp c hc)

/-- What is taken out fills the pattern back. -/
theorem stem_fill {p s : List UInt8} (h : stemOk p s = true) : fillOk p (stemT p s) = true ∧ fillT p (stemT p s) = s ∧ ¬ stemT p s = [] := by
  have h0 := h
  simp only [stemOk, Bool.and_eq_true, decide_eq_true_iff] at h
  obtain ⟨h1, h2, h3, h4⟩ := h
  rcases stem_cases p with hs | ⟨a, b, rfl, hs, ha, hb⟩
  · omega
  · obtain ⟨t, ht, rfl⟩ := (stem_fit ha hb s).1 h4
    have e1 : stemT (a ++ 37 :: b) (a ++ t ++ b) = t := by rw [stemT, if_pos h0, hs, Int.toNat_natCast, mid_stem]
    have h2' := h2
    simp only [pathL, Bool.and_eq_true, decide_eq_true_iff, okL_append] at h2
    have hl := h2.2
    simp only [List.length_append] at hl
    have e2 : fillOk (a ++ 37 :: b) t = true := by
      have h5 : pathL t = true := by simp only [pathL, Bool.and_eq_true, decide_eq_true_iff]; exact ⟨h2.1.1.2, by omega⟩
      have h6 : t.isEmpty = false := by simpa using ht
      rw [fillOk, h1, h5, h6, decide_eq_true h3, fill_parts a t b hs, decide_eq_true h2.2]
      rfl
    rw [e1]
    exact ⟨e2, by rw [fillT, if_pos e2, fill_parts a t b hs], ht⟩

/-- What a pattern is filled with is taken out of it again. -/
theorem fill_stem {q t : List UInt8} (h : fillOk q t = true) : stemOk q (fillT q t) = true ∧ stemT q (fillT q t) = t := by
  have h0 := h
  simp only [fillOk, Bool.and_eq_true, decide_eq_true_iff, Bool.not_eq_true'] at h
  obtain ⟨h1, h2, h3, h4, h5⟩ := h
  rcases stem_cases q with hs | ⟨a, b, rfl, hs, ha, hb⟩
  · omega
  · rw [fill_parts a t b hs] at h5
    have ht : ¬ t = [] := by rintro rfl; simp at h3
    have hp : patOk (a ++ 37 :: b) = true := by simp only [patL, Bool.and_eq_true] at h1; exact h1.1
    have hpa : patOk a = true ∧ patOk b = true := by
      simp only [patOk, List.all_append, List.all_cons, Bool.and_eq_true] at hp ⊢
      exact ⟨hp.1, hp.2.2⟩
    have e1 : fillT (a ++ 37 :: b) t = a ++ t ++ b := by rw [fillT, if_pos h0, fill_parts a t b hs]
    have e2 : stemOk (a ++ 37 :: b) (a ++ t ++ b) = true := by
      have h6 : pathL (a ++ t ++ b) = true := by
        have h7 : okL t = true := by simp only [pathL, Bool.and_eq_true] at h2; exact h2.1
        simp only [pathL, Bool.and_eq_true, decide_eq_true_iff, okL_append]
        exact ⟨⟨⟨okL_plain hpa.1 ha, h7⟩, okL_plain hpa.2 hb⟩, h5⟩
      rw [stemOk, h1, h6, decide_eq_true h4, (stem_fit ha hb _).2 ⟨t, ht, rfl⟩]
      rfl
    rw [e1]
    exact ⟨e2, by rw [stemT, if_pos e2, hs, Int.toNat_natCast, mid_stem]⟩

end Go.Proofs.Ytcplooeohdhlkaa
