/- The program's stems, filled patterns, and lists that fit. -/
import Derived.Test.YtcplooeohdhlkaaTh
namespace Go.Proofs.Ytcplooeohdhlkaa
open Go.RowKit Pth

theorem stemOk_around (p s : List UInt8) : stemOk p s = (pathL s && (aroundOk p && fitsL p s)) := by
  unfold stemOk aroundOk
  cases patL p <;> cases pathL s <;> simp
theorem isPath_at {b : Bool} {s : ByteArray} (hs : s.size ≤ maxLen) (h : pathL s.data.toList = b) : ∀ w, Calls Try.prog 49 #[.string s] w (BoolPost b w) := fun w => by
  have := isPath_any s w hs
  rwa [h] at this

set_option maxHeartbeats 2000000 in
theorem implStem_any (p s : ByteArray) (m : Int) (w : World) (hp : p.size ≤ maxLen) (hs : s.size ≤ maxLen) (hm : w.cell? ⟨0, 0, none⟩ = some (.int .i64 m)) :
    Calls Try.prog 30 #[.string p, .string s] w (TextOk (stemT p.data.toList s.data.toList) (stemOk p.data.toList s.data.toList) w) := by
  have hm0 : 0 < w.heap.size := World.block_lt_of_cell? w ⟨0, 0, none⟩ hm
  have HM := Lib.hid hm
  clear hm
  rcases h2 : pathL s.data.toList with _ | _
  · have HT : Hid (stemOk p.data.toList s.data.toList = false) := by rw [stemOk_around, h2]; rfl
    have HT2 : Hid (stemT p.data.toList s.data.toList = []) := by rw [stemT, HT.out]; rfl
    rw [HT.out, HT2.out]
    have D := Lib.hid (isPath_at hs h2)
    clear h2 HT HT2
    go_enter Try.func30, Try.ntmps30
    go_wp2_with fail
    refine (D.out w).mono ?_
    rintro e w1 ⟨rfl, hb1⟩
    have HB1 := Lib.hid hb1
    clear hb1
    go_wp2_with fail
    go_ret2
    exact ⟨rfl, HB1.out⟩
  · have D := Lib.hid (isPath_at hs h2)
    have hl2 := pathL_len h2
    have A := Lib.hid (fun W h => around_any p m W hp h)
    rcases h3 : aroundOk p.data.toList with _ | _
    · have HT : Hid (stemOk p.data.toList s.data.toList = false) := by rw [stemOk_around, h3]; simp [Hid]
      have HT2 : Hid (stemT p.data.toList s.data.toList = []) := by rw [stemT, HT.out]; rfl
      rw [HT.out, HT2.out]
      unfold AroundPost at A
      rw [h3] at A
      clear h2 h3 HT HT2
      go_enter Try.func30, Try.ntmps30
      go_wp2_with fail
      refine (D.out w).mono ?_
      rintro e w1 ⟨rfl, hb1⟩
      have HB1 := Lib.hid hb1
      clear hb1
      go_wp2_with fail
      refine (A.out w1 (by rw [HB1.out.cell (p := ⟨0, 0, none⟩) hm0]; exact HM.out)).mono ?_
      rintro e w2 ⟨rfl, hb2⟩
      have HB2 := Lib.hid (HB1.out.trans (hb2.mono HB1.out.size))
      clear hb2
      go_wp2_with fail
      go_ret2
      exact ⟨rfl, HB2.out⟩
    · have h4 : patL p.data.toList = true ∧ 0 ≤ stemAt p.data.toList := by simpa [aroundOk] using h3
      have hl := (patL_len h4.1).2
      obtain ⟨ha1, ha2⟩ := ahead_len h4.2
      rw [len_eq] at ha2
      unfold AroundPost at A
      rw [h3, if_pos rfl, if_pos rfl] at A
      have F := fun W => fitsWhole_any p s W hl (by omega)
      rcases h5 : fitsL p.data.toList s.data.toList with _ | _
      · have HT : Hid (stemOk p.data.toList s.data.toList = false) := by rw [stemOk_around, h5]; simp [Hid]
        have HT2 : Hid (stemT p.data.toList s.data.toList = []) := by rw [stemT, HT.out]; rfl
        rw [HT.out, HT2.out]
        rw [h5] at F
        have HF := Lib.hid F
        generalize aheadT p.data.toList = X at A ha1 ha2
        generalize behindT p.data.toList = Y at A ha2
        clear h2 h3 h4 h5 HT HT2 F ha1
        go_enter Try.func30, Try.ntmps30
        go_wp2_with fail
        refine (D.out w).mono ?_
        rintro e w1 ⟨rfl, hb1⟩
        have HB1 := Lib.hid hb1
        clear hb1
        go_wp2_with fail
        refine (A.out w1 (by rw [HB1.out.cell (p := ⟨0, 0, none⟩) hm0]; exact HM.out)).mono ?_
        rintro e w2 ⟨rfl, hb2⟩
        have HB2 := Lib.hid (HB1.out.trans (hb2.mono HB1.out.size))
        clear hb2
        go_wp2_with fail
        refine (HF.out w2).mono ?_
        rintro e w3 ⟨rfl, hb3⟩
        have HB3 := Lib.hid (HB2.out.trans (hb3.mono HB2.out.size))
        clear hb3
        go_wp2_with fail
        go_ret2
        exact ⟨rfl, HB3.out⟩
      · have HT : Hid (stemOk p.data.toList s.data.toList = true) := by rw [stemOk_around, h5, h2, h3]; rfl
        have hroom := stem_room h4.2 h5
        rw [len_eq, len_eq] at hroom
        have HT2 : Hid (stemT p.data.toList s.data.toList = mid s.data.toList (aheadT p.data.toList).length (s.size - (behindT p.data.toList).length)) := by
          rw [stemT, HT.out, len_eq, len_eq, if_pos rfl]
          congr 1
          · omega
          · omega
        rw [HT.out, HT2.out]
        rw [h5] at F
        have HF := Lib.hid F
        generalize aheadT p.data.toList = X at A ha1 ha2
        generalize behindT p.data.toList = Y at A ha2
        clear h2 h3 h4 h5 HT HT2 F ha1
        go_enter Try.func30, Try.ntmps30
        go_wp2_with fail
        refine (D.out w).mono ?_
        rintro e w1 ⟨rfl, hb1⟩
        have HB1 := Lib.hid hb1
        clear hb1
        go_wp2_with fail
        refine (A.out w1 (by rw [HB1.out.cell (p := ⟨0, 0, none⟩) hm0]; exact HM.out)).mono ?_
        rintro e w2 ⟨rfl, hb2⟩
        have HB2 := Lib.hid (HB1.out.trans (hb2.mono HB1.out.size))
        clear hb2
        go_wp2_with fail
        refine (HF.out w2).mono ?_
        rintro e w3 ⟨rfl, hb3⟩
        have HB3 := Lib.hid (HB2.out.trans (hb3.mono HB2.out.size))
        clear hb3
        go_wp2_with fail
        refine (clone_any _ w3 ?_).mono ?_
        · rw [ByteArray.size_extract]; omega
        rintro e w4 ⟨rfl, hb4⟩
        have HB4 := Lib.hid (HB3.out.trans (hb4.mono HB3.out.size))
        clear hb4
        go_wp2_with fail
        go_ret2
        exact ⟨by rw [← extract_mid] <;> rfl, HB4.out⟩

theorem short_any (t : List UInt8) (w : World) (ht : t.length ≤ 2000000) :
    Calls Try.prog 72 #[.string ⟨t.toArray⟩] w fun e w' => e = .returned (.tuple #[.string ⟨(if t.length ≤ 60 then t else []).toArray⟩, .bool (decide (t.length ≤ 60))]) ∧ w = w' := by
  by_cases h : t.length ≤ 60
  · rw [if_pos h, decide_eq_true h]
    have h1 : decide ((60 : Int) < (t.length : Int)) = false := by simp; omega
    go_enter Try.func72, Try.ntmps72
    go_wp2_with fail
    go_ret2
    exact ⟨rfl, rfl⟩
  · rw [if_neg h, decide_eq_false h]
    have h1 : decide ((60 : Int) < (t.length : Int)) = true := by simp; omega
    go_enter Try.func72, Try.ntmps72
    go_wp2_with fail
    go_ret2
    exact ⟨rfl, rfl⟩

theorem fillOk_around (p t : List UInt8) : fillOk p t = (!t.isEmpty && (pathL t && (aroundOk p && decide ((fillL p t).length ≤ 60)))) := by
  unfold fillOk aroundOk
  cases patL p <;> cases pathL t <;> cases t.isEmpty <;> simp
theorem isPath_atl {b : Bool} {t : List UInt8} (ht : t.length ≤ maxLen) (h : pathL t = b) : ∀ w, Calls Try.prog 49 #[.string ⟨t.toArray⟩] w (BoolPost b w) := fun w => by
  have := isPath_l t w ht
  rwa [h] at this
theorem join_two (a b t : List UInt8) : Lib.join [a, b] t = a ++ t ++ b := by simp [Lib.join, List.intercalate]

/-- Two texts with a third between, out of a list that was made last. -/
theorem join_any (a b t : List UInt8) (w : World) (ha : a.length ≤ 1000) (hb : b.length ≤ 1000) (ht : t.length ≤ 1000) :
    Calls Try.prog 73 #[.slice (some ⟨w.heap.size, 0, none⟩) 2 2, .string ⟨t.toArray⟩] (w.alloc (.cells #[.string ⟨a.toArray⟩, .string ⟨b.toArray⟩] 9)) fun e w' => e = .returned (.string ⟨(a ++ t ++ b).toArray⟩) ∧ Below w.heap.size w w' := by
  have ej : Lib.join (([⟨a.toArray⟩, ⟨b.toArray⟩] : List ByteArray).map (·.data.toList)) (⟨t.toArray⟩ : ByteArray).data.toList = a ++ t ++ b := join_two a b t
  have C := Try.strings_Join w.heap.size 0 2 [⟨a.toArray⟩, ⟨b.toArray⟩] ⟨t.toArray⟩ (w.alloc (.cells #[.string ⟨a.toArray⟩, .string ⟨b.toArray⟩] 9))
    (fun j x hj => by
      match j, hj with
      | 0, hj => simp at hj; subst hj; simp
      | 1, hj => simp at hj; subst hj; simp)
    (by simp) (by show 2 ≤ _; omega) (by show 2 ≤ 2; omega) (by rw [ej]; simp only [List.length_append]; omega)
  rw [ej] at C
  refine C.mono ?_
  rintro e w1 ⟨rfl, hb1⟩
  exact ⟨rfl, ((Below.refl _ w).alloc (Nat.le_refl _) _).trans (hb1.mono (by simp))⟩

set_option maxRecDepth 20000 in
set_option maxHeartbeats 2000000 in
theorem implFill_l (p : ByteArray) (t : List UInt8) (m : Int) (w : World) (hp : p.size ≤ maxLen) (ht : t.length ≤ maxLen) (hm : w.cell? ⟨0, 0, none⟩ = some (.int .i64 m)) :
    Calls Try.prog 32 #[.string p, .string ⟨t.toArray⟩] w (TextOk (fillT p.data.toList t) (fillOk p.data.toList t) w) := by
  have hm0 : 0 < w.heap.size := World.block_lt_of_cell? w ⟨0, 0, none⟩ hm
  have HM := Lib.hid hm
  clear hm
  rcases h1 : t.isEmpty with _ | _
  · rcases h2 : pathL t with _ | _
    · have HT : Hid (fillOk p.data.toList t = false) := by rw [fillOk_around, h2]; simp [Hid]
      have HT2 : Hid (fillT p.data.toList t = []) := by rw [fillT, HT.out]; rfl
      rw [HT.out, HT2.out]
      have D := Lib.hid (isPath_atl ht h2)
      clear h2 HT HT2
      go_enter Try.func32, Try.ntmps32
      go_wp2_with fail
      refine (D.out w).mono ?_
      rintro e w1 ⟨rfl, hb1⟩
      have HB1 := Lib.hid hb1
      clear hb1
      go_wp2_with fail
      go_ret2
      exact ⟨rfl, HB1.out⟩
    · have D := Lib.hid (isPath_atl ht h2)
      have hl2 := path_len h2
      have A := Lib.hid (fun W h => around_any p m W hp h)
      rcases h3 : aroundOk p.data.toList with _ | _
      · have HT : Hid (fillOk p.data.toList t = false) := by rw [fillOk_around, h3]; simp [Hid]
        have HT2 : Hid (fillT p.data.toList t = []) := by rw [fillT, HT.out]; rfl
        rw [HT.out, HT2.out]
        unfold AroundPost at A
        rw [h3] at A
        clear h2 h3 HT HT2
        go_enter Try.func32, Try.ntmps32
        go_wp2_with fail
        refine (D.out w).mono ?_
        rintro e w1 ⟨rfl, hb1⟩
        have HB1 := Lib.hid hb1
        clear hb1
        go_wp2_with fail
        refine (A.out w1 (by rw [HB1.out.cell (p := ⟨0, 0, none⟩) hm0]; exact HM.out)).mono ?_
        rintro e w2 ⟨rfl, hb2⟩
        have HB2 := Lib.hid (HB1.out.trans (hb2.mono HB1.out.size))
        clear hb2
        go_wp2_with fail
        go_ret2
        exact ⟨rfl, HB2.out⟩
      · have h4 : patL p.data.toList = true ∧ 0 ≤ stemAt p.data.toList := by simpa [aroundOk] using h3
        have hl := (patL_len h4.1).2
        obtain ⟨ha1, ha2⟩ := ahead_len h4.2
        rw [len_eq] at ha2
        unfold AroundPost at A
        rw [h3, if_pos rfl, if_pos rfl] at A
        have hF : fillL p.data.toList t = aheadT p.data.toList ++ t ++ behindT p.data.toList := rfl
        have HT : Hid (fillOk p.data.toList t = decide ((fillL p.data.toList t).length ≤ 60)) := by rw [fillOk_around, h1, h2, h3]; rfl
        have HT2 : Hid (fillT p.data.toList t = if (fillL p.data.toList t).length ≤ 60 then fillL p.data.toList t else []) := by
          rw [fillT, HT.out]
          by_cases h6 : (fillL p.data.toList t).length ≤ 60
          · rw [decide_eq_true h6, if_pos rfl, if_pos h6]; rfl
          · rw [decide_eq_false h6, if_neg (by simp), if_neg h6]; rfl
        rw [HT.out, HT2.out, hF]
        generalize aheadT p.data.toList = X at A ha1 ha2
        generalize behindT p.data.toList = Y at A ha2
        clear h2 h3 h4 HT HT2 hF ha1
        have hZl : (X ++ t ++ Y).length ≤ 1000 := by simp only [List.length_append]; omega
        generalize hZ : X ++ t ++ Y = Z at hZl
        generalize hR : (if Z.length ≤ 60 then Z else []) = R
        generalize hO : decide (Z.length ≤ 60) = ok
        have HZ := Lib.hid hZ
        clear hZ
        have HR := Lib.hid hR
        have HO := Lib.hid hO
        clear hR hO
        go_enter Try.func32, Try.ntmps32
        go_wp2_with fail
        refine (D.out w).mono ?_
        rintro e w1 ⟨rfl, hb1⟩
        have HB1 := Lib.hid hb1
        clear hb1
        go_wp2_with fail
        refine (A.out w1 (by rw [HB1.out.cell (p := ⟨0, 0, none⟩) hm0]; exact HM.out)).mono ?_
        rintro e w2 ⟨rfl, hb2⟩
        have HB2 := Lib.hid (HB1.out.trans (hb2.mono HB1.out.size))
        clear hb2
        go_wp2_with fail
        refine (join_any X Y t w2 (by omega) (by omega) (by omega)).mono ?_
        rw [HZ.out]
        rintro e w3 ⟨rfl, hb3⟩
        have HB3 := Lib.hid (HB2.out.trans (hb3.mono HB2.out.size))
        clear hb3
        go_wp2_with fail
        refine (short_any Z w3 (by omega)).mono ?_
        rw [HR.out, HO.out]
        rintro e w4 ⟨rfl, rfl⟩
        go_wp2_with fail
        go_ret2
        exact ⟨rfl, HB3.out⟩
  · have HT : Hid (fillOk p.data.toList t = false) := by rw [fillOk_around, h1]; rfl
    have HT2 : Hid (fillT p.data.toList t = []) := by rw [fillT, HT.out]; rfl
    rw [HT.out, HT2.out]
    obtain rfl : t = [] := by simpa using h1
    clear HT HT2 h1
    go_enter Try.func32, Try.ntmps32
    go_wp2_with fail
    go_ret2
    exact ⟨rfl, Below.refl _ _⟩

end Go.Proofs.Ytcplooeohdhlkaa
