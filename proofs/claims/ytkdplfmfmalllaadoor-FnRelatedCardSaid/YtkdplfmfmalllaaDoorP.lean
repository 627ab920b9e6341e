/- Walks: the reference's joined paths; the laws that both programs answer alike on places and joins. -/
import Derived.Test.YtkdplfmfmalllaaDoorO
namespace Go.Proofs.YtkdplfmfmalllaaDoor
open Go.RowKit Pth

theorem slash0 (b : List UInt8) : slashL [] b = b := rfl
theorem slash1 {a : List UInt8} (h : ¬ a = []) : slashL a [] = a := by simp [slashL, h]
theorem slash2 {a b : List UInt8} (h : ¬ a = []) (h2 : ¬ b = []) : (⟨a.toArray⟩ ++ ⟨#[47]⟩ ++ ⟨b.toArray⟩ : ByteArray) = ⟨(slashL a b).toArray⟩ := by
  have := cat2 a b
  injection this with this
  rw [this]; simp [slashL, h, h2]

set_option maxHeartbeats 2000000 in
theorem specJoin_l (a b : List UInt8) (w : World) (ha : a.length ≤ 1048576) (hb : b.length ≤ 1048576) :
    Calls Tryd.prog 28 #[.string ⟨a.toArray⟩, .string ⟨b.toArray⟩] w (TwoPost (joinT a b) (joinB a b) w) := by
  have hma : a.length ≤ maxLen := by unfold maxLen; omega
  have hmb : b.length ≤ maxLen := by unfold maxLen; omega
  rcases hpa : pathL a with _ | _
  · have hj : joinB a b = false := by simp [joinB, hpa]
    rw [join_no hj, hj]
    have HA := Lib.hid hpa
    clear hpa hj
    by_cases h0 : a = []
    · subst h0
      go_enter Tryd.func28, Tryd.ntmps28
      go_wp2_with fail
      refine (l1Path_l [] _ hma HA).mono ?_
      rintro e w' ⟨rfl, rfl⟩
      go_wp2_with fail
      go_ret2
      exact ⟨rfl, Below.refl _ _⟩
    · have h1 : a.isEmpty = false := by simpa using h0
      by_cases h2 : b = []
      · subst h2
        go_enter Tryd.func28, Tryd.ntmps28
        go_wp2_with fail
        refine (l1Path_l a _ hma HA).mono ?_
        rintro e w' ⟨rfl, rfl⟩
        go_wp2_with fail
        go_ret2
        exact ⟨rfl, Below.refl _ _⟩
      · have h3 : b.isEmpty = false := by simpa using h2
        go_enter Tryd.func28, Tryd.ntmps28
        go_wp2_with fail
        refine (l1Path_l a _ hma HA).mono ?_
        rintro e w' ⟨rfl, rfl⟩
        go_wp2_with fail
        go_ret2
        exact ⟨rfl, Below.refl _ _⟩
  · rcases hpb : pathL b with _ | _
    · have hj : joinB a b = false := by simp [joinB, hpb]
      rw [join_no hj, hj]
      have HA := Lib.hid hpa
      have HB := Lib.hid hpb
      clear hpa hpb hj
      by_cases h0 : a = []
      · subst h0
        go_enter Tryd.func28, Tryd.ntmps28
        go_wp2_with fail
        refine (l1Path_l [] _ hma HA).mono ?_
        rintro e w' ⟨rfl, rfl⟩
        go_wp2_with fail
        refine (l1Path_l b _ hmb HB).mono ?_
        rintro e w' ⟨rfl, rfl⟩
        go_wp2_with fail
        go_ret2
        exact ⟨rfl, Below.refl _ _⟩
      · have h1 : a.isEmpty = false := by simpa using h0
        by_cases h2 : b = []
        · subst h2
          go_enter Tryd.func28, Tryd.ntmps28
          go_wp2_with fail
          refine (l1Path_l a _ hma HA).mono ?_
          rintro e w' ⟨rfl, rfl⟩
          go_wp2_with fail
          refine (l1Path_l [] _ hmb HB).mono ?_
          rintro e w' ⟨rfl, rfl⟩
          go_wp2_with fail
          go_ret2
          exact ⟨rfl, Below.refl _ _⟩
        · have h3 : b.isEmpty = false := by simpa using h2
          go_enter Tryd.func28, Tryd.ntmps28
          go_wp2_with fail
          refine (l1Path_l a _ hma HA).mono ?_
          rintro e w' ⟨rfl, rfl⟩
          go_wp2_with fail
          refine (l1Path_l b _ hmb HB).mono ?_
          rintro e w' ⟨rfl, rfl⟩
          go_wp2_with fail
          go_ret2
          exact ⟨rfl, Below.refl _ _⟩
    · have hla := path_len hpa
      have hlb := path_len hpb
      have hsl := slash_len a b
      have hcl := clean_len (slashL a b)
      have HA := Lib.hid hpa
      have HB := Lib.hid hpb
      have fin : ∀ w1 : World, Below w.heap.size w w1 → True := fun _ _ => trivial
      obtain ⟨t, bo, HT, HBo⟩ : ∃ t bo, Hid (joinT a b = t) ∧ Hid (joinB a b = bo) := ⟨_, _, rfl, rfl⟩
      have hfin : Hid (if (cleanL (slashL a b)).length ≤ 60 then t = cleanL (slashL a b) ∧ bo = true else t = [] ∧ bo = false) := by
        show (if (cleanL (slashL a b)).length ≤ 60 then t = cleanL (slashL a b) ∧ bo = true else t = [] ∧ bo = false)
        by_cases hc : (cleanL (slashL a b)).length ≤ 60
        · rw [if_pos hc]
          have hj : joinB a b = true := by simp [joinB, hpa, hpb, hc]
          exact ⟨HT.out.symm.trans (join_yes hj), HBo.out.symm.trans hj⟩
        · rw [if_neg hc]
          have hj : joinB a b = false := by simp [joinB, hc]
          exact ⟨HT.out.symm.trans (join_no hj), HBo.out.symm.trans hj⟩
      rw [HT.out, HBo.out]
      clear hpa hpb HT HBo fin
      by_cases h0 : a = []
      · subst h0
        rw [slash0] at hfin hsl hcl
        go_enter Tryd.func28, Tryd.ntmps28
        go_wp2_with fail
        refine (l1Path_l [] _ hma HA).mono ?_
        rintro e w' ⟨rfl, rfl⟩
        go_wp2_with fail
        refine (l1Path_l b _ hmb HB).mono ?_
        rintro e w' ⟨rfl, rfl⟩
        go_wp2_with fail
        refine (l1Clean_l b _ (by omega)).mono ?_
        rintro e w1 ⟨rfl, hb1⟩
        generalize cleanL b = c at hfin hcl
        by_cases hc : c.length ≤ 60
        · obtain ⟨rfl, rfl⟩ := (if_pos hc).mp hfin.out
          go_wp2_with fail
          go_ret2
          exact ⟨rfl, hb1⟩
        · obtain ⟨rfl, rfl⟩ := (if_neg hc).mp hfin.out
          go_wp2_with fail
          go_ret2
          exact ⟨rfl, hb1⟩
      · have h1 : a.isEmpty = false := by simpa using h0
        by_cases h2 : b = []
        · subst h2
          rw [slash1 h0] at hfin hsl hcl
          go_enter Tryd.func28, Tryd.ntmps28
          go_wp2_with fail
          refine (l1Path_l a _ hma HA).mono ?_
          rintro e w' ⟨rfl, rfl⟩
          go_wp2_with fail
          refine (l1Path_l [] _ hmb HB).mono ?_
          rintro e w' ⟨rfl, rfl⟩
          go_wp2_with fail
          refine (l1Clean_l a _ (by omega)).mono ?_
          rintro e w1 ⟨rfl, hb1⟩
          generalize cleanL a = c at hfin hcl
          by_cases hc : c.length ≤ 60
          · obtain ⟨rfl, rfl⟩ := (if_pos hc).mp hfin.out
            go_wp2_with fail
            go_ret2
            exact ⟨rfl, hb1⟩
          · obtain ⟨rfl, rfl⟩ := (if_neg hc).mp hfin.out
            go_wp2_with fail
            go_ret2
            exact ⟨rfl, hb1⟩
        · have h3 : b.isEmpty = false := by simpa using h2
          have HC := Lib.hid (slash2 h0 h2)
          go_enter Tryd.func28, Tryd.ntmps28
          go_wp2_with fail
          refine (l1Path_l a _ hma HA).mono ?_
          rintro e w' ⟨rfl, rfl⟩
          go_wp2_with fail
          refine (l1Path_l b _ hmb HB).mono ?_
          rintro e w' ⟨rfl, rfl⟩
          go_wp2_with fail
          rw [HC.out]
          refine (l1Clean_l (slashL a b) _ (by omega)).mono ?_
          rintro e w1 ⟨rfl, hb1⟩
          generalize cleanL (slashL a b) = c at hfin hcl
          by_cases hc : c.length ≤ 60
          · obtain ⟨rfl, rfl⟩ := (if_pos hc).mp hfin.out
            go_wp2_with fail
            go_ret2
            exact ⟨rfl, hb1⟩
          · obtain ⟨rfl, rfl⟩ := (if_neg hc).mp hfin.out
            go_wp2_with fail
            go_ret2
            exact ⟨rfl, hb1⟩

set_option maxHeartbeats 1000000 in
theorem exactDir_l (l : List UInt8) (m : Int) (w : World) (hs : l.length ≤ maxLen) (hm : w.cell? ⟨0, 0, none⟩ = some (.int .i64 m)) :
    Calls Tryd.prog 8 #[.string ⟨l.toArray⟩] w (YesPost w) := by
  by_cases hbig : 1048576 < l.length
  · unfold maxLen at hs
    go_enter Tryd.func8, Tryd.ntmps8
    go_wp2_with fail
    go_ret
    exact ⟨rfl, Below.refl _ _⟩
  · have c1 := specDir_l l w hs
    have c2 := fun w' hb => implDir_l l m w' hs (keep_max (w' := w') hm hb)
    generalize dirT l = t at c1 c2
    generalize pathL l = b at c1 c2
    have C1 := Lib.hid c1
    have C2 := Lib.hid c2
    clear c1 c2
    unfold maxLen at hs
    go_enter Tryd.func8, Tryd.ntmps8
    go_wp2_with fail
    refine C1.out.mono ?_
    rintro e w1 ⟨rfl, hb1⟩
    go_wp2_with fail
    refine (C2.out w1 hb1).mono ?_
    rintro e w2 ⟨rfl, hb2⟩
    go_wp2_with fail
    go_ret
    exact ⟨rfl, bthen hb1 hb2⟩
theorem exactDir_any (s : ByteArray) (m : Int) (w : World) (hs : s.size ≤ maxLen) (hm : w.cell? ⟨0, 0, none⟩ = some (.int .i64 m)) :
    Calls Tryd.prog 8 #[.string s] w (YesPost w) := exactDir_l s.data.toList m w (by rw [len_eq]; exact hs) hm

set_option maxHeartbeats 1000000 in
theorem exactBase_l (l : List UInt8) (m : Int) (w : World) (hs : l.length ≤ maxLen) (hm : w.cell? ⟨0, 0, none⟩ = some (.int .i64 m)) :
    Calls Tryd.prog 9 #[.string ⟨l.toArray⟩] w (YesPost w) := by
  by_cases hbig : 1048576 < l.length
  · unfold maxLen at hs
    go_enter Tryd.func9, Tryd.ntmps9
    go_wp2_with fail
    go_ret
    exact ⟨rfl, Below.refl _ _⟩
  · have c1 := specBase_l l w hs
    have c2 := fun w' hb => implBase_l l m w' hs (keep_max (w' := w') hm hb)
    generalize baseT l = t at c1 c2
    generalize pathL l = b at c1 c2
    have C1 := Lib.hid c1
    have C2 := Lib.hid c2
    clear c1 c2
    unfold maxLen at hs
    go_enter Tryd.func9, Tryd.ntmps9
    go_wp2_with fail
    refine C1.out.mono ?_
    rintro e w1 ⟨rfl, hb1⟩
    go_wp2_with fail
    refine (C2.out w1 hb1).mono ?_
    rintro e w2 ⟨rfl, hb2⟩
    go_wp2_with fail
    go_ret
    exact ⟨rfl, bthen hb1 hb2⟩
theorem exactBase_any (s : ByteArray) (m : Int) (w : World) (hs : s.size ≤ maxLen) (hm : w.cell? ⟨0, 0, none⟩ = some (.int .i64 m)) :
    Calls Tryd.prog 9 #[.string s] w (YesPost w) := exactBase_l s.data.toList m w (by rw [len_eq]; exact hs) hm

set_option maxHeartbeats 1000000 in
theorem exactJoin_l (a b : List UInt8) (m : Int) (w : World) (ha : a.length ≤ maxLen) (hb : b.length ≤ maxLen) (hm : w.cell? ⟨0, 0, none⟩ = some (.int .i64 m)) :
    Calls Tryd.prog 7 #[.string ⟨a.toArray⟩, .string ⟨b.toArray⟩] w (YesPost w) := by
  by_cases hbig : 1048576 < a.length
  · unfold maxLen at ha hb
    go_enter Tryd.func7, Tryd.ntmps7
    go_wp2_with fail
    go_ret
    exact ⟨rfl, Below.refl _ _⟩
  · by_cases hbig2 : 1048576 < b.length
    · unfold maxLen at ha hb
      go_enter Tryd.func7, Tryd.ntmps7
      go_wp2_with fail
      go_ret
      exact ⟨rfl, Below.refl _ _⟩
    · have c1 := specJoin_l a b w (by omega) (by omega)
      have c2 := fun w' hw => implJoin_l a b m w' ha hb (keep_max (w' := w') hm hw)
      generalize joinT a b = t at c1 c2
      generalize joinB a b = k at c1 c2
      have C1 := Lib.hid c1
      have C2 := Lib.hid c2
      clear c1 c2
      unfold maxLen at ha hb
      go_enter Tryd.func7, Tryd.ntmps7
      go_wp2_with fail
      refine C1.out.mono ?_
      rintro e w1 ⟨rfl, hb1⟩
      go_wp2_with fail
      refine (C2.out w1 hb1).mono ?_
      rintro e w2 ⟨rfl, hb2⟩
      go_wp2_with fail
      go_ret
      exact ⟨rfl, bthen hb1 hb2⟩
theorem exactJoin_any (s t : ByteArray) (m : Int) (w : World) (hs : s.size ≤ maxLen) (ht : t.size ≤ maxLen) (hm : w.cell? ⟨0, 0, none⟩ = some (.int .i64 m)) :
    Calls Tryd.prog 7 #[.string s, .string t] w (YesPost w) := exactJoin_l s.data.toList t.data.toList m w (by rw [len_eq]; exact hs) (by rw [len_eq]; exact ht) hm

end Go.Proofs.YtkdplfmfmalllaaDoor
