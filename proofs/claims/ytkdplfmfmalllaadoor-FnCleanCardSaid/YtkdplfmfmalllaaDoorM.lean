/- Walks: whether a path is clean; the place a path lies in, and its last part; both programs'. -/
import Derived.Test.YtkdplfmfmalllaaDoorK
namespace Go.Proofs.YtkdplfmfmalllaaDoor
open Go.RowKit Pth

/-- What IsClean answers. -/
def isT (l : List UInt8) : Bool := pathL l && (cleanL l == l)
theorem isT_no {l : List UInt8} (h : pathL l = false) : isT l = false := by simp [isT, h]
theorem isT_yes {l : List UInt8} (h : pathL l = true) : isT l = (cleanL l == l) := by simp [isT, h]
theorem cleanT_no {l : List UInt8} (h : pathL l = false) : cleanT l = [] := by simp [cleanT, h]
theorem cleanT_yes {l : List UInt8} (h : pathL l = true) : cleanT l = cleanL l := by simp [cleanT, h]

/-- The contracts over a text as a list of bytes. -/
theorem l1Path_l {b : Bool} (l : List UInt8) (w : World) (hs : l.length ≤ maxLen) (hb : Hid (pathL l = b)) :
    Calls Tryd.prog 35 #[.string ⟨l.toArray⟩] w fun e w' => e = .returned (.bool b) ∧ w = w' := l1Path_eq ⟨l.toArray⟩ w hs hb
theorem l1Clean_l (l : List UInt8) (w : World) (hs : l.length ≤ 1000) :
    Calls Tryd.prog 36 #[.string ⟨l.toArray⟩] w (TextPost w.heap.size (cleanL l) w) := l1Clean_any ⟨l.toArray⟩ w hs
theorem l1Parts_l (l : List UInt8) (w : World) (hs : l.length ≤ 1000) :
    Calls Tryd.prog 42 #[.string ⟨l.toArray⟩] w (RowPost w.heap.size (partsL l) w) := l1Parts_any ⟨l.toArray⟩ w hs
theorem l1Rooted_l (l : List UInt8) (w : World) (hs : l.length ≤ maxLen) :
    Calls Tryd.prog 44 #[.string ⟨l.toArray⟩] w fun e w' => e = .returned (.bool (rootedL l)) ∧ w = w' := l1Rooted_any ⟨l.toArray⟩ w hs
theorem isPath_l {b : Bool} (l : List UInt8) (w : World) (hs : l.length ≤ maxLen) (hb : Hid (pathL l = b)) :
    Calls Tryd.prog 32 #[.string ⟨l.toArray⟩] w (BoolPost b w) := isPath_eq ⟨l.toArray⟩ w hs hb
theorem routeOf_l (l : List UInt8) (m : Int) (w : World) (hs : l.length ≤ 1000) (hm : w.cell? ⟨0, 0, none⟩ = some (.int .i64 m)) :
    Calls Tryd.prog 34 #[.string ⟨l.toArray⟩] w (NewRoute (rootedL l) (partsL l) w) := routeOf_any ⟨l.toArray⟩ m w hs hm
theorem weigh_l (l : List UInt8) : weigh (partsL l) ≤ l.length + 1 := weigh_parts ⟨l.toArray⟩
theorem path_len {l : List UInt8} (h : pathL l = true) : l.length ≤ 60 := path_size (s := ⟨l.toArray⟩) h

set_option maxHeartbeats 1000000 in
theorem specIs_l (l : List UInt8) (w : World) (hs : l.length ≤ maxLen) :
    Calls Tryd.prog 21 #[.string ⟨l.toArray⟩] w (BothPost (isT l) (pathL l) w) := by
  rcases hp : pathL l with _ | _
  · have HT := Lib.hid (isT_no hp)
    have HP := Lib.hid hp
    clear hp
    go_enter Tryd.func21, Tryd.ntmps21
    go_wp2_with (go_at_call 35; refine (l1Path_l l _ hs HP).mono ?_; rintro e w' ⟨rfl, rfl⟩)
    go_ret2
    exact ⟨by rw [HT.out] <;> rfl, Below.refl _ _⟩
  · have HT := Lib.hid (isT_yes hp)
    have hsz := path_len hp
    have HP := Lib.hid hp
    clear hp
    go_enter Tryd.func21, Tryd.ntmps21
    go_wp2_with (first | (go_at_call 35; refine (l1Path_l l _ hs HP).mono ?_; rintro e w' ⟨rfl, rfl⟩) | (go_at_call 36; refine (l1Clean_l l _ (by omega)).mono ?_; rintro e w1 ⟨rfl, hb1⟩))
    go_ret2
    exact ⟨by rw [HT.out] <;> rfl, hb1⟩

theorem implClean_l (l : List UInt8) (m : Int) (w : World) (hs : l.length ≤ maxLen) (hm : w.cell? ⟨0, 0, none⟩ = some (.int .i64 m)) :
    Calls Tryd.prog 13 #[.string ⟨l.toArray⟩] w (TwoPost (cleanT l) (pathL l) w) := implClean_any ⟨l.toArray⟩ m w hs hm

set_option maxHeartbeats 1000000 in
theorem implIs_l (l : List UInt8) (m : Int) (w : World) (hs : l.length ≤ maxLen) (hm : w.cell? ⟨0, 0, none⟩ = some (.int .i64 m)) :
    Calls Tryd.prog 15 #[.string ⟨l.toArray⟩] w (BothPost (isT l) (pathL l) w) := by
  have c := implClean_l l m w hs hm
  rcases hp : pathL l with _ | _
  · have HT := Lib.hid (isT_no hp)
    rw [hp, cleanT_no hp] at c
    have C := Lib.hid c
    clear hp c
    go_enter Tryd.func15, Tryd.ntmps15
    go_wp2_with fail
    refine C.out.mono ?_
    rintro e w1 ⟨rfl, hb1⟩
    go_wp2_with fail
    go_ret2
    exact ⟨by rw [HT.out] <;> rfl, hb1⟩
  · have HT := Lib.hid (isT_yes hp)
    rw [hp, cleanT_yes hp] at c
    have C := Lib.hid c
    clear hp c
    go_enter Tryd.func15, Tryd.ntmps15
    go_wp2_with fail
    refine C.out.mono ?_
    rintro e w1 ⟨rfl, hb1⟩
    go_wp2_with fail
    go_ret2
    exact ⟨by rw [HT.out] <;> rfl, hb1⟩

set_option maxHeartbeats 1000000 in
theorem exactIs_l (l : List UInt8) (m : Int) (w : World) (hs : l.length ≤ maxLen) (hm : w.cell? ⟨0, 0, none⟩ = some (.int .i64 m)) :
    Calls Tryd.prog 6 #[.string ⟨l.toArray⟩] w (YesPost w) := by
  by_cases hbig : 1048576 < l.length
  · unfold maxLen at hs
    go_enter Tryd.func6, Tryd.ntmps6
    go_wp2_with fail
    go_ret
    exact ⟨rfl, Below.refl _ _⟩
  · have c1 := specIs_l l w hs
    have c2 := fun w' hb => implIs_l l m w' hs (keep_max (w' := w') hm hb)
    generalize isT l = t at c1 c2
    generalize pathL l = b at c1 c2
    have C1 := Lib.hid c1
    have C2 := Lib.hid c2
    clear c1 c2
    unfold maxLen at hs
    go_enter Tryd.func6, Tryd.ntmps6
    go_wp2_with fail
    refine C1.out.mono ?_
    rintro e w1 ⟨rfl, hb1⟩
    go_wp2_with fail
    refine (C2.out w1 hb1).mono ?_
    rintro e w2 ⟨rfl, hb2⟩
    go_wp2_with fail
    go_ret
    exact ⟨rfl, bthen hb1 hb2⟩
theorem exactIs_any (s : ByteArray) (m : Int) (w : World) (hs : s.size ≤ maxLen) (hm : w.cell? ⟨0, 0, none⟩ = some (.int .i64 m)) :
    Calls Tryd.prog 6 #[.string s] w (YesPost w) := exactIs_l s.data.toList m w (by rw [len_eq]; exact hs) hm

/-- What DirOf answers. -/
def dirT (l : List UInt8) : List UInt8 := if pathL l then joinL (partsL l).dropLast (rootedL l) else []
theorem dirT_no {l : List UInt8} (h : pathL l = false) : dirT l = [] := by simp [dirT, h]
theorem dirT_yes {l : List UInt8} (h : pathL l = true) : dirT l = joinL (partsL l).dropLast (rootedL l) := by simp [dirT, h]
theorem weigh_drop (l : List (List UInt8)) : weigh l.dropLast ≤ weigh l := by
  rcases last_of l with rfl | ⟨a, q, rfl⟩
  · simp
  · rw [List.dropLast_concat, weigh_append]; omega
theorem full_drop {l : List (List UInt8)} (h : Full l) : Full l.dropLast := fun p hp => h p ((List.dropLast_sublist l).subset hp)

set_option maxHeartbeats 1000000 in
theorem specDir_l (l : List UInt8) (w : World) (hs : l.length ≤ maxLen) :
    Calls Tryd.prog 22 #[.string ⟨l.toArray⟩] w (TwoPost (dirT l) (pathL l) w) := by
  rcases hp : pathL l with _ | _
  · have HT := Lib.hid (dirT_no hp)
    have HP := Lib.hid hp
    clear hp
    go_enter Tryd.func22, Tryd.ntmps22
    go_wp2_with (go_at_call 35; refine (l1Path_l l _ hs HP).mono ?_; rintro e w' ⟨rfl, rfl⟩)
    go_ret2
    exact ⟨by rw [HT.out] <;> rfl, Below.refl _ _⟩
  · have HT := Lib.hid (dirT_yes hp)
    have hsz := path_len hp
    have HP := Lib.hid hp
    have hw1 := weigh_l l
    have hw2 := weigh_drop (partsL l)
    have hw3 := len_weigh (partsL l)
    have hw4 := len_weigh (partsL l).dropLast
    clear hp
    go_enter Tryd.func22, Tryd.ntmps22
    go_wp2_with fail
    refine (l1Path_l l _ hs HP).mono ?_
    rintro e w' ⟨rfl, rfl⟩
    go_wp2_with fail
    refine (l1Parts_l l _ (by omega)).mono ?_
    rintro e w1 ⟨v1, rfl, hown1, hb1⟩
    generalize partsL l = ps at hown1 HT hw1 hw2 hw3 hw4
    rcases last_of ps with hps | ⟨a, q, hps⟩
    · subst hps
      obtain ⟨sv, sc, hsv⟩ := own_slice hown1
      subst hsv
      go_wp2_with fail
      refine (l1Rooted_l l _ (by unfold maxLen; omega)).mono ?_
      rintro e w' ⟨rfl, rfl⟩
      go_wp2_with fail
      refine (l1Join_any [] _ _ _ _ hown1 (by simp) (by simp [weigh])).mono ?_
      rintro e w' ⟨rfl, rfl⟩
      go_wp2_with fail
      go_ret2
      exact ⟨by rw [HT.out] <;> rfl, hb1⟩
    · subst hps
      rw [List.dropLast_concat] at HT hw2 hw4
      rw [List.length_append, List.length_singleton] at hown1 hw3
      obtain ⟨g, c, hsv, hg1, hg2, hc1, hc2, _⟩ := own_last hown1
      subst hsv
      unfold maxLen at hc2
      go_wp2_with fail
      refine (l1Rooted_l l _ (by unfold maxLen; omega)).mono ?_
      rintro e w' ⟨rfl, rfl⟩
      go_wp2_with fail
      refine (l1Join_any a _ _ _ _ (own_pop hown1) (by omega) (by omega)).mono ?_
      rintro e w' ⟨rfl, rfl⟩
      go_wp2_with fail
      go_ret2
      exact ⟨by rw [HT.out] <;> rfl, hb1⟩

end Go.Proofs.YtkdplfmfmalllaaDoor
