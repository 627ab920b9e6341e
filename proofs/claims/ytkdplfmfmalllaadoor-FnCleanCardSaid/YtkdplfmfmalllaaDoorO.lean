/- Walks: the place a path lies in, its last part, two paths joined; both programs'. -/
import Derived.Test.YtkdplfmfmalllaaDoorM
namespace Go.Proofs.YtkdplfmfmalllaaDoor
open Go.RowKit Pth

theorem text_any (l : List (List UInt8)) (r : Bool) (v : Value) (w : World) (hrow : RowAt w v l) (hf : Full l) (hl2 : weigh l ≤ 1000000) :
    Calls Tryd.prog 33 #[.agg #[.bool r, v]] w (TextPost w.heap.size (joinL l r) w) := by
  have h := routeText_row l r v w hrow hl2
  rw [text_join _ hf] at h
  exact h
theorem lift_text {w w1 : World} {t : List UInt8} {e : Ending} {w' : World} (hb : Below w.heap.size w w1) (h : TextPost w1.heap.size t w1 e w') : e = .returned (.string ⟨t.toArray⟩) ∧ Below w.heap.size w w' := ⟨h.1, bthen hb h.2⟩

set_option maxHeartbeats 1000000 in
theorem implDir_l (l : List UInt8) (m : Int) (w : World) (hs : l.length ≤ maxLen) (hm : w.cell? ⟨0, 0, none⟩ = some (.int .i64 m)) :
    Calls Tryd.prog 16 #[.string ⟨l.toArray⟩] w (TwoPost (dirT l) (pathL l) w) := by
  rcases hp : pathL l with _ | _
  · have HT := Lib.hid (dirT_no hp)
    have HP := Lib.hid hp
    clear hp
    go_enter Tryd.func16, Tryd.ntmps16
    go_wp2_with fail
    refine (isPath_l l _ hs HP).mono ?_
    rintro e w1 ⟨rfl, hb1⟩
    go_wp2_with fail
    go_ret2
    exact ⟨by rw [HT.out] <;> rfl, hb1⟩
  · have HT := Lib.hid (dirT_yes hp)
    have hsz := path_len hp
    have HP := Lib.hid hp
    have hw1 := weigh_l l
    have hw2 := weigh_drop (partsL l)
    have hw3 := len_weigh (partsL l)
    have hf := full_drop (full_parts l)
    clear hp
    go_enter Tryd.func16, Tryd.ntmps16
    go_wp2_with fail
    refine (isPath_l l _ hs HP).mono ?_
    rintro e w1 ⟨rfl, hb1⟩
    go_wp2_with fail
    refine (routeOf_l l m _ (by omega) (keep_max hm hb1)).mono ?_
    rintro e w2 ⟨v2, rfl, hown2, hb2⟩
    have hb12 := bthen hb1 hb2
    have hal : ∀ o, Below w.heap.size w (w2.alloc o) := fun o => hb12.alloc hb12.size o
    generalize partsL l = ps at hown2 HT hw1 hw2 hw3 hf
    rcases last_of ps with hps | ⟨a, q, hps⟩
    · subst hps
      obtain ⟨sv, sc, hsv⟩ := own_slice hown2
      subst hsv
      go_wp2_with fail
      refine (text_any [] _ _ _ (row_own (hown2.alloc _)) hf (by simp [weigh])).mono ?_
      intro e w3 h3
      obtain ⟨rfl, hb3⟩ := lift_text (hal _) h3
      go_wp2_with fail
      go_ret2
      exact ⟨by rw [HT.out] <;> rfl, hb3⟩
    · subst hps
      rw [List.dropLast_concat] at HT hw2 hf
      rw [List.length_append, List.length_singleton] at hown2 hw3
      obtain ⟨g, c, hsv, hg1, hg2, hc1, hc2, _⟩ := own_last hown2
      subst hsv
      unfold maxLen at hc2
      go_wp2_with fail
      refine (text_any a _ _ _ (row_own ((own_pop hown2).alloc _)) hf (by omega)).mono ?_
      intro e w3 h3
      obtain ⟨rfl, hb3⟩ := lift_text (hal _) h3
      go_wp2_with fail
      go_ret2
      exact ⟨by rw [HT.out] <;> rfl, hb3⟩

/-- What BaseOf answers. -/
def lastL (l : List UInt8) : List UInt8 := match (partsL l).getLast? with | some p => p | none => cleanL l
def baseT (l : List UInt8) : List UInt8 := if pathL l then lastL l else []
theorem baseT_no {l : List UInt8} (h : pathL l = false) : baseT l = [] := by simp [baseT, h]
theorem baseT_nil {l : List UInt8} (h : pathL l = true) (hp : partsL l = []) : baseT l = cleanL l := by simp [baseT, h, lastL, hp]
theorem baseT_last {l : List UInt8} {a : List (List UInt8)} {q : List UInt8} (h : pathL l = true) (hp : partsL l = a ++ [q]) : baseT l = q := by simp [baseT, h, lastL, hp]
theorem clean_nil {l : List UInt8} (hp : partsL l = []) : cleanL l = joinL [] (rootedL l) := by simp [cleanL, hp]
theorem join_one {q : List UInt8} (h : ¬ q = []) : joinL [q] false = q := by simp [joinL, glue, h]

set_option maxHeartbeats 1000000 in
theorem specBase_l (l : List UInt8) (w : World) (hs : l.length ≤ maxLen) :
    Calls Tryd.prog 23 #[.string ⟨l.toArray⟩] w (TwoPost (baseT l) (pathL l) w) := by
  rcases hp : pathL l with _ | _
  · have HT := Lib.hid (baseT_no hp)
    have HP := Lib.hid hp
    clear hp
    go_enter Tryd.func23, Tryd.ntmps23
    go_wp2_with (go_at_call 35; refine (l1Path_l l _ hs HP).mono ?_; rintro e w' ⟨rfl, rfl⟩)
    go_ret2
    exact ⟨by rw [HT.out] <;> rfl, Below.refl _ _⟩
  · have hsz := path_len hp
    have HP := Lib.hid hp
    have hw1 := weigh_l l
    have hw3 := len_weigh (partsL l)
    rcases last_of (partsL l) with hps | ⟨a, q, hps⟩
    · have HT := Lib.hid (baseT_nil hp hps)
      have HS := Lib.hid hps
      clear hp hps
      go_enter Tryd.func23, Tryd.ntmps23
      go_wp2_with fail
      refine (l1Path_l l _ hs HP).mono ?_
      rintro e w' ⟨rfl, rfl⟩
      go_wp2_with fail
      refine (l1Parts_l l _ (by omega)).mono ?_
      rintro e w1 ⟨v1, rfl, hown1, hb1⟩
      rw [HS.out] at hown1
      obtain ⟨sv, sc, hsv⟩ := own_slice hown1
      subst hsv
      go_wp2_with fail
      refine (l1Clean_l l _ (by omega)).mono ?_
      intro e w3 h3
      obtain ⟨rfl, hb3⟩ := lift_text hb1 h3
      go_wp2_with fail
      go_ret2
      exact ⟨by rw [HT.out] <;> rfl, hb3⟩
    · have HT := Lib.hid (baseT_last hp hps)
      have HS := Lib.hid hps
      clear hp hps
      go_enter Tryd.func23, Tryd.ntmps23
      go_wp2_with fail
      refine (l1Path_l l _ hs HP).mono ?_
      rintro e w' ⟨rfl, rfl⟩
      go_wp2_with fail
      refine (l1Parts_l l _ (by omega)).mono ?_
      rintro e w1 ⟨v1, rfl, hown1, hb1⟩
      rw [HS.out] at hown1 hw3
      rw [List.length_append, List.length_singleton] at hown1 hw3
      obtain ⟨g, c, hsv, hg1, hg2, hc1, hc2, hlast⟩ := own_last hown1
      subst hsv
      unfold maxLen at hc2
      go_wp2_with fail
      go_ret2
      exact ⟨by rw [HT.out] <;> rfl, hb1⟩

set_option maxHeartbeats 1000000 in
theorem implBase_l (l : List UInt8) (m : Int) (w : World) (hs : l.length ≤ maxLen) (hm : w.cell? ⟨0, 0, none⟩ = some (.int .i64 m)) :
    Calls Tryd.prog 17 #[.string ⟨l.toArray⟩] w (TwoPost (baseT l) (pathL l) w) := by
  rcases hp : pathL l with _ | _
  · have HT := Lib.hid (baseT_no hp)
    have HP := Lib.hid hp
    clear hp
    go_enter Tryd.func17, Tryd.ntmps17
    go_wp2_with fail
    refine (isPath_l l _ hs HP).mono ?_
    rintro e w1 ⟨rfl, hb1⟩
    go_wp2_with fail
    go_ret2
    exact ⟨by rw [HT.out] <;> rfl, hb1⟩
  · have hsz := path_len hp
    have HP := Lib.hid hp
    have hw1 := weigh_l l
    have hw3 := len_weigh (partsL l)
    have hf := full_parts l
    rcases last_of (partsL l) with hps | ⟨a, q, hps⟩
    · have HT := Lib.hid ((baseT_nil hp hps).trans (clean_nil hps))
      have HS := Lib.hid hps
      clear hp hps
      go_enter Tryd.func17, Tryd.ntmps17
      go_wp2_with fail
      refine (isPath_l l _ hs HP).mono ?_
      rintro e w1 ⟨rfl, hb1⟩
      go_wp2_with fail
      refine (routeOf_l l m _ (by omega) (keep_max hm hb1)).mono ?_
      rintro e w2 ⟨v2, rfl, hown2, hb2⟩
      have hb12 := bthen hb1 hb2
      have hal : ∀ o, Below w.heap.size w (w2.alloc o) := fun o => hb12.alloc hb12.size o
      rw [HS.out] at hown2 hf
      obtain ⟨sv, sc, hsv⟩ := own_slice hown2
      subst hsv
      go_wp2_with fail
      refine (text_any [] _ _ _ (row_own (hown2.alloc _)) hf (by simp [weigh])).mono ?_
      intro e w3 h3
      obtain ⟨rfl, hb3⟩ := lift_text (hal _) h3
      go_wp2_with fail
      go_ret2
      exact ⟨by rw [HT.out] <;> rfl, hb3⟩
    · have hq : ¬ q = [] := hf q (by rw [hps]; simp)
      have HT := Lib.hid ((baseT_last hp hps).trans (join_one hq).symm)
      have HS := Lib.hid hps
      have HQ := Lib.hid hq
      clear hp hps hq
      go_enter Tryd.func17, Tryd.ntmps17
      go_wp2_with fail
      refine (isPath_l l _ hs HP).mono ?_
      rintro e w1 ⟨rfl, hb1⟩
      go_wp2_with fail
      refine (routeOf_l l m _ (by omega) (keep_max hm hb1)).mono ?_
      rintro e w2 ⟨v2, rfl, hown2, hb2⟩
      have hb12 := bthen hb1 hb2
      have hal : ∀ o, Below w.heap.size w (w2.alloc o) := fun o => hb12.alloc hb12.size o
      rw [HS.out] at hown2 hw3 hw1
      rw [weigh_append] at hw1
      rw [List.length_append, List.length_singleton] at hown2 hw3
      obtain ⟨g, c, hsv, hg1, hg2, hc1, hc2, hlast⟩ := own_last hown2
      subst hsv
      unfold maxLen at hc2
      go_wp2_with fail
      have hrow : ∀ o, RowAt (w2.alloc o) (.slice (some ⟨g, a.length, none⟩) 1 (c - a.length)) [q] := fun o => ⟨_, _, rfl, fun k hk => by
        obtain rfl : k = 0 := by simpa using hk
        exact ⟨g, a.length, rfl, by simp; omega, by rw [World.cell?_alloc_lt _ _ _ hg2]; exact hlast⟩⟩
      have hq1 : Full [q] := fun p hp => by rw [List.mem_singleton.1 hp]; exact HQ.out
      refine (text_any [q] _ _ _ (hrow _) hq1 (by simp only [weigh] at hw1 ⊢; omega)).mono ?_
      intro e w3 h3
      obtain ⟨rfl, hb3⟩ := lift_text (hal _) h3
      go_wp2_with fail
      go_ret2
      exact ⟨by rw [HT.out] <;> rfl, hb3⟩

/-- Both texts with a slash between; of an empty one the other. -/
def slashL (a b : List UInt8) : List UInt8 := if a = [] then b else if b = [] then a else a ++ 47 :: b
theorem slash_len (a b : List UInt8) : (slashL a b).length ≤ a.length + b.length + 1 := by
  unfold slashL
  split
  · omega
  · split
    · omega
    · simp; omega
/-- What JoinPath answers. -/
def joinB (a b : List UInt8) : Bool := pathL a && pathL b && decide ((cleanL (slashL a b)).length ≤ 60)
def joinT (a b : List UInt8) : List UInt8 := if joinB a b then cleanL (slashL a b) else []
theorem join_no {a b : List UInt8} (h : joinB a b = false) : joinT a b = [] := by simp [joinT, h]
theorem join_yes {a b : List UInt8} (h : joinB a b = true) : joinT a b = cleanL (slashL a b) := by simp [joinT, h]

theorem withSlash_l (a b : List UInt8) (w : World) (ha : a.length ≤ 100000) (hb : b.length ≤ 100000) :
    Calls Tryd.prog 40 #[.string ⟨a.toArray⟩, .string ⟨b.toArray⟩] w fun e w' => e = .returned (.string ⟨(slashL a b).toArray⟩) ∧ w = w' := by
  by_cases h0 : a = []
  · subst h0
    go_enter Tryd.func40, Tryd.ntmps40
    go_wp2
    go_ret
    exact ⟨rfl, rfl⟩
  · have h1 : a.isEmpty = false := by simpa using h0
    by_cases h2 : b = []
    · subst h2
      have HE : Hid (slashL a [] = a) := by show slashL a [] = a; simp [slashL, h0]
      go_enter Tryd.func40, Tryd.ntmps40
      go_wp2
      go_ret
      exact ⟨by rw [HE.out] <;> rfl, rfl⟩
    · have h3 : b.isEmpty = false := by simpa using h2
      have HE : Hid (slashL a b = a ++ 47 :: b) := by show slashL a b = _; simp [slashL, h0, h2]
      go_enter Tryd.func40, Tryd.ntmps40
      go_wp2
      go_ret
      exact ⟨by rw [HE.out]; exact congrArg Ending.returned (cat2 a b), rfl⟩

theorem short_yes (t : List UInt8) (w : World) (h : t.length ≤ 60) : Calls Tryd.prog 39 #[.string ⟨t.toArray⟩] w fun e w' => e = .returned (.tuple #[.string ⟨t.toArray⟩, .bool true]) ∧ w = w' := by
  go_enter Tryd.func39, Tryd.ntmps39
  go_wp2
  go_ret2
  exact ⟨rfl, rfl⟩
theorem short_no (t : List UInt8) (w : World) (h : 60 < t.length) (h2 : t.length ≤ 1000000) : Calls Tryd.prog 39 #[.string ⟨t.toArray⟩] w fun e w' => e = .returned (.tuple #[.string ⟨#[]⟩, .bool false]) ∧ w = w' := by
  go_enter Tryd.func39, Tryd.ntmps39
  go_wp2
  go_ret2
  exact ⟨rfl, rfl⟩
theorem join_len (l : List (List UInt8)) (b : Bool) : (joinL l b).length ≤ weigh l + 1 := by
  have := glue_len l
  unfold joinL
  split
  · simp; omega
  · split
    · simp
    · omega
theorem clean_len (l : List UInt8) : (cleanL l).length ≤ l.length + 2 := by
  have h1 := join_len (partsL l) (rootedL l)
  have h2 := weigh_l l
  unfold cleanL; omega
theorem cleanText_l (l : List UInt8) (v : Value) (B : Nat) (w : World) (hs : l.length ≤ 1000) (hown : w.ownsRow B 9 1 v (partsL l).length (S (partsL l))) :
    Calls Tryd.prog 33 #[.agg #[.bool (rootedL l), v]] w (TextPost w.heap.size (cleanL l) w) := cleanText_any ⟨l.toArray⟩ v B w hs hown

set_option maxHeartbeats 2000000 in
theorem implJoin_l (a b : List UInt8) (m : Int) (w : World) (ha : a.length ≤ maxLen) (hb : b.length ≤ maxLen) (hm : w.cell? ⟨0, 0, none⟩ = some (.int .i64 m)) :
    Calls Tryd.prog 19 #[.string ⟨a.toArray⟩, .string ⟨b.toArray⟩] w (TwoPost (joinT a b) (joinB a b) w) := by
  rcases hpa : pathL a with _ | _
  · have hj : joinB a b = false := by simp [joinB, hpa]
    rw [join_no hj, hj]
    have HA := Lib.hid hpa
    clear hpa hj
    go_enter Tryd.func19, Tryd.ntmps19
    go_wp2_with fail
    refine (isPath_l a _ ha HA).mono ?_
    rintro e w1 ⟨rfl, hb1⟩
    go_wp2_with fail
    go_ret2
    exact ⟨rfl, hb1⟩
  · rcases hpb : pathL b with _ | _
    · have hj : joinB a b = false := by simp [joinB, hpb]
      rw [join_no hj, hj]
      have HA := Lib.hid hpa
      have HB := Lib.hid hpb
      clear hpa hpb hj
      go_enter Tryd.func19, Tryd.ntmps19
      go_wp2_with fail
      refine (isPath_l a _ ha HA).mono ?_
      rintro e w1 ⟨rfl, hb1⟩
      go_wp2_with fail
      refine (isPath_l b _ hb HB).mono ?_
      rintro e w2 ⟨rfl, hb2⟩
      go_wp2_with fail
      go_ret2
      exact ⟨rfl, bthen hb1 hb2⟩
    · have hla := path_len hpa
      have hlb := path_len hpb
      have hsl := slash_len a b
      have hcl := clean_len (slashL a b)
      have HA := Lib.hid hpa
      have HB := Lib.hid hpb
      by_cases hc : (cleanL (slashL a b)).length ≤ 60
      · have hj : joinB a b = true := by simp [joinB, hpa, hpb, hc]
        rw [join_yes hj, hj]
        clear hpa hpb hj
        go_enter Tryd.func19, Tryd.ntmps19
        go_wp2_with fail
        refine (isPath_l a _ ha HA).mono ?_
        rintro e w1 ⟨rfl, hb1⟩
        go_wp2_with fail
        refine (isPath_l b _ hb HB).mono ?_
        rintro e w2 ⟨rfl, hb2⟩
        go_wp2_with fail
        refine (withSlash_l a b _ (by omega) (by omega)).mono ?_
        rintro e w' ⟨rfl, rfl⟩
        go_wp2_with fail
        refine (routeOf_l (slashL a b) m _ (by omega) (keep_max hm (bthen hb1 hb2))).mono ?_
        rintro e w3 ⟨v3, rfl, hown3, hb3⟩
        go_wp2_with fail
        refine (cleanText_l (slashL a b) v3 _ _ (by omega) hown3).mono ?_
        rintro e w4 ⟨rfl, hb4⟩
        go_wp2_with fail
        refine (short_yes _ _ hc).mono ?_
        rintro e w' ⟨rfl, rfl⟩
        go_wp2_with fail
        go_ret2
        exact ⟨rfl, bthen (bthen (bthen hb1 hb2) hb3) hb4⟩
      · have hj : joinB a b = false := by simp [joinB, hc]
        rw [join_no hj, hj]
        clear hpa hpb hj
        go_enter Tryd.func19, Tryd.ntmps19
        go_wp2_with fail
        refine (isPath_l a _ ha HA).mono ?_
        rintro e w1 ⟨rfl, hb1⟩
        go_wp2_with fail
        refine (isPath_l b _ hb HB).mono ?_
        rintro e w2 ⟨rfl, hb2⟩
        go_wp2_with fail
        refine (withSlash_l a b _ (by omega) (by omega)).mono ?_
        rintro e w' ⟨rfl, rfl⟩
        go_wp2_with fail
        refine (routeOf_l (slashL a b) m _ (by omega) (keep_max hm (bthen hb1 hb2))).mono ?_
        rintro e w3 ⟨v3, rfl, hown3, hb3⟩
        go_wp2_with fail
        refine (cleanText_l (slashL a b) v3 _ _ (by omega) hown3).mono ?_
        rintro e w4 ⟨rfl, hb4⟩
        go_wp2_with fail
        refine (short_no _ _ (by omega) (by omega)).mono ?_
        rintro e w' ⟨rfl, rfl⟩
        go_wp2_with fail
        go_ret2
        exact ⟨rfl, bthen (bthen (bthen hb1 hb2) hb3) hb4⟩

end Go.Proofs.YtkdplfmfmalllaaDoor
