/- Walks: the way from one path to another; the program's. -/
import Derived.Test.YtkdplfmfmalllaaDoorU
namespace Go.Proofs.YtkdplfmfmalllaaDoor
open Go.RowKit Pth

/-- What RelPath answers. -/
def relText (a b : List UInt8) : List UInt8 := joinL (wayL (partsL a) (partsL b)) false
def relB (a b : List UInt8) : Bool := pathL a && pathL b && (rootedL a == rootedL b) && !upsL (partsL a) && !upsL (partsL b) && decide ((relText a b).length ≤ 60)
def relT (a b : List UInt8) : List UInt8 := if relB a b then relText a b else []
theorem rel_no {a b : List UInt8} (h : relB a b = false) : relT a b = [] := by simp [relT, h]
theorem rel_yes {a b : List UInt8} (h : relB a b = true) : relT a b = relText a b := by simp [relT, h]

theorem own_cap {w : World} {B n : Nat} {v : Value} {xs : List Value} (h : w.ownsRow B 9 1 v n xs) : ∃ a c, v = .slice a n c ∧ n ≤ c ∧ c ≤ maxLen := by
  rcases h.2 with ⟨hv, h0⟩ | ⟨g, cap, cur, hv, _, _, h1, h2, _⟩
  · exact ⟨none, 0, by rw [hv, h0], by omega, by unfold maxLen; omega⟩
  · exact ⟨_, _, hv, h1, h2⟩

theorem full_way {a b : List (List UInt8)} (hb : Full b) : Full (wayL a b) := by
  intro p hp
  unfold wayL at hp
  rcases List.mem_append.1 hp with h | h
  · rw [(List.mem_replicate.1 h).2]; decide
  · exact hb p (List.drop_subset _ _ h)
theorem weigh_rep (n : Nat) : weigh (List.replicate n dots) = 3 * n := by
  induction n with
  | zero => rfl
  | succ n ih => simp only [List.replicate_succ, weigh, ih]; simp [dots]; omega
theorem weigh_dropk (l : List (List UInt8)) (k : Nat) : weigh (l.drop k) ≤ weigh l := by
  have h := weigh_append (l.take k) (l.drop k)
  rw [List.take_append_drop] at h; omega
theorem weigh_way (a b : List (List UInt8)) : weigh (wayL a b) ≤ 3 * a.length + weigh b := by
  have h1 := weigh_dropk b (alikeN a b)
  unfold wayL
  rw [weigh_append, weigh_rep]
  omega

/-- Two routes in two blocks of the call's own. -/
def Pair (W : World) (n : Nat) (r1 r2 : Bool) (v1 v2 : Value) : Prop :=
  n + 1 < W.heap.size ∧ W.cell? ⟨n, 0, none⟩ = some (.bool r1) ∧ W.cell? ⟨n, 1, none⟩ = some v1 ∧ W.cell? ⟨n + 1, 0, none⟩ = some (.bool r2) ∧ W.cell? ⟨n + 1, 1, none⟩ = some v2
theorem Pair.keep {W W' : World} {n : Nat} {r1 r2 : Bool} {v1 v2 : Value} (h : Pair W n r1 r2 v1 v2) (hb : Below W.heap.size W W') : Pair W' n r1 r2 v1 v2 := by
  obtain ⟨h0, h1, h2, h3, h4⟩ := h
  have hs := hb.size
  exact ⟨by omega, (hb.cell (p := ⟨n, 0, none⟩) (by show n < _; omega)).trans h1, (hb.cell (p := ⟨n, 1, none⟩) (by show n < _; omega)).trans h2, (hb.cell (p := ⟨n + 1, 0, none⟩) h0).trans h3, (hb.cell (p := ⟨n + 1, 1, none⟩) h0).trans h4⟩
theorem Pair.new (w : World) (r1 r2 : Bool) (v1 v2 : Value) : Pair ((w.alloc (.cells #[.bool r1, v1] 43)).alloc (.cells #[.bool r2, v2] 43)) w.heap.size r1 r2 v1 v2 := by
  refine ⟨by simp, ?_, ?_, ?_, ?_⟩ <;> simp

set_option maxHeartbeats 2000000 in
theorem implRel_l (a b : List UInt8) (m : Int) (w : World) (ha : a.length ≤ maxLen) (hb : b.length ≤ maxLen) (hm : w.cell? ⟨0, 0, none⟩ = some (.int .i64 m)) :
    Calls Tryd.prog 25 #[.string ⟨a.toArray⟩, .string ⟨b.toArray⟩] w (TwoPost (relT a b) (relB a b) w) := by
  rcases hpa : pathL a with _ | _
  · have hj : relB a b = false := by simp [relB, hpa]
    rw [rel_no hj, hj]
    have HA := Lib.hid hpa
    clear hpa hj
    go_enter Tryd.func25, Tryd.ntmps25
    go_wp2_with fail
    refine (isPath_l a _ ha HA).mono ?_
    rintro e w1 ⟨rfl, hb1⟩
    go_wp2_with fail
    go_ret2
    exact ⟨rfl, hb1⟩
  · rcases hpb : pathL b with _ | _
    · have hj : relB a b = false := by simp [relB, hpb]
      rw [rel_no hj, hj]
      have HA := Lib.hid hpa
      have HB := Lib.hid hpb
      clear hpa hpb hj
      go_enter Tryd.func25, Tryd.ntmps25
      go_wp2_with fail
      refine (isPath_l a _ ha HA).mono ?_
      rintro e w1 ⟨rfl, hb1⟩
      go_wp2_with fail
      refine (isPath_l b _ hb HB).mono ?_
      rintro e w2 ⟨rfl, hb2⟩
      go_wp2_with fail
      go_ret2
      exact ⟨rfl, bthen hb1 hb2⟩
    · have hla := path_len hpa
      have hlb := path_len hpb
      have hwa := weigh_l a
      have hwb := weigh_l b
      have hna := len_weigh (partsL a)
      have hnb := len_weigh (partsL b)
      have hfb := full_parts b
      have hj : relB a b = ((rootedL a == rootedL b) && !upsL (partsL a) && !upsL (partsL b) && decide ((relText a b).length ≤ 60)) := by simp [relB, hpa, hpb]
      have hn := rel_no (a := a) (b := b)
      have hy := rel_yes (a := a) (b := b)
      have HA := Lib.hid hpa
      have HB := Lib.hid hpb
      unfold relText at hj hy
      generalize relT a b = t at hn hy
      generalize relB a b = bo at hj hn hy
      have HJ := Lib.hid hj
      have HN := Lib.hid hn
      have HY := Lib.hid hy
      clear hpa hpb hj hn hy
      go_enter Tryd.func25, Tryd.ntmps25
      go_wp2_with fail
      refine (isPath_l a _ ha HA).mono ?_
      rintro e w1 ⟨rfl, hb1⟩
      go_wp2_with fail
      refine (isPath_l b _ hb HB).mono ?_
      rintro e w2 ⟨rfl, hb2⟩
      go_wp2_with fail
      refine (routeOf_l a m _ (by omega) (keep_max hm (bthen hb1 hb2))).mono ?_
      rintro e w3 ⟨v3, rfl, hown3, hb3⟩
      go_wp2_with fail
      refine (routeOf_l b m _ (by omega) (keep_max hm (bthen (bthen hb1 hb2) hb3))).mono ?_
      rintro e w4 ⟨v4, rfl, hown4, hb4⟩
      have hall := bthen (bthen (bthen hb1 hb2) hb3) hb4
      have hrow3 := row_below (row_own hown3) hb4
      have hrow4 := row_own hown4
      generalize partsL a = pa at hrow3 HJ HY hwa hna hown3
      generalize partsL b = pb at hrow4 HJ HY hwb hnb hfb hown4
      generalize rootedL a = ra at HJ
      generalize rootedL b = rb at HJ
      obtain ⟨a3, c3, rfl, hc3, hm3⟩ := own_cap hown3
      obtain ⟨a4, c4, rfl, hc4, hm4⟩ := own_cap hown4
      clear hown3 hown4 hb1 hb2 hb3 hb4
      have hW : Below w.heap.size w ((w4.alloc (.cells #[.bool ra, .slice a3 pa.length c3] 43)).alloc (.cells #[.bool rb, .slice a4 pb.length c4] 43)) := (hall.alloc hall.size _).alloc (by simp; have := hall.size; omega) _
      have hP := Pair.new w4 ra rb (.slice a3 pa.length c3) (.slice a4 pb.length c4)
      have r3 := row_alloc (row_alloc hrow3 (.cells #[.bool ra, .slice a3 pa.length c3] 43)) (.cells #[.bool rb, .slice a4 pb.length c4] 43)
      have r4 := row_alloc (row_alloc hrow4 (.cells #[.bool ra, .slice a3 pa.length c3] 43)) (.cells #[.bool rb, .slice a4 pb.length c4] 43)
      have R3 := Lib.hid r3
      have R4 := Lib.hid r4
      have HW := Lib.hid hW
      have HP := Lib.hid hP
      clear hrow3 hrow4 r3 r4 hW hP
      by_cases hr : ra = rb
      · subst hr
        go_wp2_with fail
        refine (leadsUp_any pa _ _ _ R3.out (by omega)).mono ?_
        rintro e w5 ⟨rfl, hb5⟩
        have HP5 := Lib.hid (HP.out.keep hb5)
        have HW5 := Lib.hid (bthen HW.out hb5)
        have R35 := Lib.hid (row_below R3.out hb5)
        have R45 := Lib.hid (row_below R4.out hb5)
        clear HP HW R3 R4 hb5
        rcases hua : upsL pa with _ | _
        · obtain ⟨z5, p50, p51, p52, p53⟩ := HP5.out
          rw [hua] at HJ
          clear hua
          go_wp2_with fail
          refine (leadsUp_any pb _ _ _ R45.out (by omega)).mono ?_
          rintro e w6 ⟨rfl, hb6⟩
          have HP6 := Lib.hid (HP5.out.keep hb6)
          have HW6 := Lib.hid (bthen HW5.out hb6)
          have R36 := Lib.hid (row_below R35.out hb6)
          have R46 := Lib.hid (row_below R45.out hb6)
          clear HP5 HW5 R35 R45 hb6 p50 p51 p52 p53 z5
          obtain ⟨z6, p60, p61, p62, p63⟩ := HP6.out
          rcases hub : upsL pb with _ | _
          · rw [hub] at HJ
            clear hub
            have hwy := weigh_way pa pb
            have hfw := full_way (a := pa) hfb
            have hjl := join_len (wayL pa pb) false
            go_wp2_with fail
            refine (wayBetween_any pa pb _ _ _ _ _ _ _ R36.out R46.out (by omega) (by omega) hc3 hc4 hm3 hm4).mono ?_
            rintro e w7 ⟨v7, rfl, hown7, hb7⟩
            have HW7 := Lib.hid (bthen HW6.out hb7)
            generalize wayL pa pb = L at HJ HY hwy hfw hjl hown7
            clear HP6 HW6 R36 R46 hb7 p60 p61 p62 p63 z6
            go_wp2_with fail
            refine (text_any L _ _ _ (row_own hown7) hfw (by omega)).mono ?_
            rintro e w8 ⟨rfl, hb8⟩
            have HW8 := Lib.hid (bthen HW7.out hb8)
            clear HW7 hb8 hown7
            by_cases hc : (joinL L false).length ≤ 60
            · have hbt : bo = true := by rw [HJ.out]; simp [hc]
              have HT := Lib.hid (HY.out hbt)
              subst hbt
              clear HJ HN HY
              go_wp2_with fail
              refine (short_yes _ _ hc).mono ?_
              rintro e w' ⟨rfl, rfl⟩
              go_wp2_with fail
              go_ret2
              exact ⟨by rw [HT.out] <;> rfl, HW8.out⟩
            · have hbt : bo = false := by rw [HJ.out]; simp [hc]
              have HT := Lib.hid (HN.out hbt)
              subst hbt
              clear HJ HN HY
              go_wp2_with fail
              refine (short_no _ _ (by omega) (by omega)).mono ?_
              rintro e w' ⟨rfl, rfl⟩
              go_wp2_with fail
              go_ret2
              exact ⟨by rw [HT.out] <;> rfl, HW8.out⟩
          · have hbt : bo = false := by rw [HJ.out]; simp [hub]
            have HT := Lib.hid (HN.out hbt)
            subst hbt
            clear HJ HN HY
            go_wp2_with fail
            go_ret2
            exact ⟨by rw [HT.out] <;> rfl, HW6.out⟩
        · have hbt : bo = false := by rw [HJ.out]; simp [hua]
          have HT := Lib.hid (HN.out hbt)
          subst hbt
          clear HJ HN HY
          go_wp2_with fail
          go_ret2
          exact ⟨by rw [HT.out] <;> rfl, HW5.out⟩
      · have hbt : bo = false := by rw [HJ.out]; simp [hr]
        have HT := Lib.hid (HN.out hbt)
        have hr1 : (ra == rb) = false := by simpa using hr
        have hr2 : (ra != rb) = true := by simpa using hr
        subst hbt
        clear HJ HN HY
        go_wp2_with fail
        go_ret2
        exact ⟨by rw [HT.out] <;> rfl, HW.out⟩

end Go.Proofs.YtkdplfmfmalllaaDoor
