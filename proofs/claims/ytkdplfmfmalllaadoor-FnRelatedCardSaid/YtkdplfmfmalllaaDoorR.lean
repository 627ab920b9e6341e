/- Walks: whether one path lies within another; both programs', and the law. -/
import Derived.Test.YtkdplfmfmalllaaDoorQ
namespace Go.Proofs.YtkdplfmfmalllaaDoor
open Go.RowKit Pth

/-- Whether the parts of the second are the first ones of the first. -/
def inParts (a b : List (List UInt8)) : Bool := if b = [] then !upsL a else (alikeN a b == b.length)
/-- What IsWithin answers. -/
def inB (a b : List UInt8) : Bool := pathL a && pathL b
def inT (a b : List UInt8) : Bool := inB a b && (rootedL a == rootedL b) && inParts (partsL a) (partsL b)

theorem in_no {a b : List UInt8} (h : inB a b = false) : inT a b = false := by simp [inT, h]
theorem in_apart {a b : List UInt8} (h : ¬ rootedL a = rootedL b) : inT a b = false := by simp [inT, h]
theorem in_yes {a b : List UInt8} (h : inB a b = true) (hr : rootedL a = rootedL b) : inT a b = inParts (partsL a) (partsL b) := by simp [inT, h, hr]

/-- The reference's way to the same answer. -/
theorem parts_short {a b : List (List UInt8)} (h : a.length < b.length) : inParts a b = false := by
  have := (alike_le a b).1
  unfold inParts
  rw [if_neg (by rintro rfl; simp at h)]
  rw [beq_eq_false_iff_ne]; omega
theorem parts_unlike {a b : List (List UInt8)} {k : Nat} (hk : a.take k = b.take k) (h1 : k < a.length) (h2 : k < b.length) (h : ¬ a[k] = b[k]) : inParts a b = false := by
  have := alike_stop hk (by omega) (by omega) (.inr (.inr ⟨h1, h2, h⟩))
  unfold inParts
  rw [if_neg (by rintro rfl; simp at h2)]
  rw [beq_eq_false_iff_ne]; omega
theorem parts_all {a b : List (List UInt8)} (hk : a.take b.length = b.take b.length) (h1 : b.length ≤ a.length) (hb : ¬ b = []) : inParts a b = true := by
  have := alike_stop hk h1 (Nat.le_refl _) (.inr (.inl rfl))
  unfold inParts
  rw [if_neg hb, this]; simp
theorem parts_none (a : List (List UInt8)) : inParts a [] = !upsL a := by simp [inParts]

theorem cast_beq (a b : Nat) : (a == b) = ((a : Int) == (b : Int)) := by
  rw [Bool.eq_iff_iff]; simp; omega

set_option maxHeartbeats 2000000 in
theorem implIn_l (a b : List UInt8) (m : Int) (w : World) (ha : a.length ≤ maxLen) (hb : b.length ≤ maxLen) (hm : w.cell? ⟨0, 0, none⟩ = some (.int .i64 m)) :
    Calls Tryd.prog 18 #[.string ⟨a.toArray⟩, .string ⟨b.toArray⟩] w (BothPost (inT a b) (inB a b) w) := by
  rcases hpa : pathL a with _ | _
  · have hj : inB a b = false := by simp [inB, hpa]
    rw [in_no hj, hj]
    have HA := Lib.hid hpa
    clear hpa hj
    go_enter Tryd.func18, Tryd.ntmps18
    go_wp2_with fail
    refine (isPath_l a _ ha HA).mono ?_
    rintro e w1 ⟨rfl, hb1⟩
    go_wp2_with fail
    go_ret2
    exact ⟨rfl, hb1⟩
  · rcases hpb : pathL b with _ | _
    · have hj : inB a b = false := by simp [inB, hpb]
      rw [in_no hj, hj]
      have HA := Lib.hid hpa
      have HB := Lib.hid hpb
      clear hpa hpb hj
      go_enter Tryd.func18, Tryd.ntmps18
      go_wp2_with fail
      refine (isPath_l a _ ha HA).mono ?_
      rintro e w1 ⟨rfl, hb1⟩
      go_wp2_with fail
      refine (isPath_l b _ hb HB).mono ?_
      rintro e w2 ⟨rfl, hb2⟩
      go_wp2_with fail
      go_ret2
      exact ⟨rfl, bthen hb1 hb2⟩
    · have hla := path_len hpa
      have hlb := path_len hpb
      have hwa := weigh_l a
      have hwb := weigh_l b
      have hna := len_weigh (partsL a)
      have hnb := len_weigh (partsL b)
      have hj : inB a b = true := by simp [inB, hpa, hpb]
      have hin := in_yes hj
      have hap := in_apart (a := a) (b := b)
      rw [hj]
      have HA := Lib.hid hpa
      have HB := Lib.hid hpb
      generalize inT a b = t at hin hap
      have HIN := Lib.hid hin
      have HAP := Lib.hid hap
      clear hpa hpb hj hin hap
      go_enter Tryd.func18, Tryd.ntmps18
      go_wp2_with fail
      refine (isPath_l a _ ha HA).mono ?_
      rintro e w1 ⟨rfl, hb1⟩
      go_wp2_with fail
      refine (isPath_l b _ hb HB).mono ?_
      rintro e w2 ⟨rfl, hb2⟩
      go_wp2_with fail
      refine (routeOf_l a m _ (by omega) (keep_max hm (bthen hb1 hb2))).mono ?_
      rintro e w3 ⟨v3, rfl, hown3, hb3⟩
      go_wp2_with fail
      refine (routeOf_l b m _ (by omega) (keep_max hm (bthen (bthen hb1 hb2) hb3))).mono ?_
      rintro e w4 ⟨v4, rfl, hown4, hb4⟩
      have hall := bthen (bthen (bthen hb1 hb2) hb3) hb4
      have hrow3 := row_below (row_own hown3) hb4
      have hrow4 := row_own hown4
      generalize partsL a = pa at hrow3 HIN hwa hna
      generalize partsL b = pb at hrow4 HIN hwb hnb
      generalize rootedL a = ra at HIN HAP
      generalize rootedL b = rb at HIN HAP
      clear hown3 hown4 hb1 hb2 hb3 hb4
      obtain ⟨a3, c3, rfl, _⟩ := id hrow3
      obtain ⟨a4, c4, rfl, _⟩ := id hrow4
      by_cases hr : ra = rb
      · have HT := Lib.hid (HIN.out hr)
        subst hr
        clear HIN HAP
        by_cases h0 : pb = []
        · subst h0
          rw [parts_none] at HT
          go_wp2_with fail
          refine (leadsUp_any pa _ _ _ (row_alloc (row_alloc hrow3 _) _) (by omega)).mono ?_
          rintro e w5 ⟨rfl, hb5⟩
          go_wp2_with fail
          go_ret2
          exact ⟨by rw [HT.out] <;> rfl, bthen ((hall.alloc hall.size _).alloc (by simp; have := hall.size; omega) _) hb5⟩
        · have hp1 : 0 < pb.length := List.length_pos_iff.2 h0
          have hp2 : ((pb.length : Int) == 0) = false := by rw [beq_eq_false_iff_ne]; omega
          have HT2 : Hid (t = (alikeN pa pb == pb.length)) := by have := HT.out; unfold inParts at this; rw [if_neg h0] at this; exact this
          clear HT
          go_wp2_with fail
          have r3 := row_alloc (row_alloc hrow3 (.cells #[.bool ra, .slice a3 pa.length c3] 43)) (.cells #[.bool ra, .slice a4 pb.length c4] 43)
          have r4 := row_alloc (row_alloc hrow4 (.cells #[.bool ra, .slice a3 pa.length c3] 43)) (.cells #[.bool ra, .slice a4 pb.length c4] 43)
          have hW : Below w.heap.size w ((w4.alloc (.cells #[.bool ra, .slice a3 pa.length c3] 43)).alloc (.cells #[.bool ra, .slice a4 pb.length c4] 43)) := (hall.alloc hall.size _).alloc (by simp; have := hall.size; omega) _
          have s0 : ((w4.alloc (.cells #[.bool ra, .slice a3 pa.length c3] 43)).alloc (.cells #[.bool ra, .slice a4 pb.length c4] 43)).cell? ⟨w4.heap.size, 0, none⟩ = some (.bool ra) := by simp
          have s1 : ((w4.alloc (.cells #[.bool ra, .slice a3 pa.length c3] 43)).alloc (.cells #[.bool ra, .slice a4 pb.length c4] 43)).cell? ⟨w4.heap.size, 1, none⟩ = some (.slice a3 pa.length c3) := by simp
          have s2 : ((w4.alloc (.cells #[.bool ra, .slice a3 pa.length c3] 43)).alloc (.cells #[.bool ra, .slice a4 pb.length c4] 43)).cell? ⟨w4.heap.size + 1, 0, none⟩ = some (.bool ra) := by simp
          have s3 : ((w4.alloc (.cells #[.bool ra, .slice a3 pa.length c3] 43)).alloc (.cells #[.bool ra, .slice a4 pb.length c4] 43)).cell? ⟨w4.heap.size + 1, 1, none⟩ = some (.slice a4 pb.length c4) := by simp
          have hz : w4.heap.size + 1 < ((w4.alloc (.cells #[.bool ra, .slice a3 pa.length c3] 43)).alloc (.cells #[.bool ra, .slice a4 pb.length c4] 43)).heap.size := by simp
          generalize (w4.alloc (.cells #[.bool ra, .slice a3 pa.length c3] 43)).alloc (.cells #[.bool ra, .slice a4 pb.length c4] 43) = W at r3 r4 hW s0 s1 s2 s3 hz ⊢
          have R3 := Lib.hid r3
          have R4 := Lib.hid r4
          have HW := Lib.hid hW
          clear r3 r4 hW hrow3 hrow4 hall
          go_region_held3 (fun w' => w'.cell? ⟨w4.heap.size, 0, none⟩ = some (.bool ra) ∧ w'.cell? ⟨w4.heap.size, 1, none⟩ = some (.slice a3 pa.length c3) ∧ w'.cell? ⟨w4.heap.size + 1, 0, none⟩ = some (.bool ra) ∧ w'.cell? ⟨w4.heap.size + 1, 1, none⟩ = some (.slice a4 pb.length c4)) (first | exact ⟨s0, s1, s2, s3⟩ | exact ⟨k0, k1, k2, k3⟩)
            (first | (go_at_call 38; refine (partsAlike_any pa pb _ _ _ _ _ (by exact R3.out) (by exact R4.out) (by omega) (by omega)).mono ?_; rintro e w5 ⟨rfl, hb5⟩; have k0 := (hb5.cell (p := ⟨w4.heap.size, 0, none⟩) (by show w4.heap.size < W.heap.size; omega)).trans s0; have k1 := (hb5.cell (p := ⟨w4.heap.size, 1, none⟩) (by show w4.heap.size < W.heap.size; omega)).trans s1; have k2 := (hb5.cell (p := ⟨w4.heap.size + 1, 0, none⟩) hz).trans s2; have k3 := (hb5.cell (p := ⟨w4.heap.size + 1, 1, none⟩) hz).trans s3))
          go_wp2
          go_ret2
          exact ⟨by rw [HT2.out, cast_beq] <;> rfl, bthen (Below.drew HW.out) hb5⟩
      · have HT := Lib.hid (HAP.out hr)
        have hr1 : (ra == rb) = false := by simpa using hr
        have hr2 : (ra != rb) = true := by simpa using hr
        clear HIN HAP
        go_wp2_with fail
        go_ret2
        exact ⟨by rw [HT.out] <;> rfl, (hall.alloc hall.size _).alloc (by simp; have := hall.size; omega) _⟩

set_option maxHeartbeats 2000000 in
theorem specIn_l (a b : List UInt8) (w : World) (ha : a.length ≤ maxLen) (hb : b.length ≤ maxLen) :
    Calls Tryd.prog 30 #[.string ⟨a.toArray⟩, .string ⟨b.toArray⟩] w (BothPost (inT a b) (inB a b) w) := by
  rcases hpa : pathL a with _ | _
  · have hj : inB a b = false := by simp [inB, hpa]
    rw [in_no hj, hj]
    have HA := Lib.hid hpa
    clear hpa hj
    go_enter Tryd.func30, Tryd.ntmps30
    go_wp2_with fail
    refine (l1Path_l a _ ha HA).mono ?_
    rintro e w' ⟨rfl, rfl⟩
    go_wp2_with fail
    go_ret2
    exact ⟨rfl, Below.refl _ _⟩
  · rcases hpb : pathL b with _ | _
    · have hj : inB a b = false := by simp [inB, hpb]
      rw [in_no hj, hj]
      have HA := Lib.hid hpa
      have HB := Lib.hid hpb
      clear hpa hpb hj
      go_enter Tryd.func30, Tryd.ntmps30
      go_wp2_with fail
      refine (l1Path_l a _ ha HA).mono ?_
      rintro e w' ⟨rfl, rfl⟩
      go_wp2_with fail
      refine (l1Path_l b _ hb HB).mono ?_
      rintro e w' ⟨rfl, rfl⟩
      go_wp2_with fail
      go_ret2
      exact ⟨rfl, Below.refl _ _⟩
    · have hla := path_len hpa
      have hlb := path_len hpb
      have hwa := weigh_l a
      have hwb := weigh_l b
      have hna := len_weigh (partsL a)
      have hnb := len_weigh (partsL b)
      have hj : inB a b = true := by simp [inB, hpa, hpb]
      have hin := in_yes hj
      have hap := in_apart (a := a) (b := b)
      rw [hj]
      have HA := Lib.hid hpa
      have HB := Lib.hid hpb
      generalize inT a b = t at hin hap
      have HIN := Lib.hid hin
      have HAP := Lib.hid hap
      clear hpa hpb hj hin hap
      go_enter Tryd.func30, Tryd.ntmps30
      go_wp2_with fail
      refine (l1Path_l a _ ha HA).mono ?_
      rintro e w' ⟨rfl, rfl⟩
      go_wp2_with fail
      refine (l1Path_l b _ hb HB).mono ?_
      rintro e w' ⟨rfl, rfl⟩
      go_wp2_with fail
      refine (l1Parts_l a _ (by omega)).mono ?_
      rintro e w3 ⟨v3, rfl, hown3, hb3⟩
      go_wp2_with fail
      refine (l1Parts_l b _ (by omega)).mono ?_
      rintro e w4 ⟨v4, rfl, hown4, hb4⟩
      have hall := bthen hb3 hb4
      have hrow3 := row_below (row_own hown3) hb4
      have hrow4 := row_own hown4
      clear hown3 hown4 hb3 hb4
      go_wp2_with fail
      refine (l1Rooted_l a _ ha).mono ?_
      rintro e w' ⟨rfl, rfl⟩
      go_wp2_with fail
      refine (l1Rooted_l b _ hb).mono ?_
      rintro e w' ⟨rfl, rfl⟩
      generalize partsL a = pa at hrow3 HIN hwa hna
      generalize partsL b = pb at hrow4 HIN hwb hnb
      generalize rootedL a = ra at HIN HAP
      generalize rootedL b = rb at HIN HAP
      obtain ⟨a3, c3, rfl, hat3⟩ := hrow3
      obtain ⟨a4, c4, rfl, hat4⟩ := hrow4
      have HA3 := Lib.hid hat3
      have HA4 := Lib.hid hat4
      clear hat3 hat4
      by_cases hr : ra = rb
      · have HT := Lib.hid (HIN.out hr)
        subst hr
        clear HIN HAP
        by_cases hsh : pa.length < pb.length
        · have HF := Lib.hid (parts_short hsh)
          go_wp2_with fail
          go_ret2
          exact ⟨by rw [HT.out, HF.out] <;> rfl, hall⟩
        · go_wp2_with fail
          go_loopw [35] (fun i wr => ∃ (k j : Nat), k ≤ pb.length ∧ i = .int .i64 k ∧ Hid (pa.take k = pb.take k) ∧ wr = w4.drewN j) (fun i _ => pb.length - (intOf i).toNat)
          case atStart => exact ⟨0, 0, Nat.zero_le _, rfl, rfl, rfl⟩
          case round =>
            obtain ⟨k, j, hk, rfl, HK, rfl⟩ := hrel
            by_cases h2 : k < pb.length
            · have h1 : k < pa.length := by omega
              obtain ⟨g, o, rfl, hg, hc⟩ := HA3.out k h1
              obtain ⟨g', o', rfl, hg', hc'⟩ := HA4.out k h2
              by_cases he : pa[k] = pb[k]
              · have HN := Lib.hid (take_next HK.out h1 h2 he)
                rw [← he] at hc'
                clear HK he
                generalize pa[k] = p at hc hc'
                go_wp2
                go_quiet (fail)
                go_wp2
                go_roundw
                case rel => exact ⟨k + 1, _, by omega, by go_num, HN.out, rfl⟩
                case measure => simp [intOf]; omega
              · have HF := Lib.hid (parts_unlike HK.out h1 h2 he)
                have he1 : (pa[k] == pb[k]) = false := by simpa using he
                clear HK
                generalize pa[k] = p at hc he he1
                generalize pb[k] = q at hc' he he1
                go_wp2
                go_quiet (fail)
                go_wp2
                go_ret2
                exact ⟨by rw [HT.out, HF.out] <;> rfl, below_drewN (below_drewN hall _) _⟩
            · obtain rfl : k = pb.length := by omega
              rcases pb with _ | ⟨q, u⟩
              · rw [parts_none] at HT
                rcases pa with _ | ⟨p, v⟩
                · go_wp2
                  go_ret2
                  exact ⟨by rw [HT.out] <;> rfl, below_drewN hall _⟩
                · obtain ⟨g, o, rfl, hg, hc⟩ := HA3.out 0 (by simp)
                  rw [Nat.add_zero, List.getElem_cons_zero] at hc
                  have HU : Hid (upsL (p :: v) = (p == [46, 46])) := rfl
                  rw [List.length_cons] at hna
                  clear HK
                  go_wp2
                  go_ret2
                  exact ⟨by rw [HT.out, HU.out] <;> rfl, below_drewN hall _⟩
              · have HF := Lib.hid (parts_all HK.out (by omega) (by simp))
                clear HK
                go_wp2
                go_ret2
                exact ⟨by rw [HT.out, HF.out] <;> rfl, below_drewN hall _⟩
      · have HT := Lib.hid (HAP.out hr)
        have hr1 : (ra == rb) = false := by simpa using hr
        have hr2 : (ra != rb) = true := by simpa using hr
        clear HIN HAP
        go_wp2_with fail
        go_ret2
        exact ⟨by rw [HT.out] <;> rfl, hall⟩

set_option maxHeartbeats 1000000 in
theorem exactIn_l (a b : List UInt8) (m : Int) (w : World) (ha : a.length ≤ maxLen) (hb : b.length ≤ maxLen) (hm : w.cell? ⟨0, 0, none⟩ = some (.int .i64 m)) :
    Calls Tryd.prog 10 #[.string ⟨a.toArray⟩, .string ⟨b.toArray⟩] w (YesPost w) := by
  by_cases hbig : 1048576 < a.length
  · unfold maxLen at ha hb
    go_enter Tryd.func10, Tryd.ntmps10
    go_wp2_with fail
    go_ret
    exact ⟨rfl, Below.refl _ _⟩
  · by_cases hbig2 : 1048576 < b.length
    · unfold maxLen at ha hb
      go_enter Tryd.func10, Tryd.ntmps10
      go_wp2_with fail
      go_ret
      exact ⟨rfl, Below.refl _ _⟩
    · have c1 := specIn_l a b w ha hb
      have c2 := fun w' hw => implIn_l a b m w' ha hb (keep_max (w' := w') hm hw)
      generalize inT a b = t at c1 c2
      generalize inB a b = k at c1 c2
      have C1 := Lib.hid c1
      have C2 := Lib.hid c2
      clear c1 c2
      unfold maxLen at ha hb
      go_enter Tryd.func10, Tryd.ntmps10
      go_wp2_with fail
      refine C1.out.mono ?_
      rintro e w1 ⟨rfl, hb1⟩
      go_wp2_with fail
      refine (C2.out w1 hb1).mono ?_
      rintro e w2 ⟨rfl, hb2⟩
      go_wp2_with fail
      go_ret
      exact ⟨rfl, bthen hb1 hb2⟩
theorem exactIn_any (s t : ByteArray) (m : Int) (w : World) (hs : s.size ≤ maxLen) (ht : t.size ≤ maxLen) (hm : w.cell? ⟨0, 0, none⟩ = some (.int .i64 m)) :
    Calls Tryd.prog 10 #[.string s, .string t] w (YesPost w) := exactIn_l s.data.toList t.data.toList m w (by rw [len_eq]; exact hs) (by rw [len_eq]; exact ht) hm

end Go.Proofs.YtkdplfmfmalllaaDoor
