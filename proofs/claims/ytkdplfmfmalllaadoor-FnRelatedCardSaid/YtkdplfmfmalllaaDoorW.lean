/- Walks: the way from one path to another; the reference's, and the law. -/
import Derived.Test.YtkdplfmfmalllaaDoorV
namespace Go.Proofs.YtkdplfmfmalllaaDoor
open Go.RowKit Pth

theorem own_rep {w : World} {B q : Nat} {v : Value} (h : w.ownsRow B 9 1 v q (S (List.replicate q dots))) : w.ownsRow B 9 1 v (List.replicate q dots).length (S (List.replicate q dots)) := by
  rw [List.length_replicate]; exact h

set_option maxHeartbeats 4000000 in
theorem specRel_l (a b : List UInt8) (w : World) (ha : a.length ≤ maxLen) (hb : b.length ≤ maxLen) :
    Calls Tryd.prog 26 #[.string ⟨a.toArray⟩, .string ⟨b.toArray⟩] w (TwoPost (relT a b) (relB a b) w) := by
  rcases hpa : pathL a with _ | _
  · have hj : relB a b = false := by simp [relB, hpa]
    rw [rel_no hj, hj]
    have HA := Lib.hid hpa
    clear hpa hj
    go_enter Tryd.func26, Tryd.ntmps26
    go_wp2_with fail
    refine (l1Path_l a _ ha HA).mono ?_
    rintro e w' ⟨rfl, rfl⟩
    go_wp2_with fail
    go_ret2
    exact ⟨rfl, Below.refl _ _⟩
  · rcases hpb : pathL b with _ | _
    · have hj : relB a b = false := by simp [relB, hpb]
      rw [rel_no hj, hj]
      have HA := Lib.hid hpa
      have HB := Lib.hid hpb
      clear hpa hpb hj
      go_enter Tryd.func26, Tryd.ntmps26
      go_wp2_with fail
      refine (l1Path_l a _ ha HA).mono ?_
      rintro e w' ⟨rfl, rfl⟩
      go_wp2_with fail
      refine (l1Path_l b _ hb HB).mono ?_
      rintro e w' ⟨rfl, rfl⟩
      go_wp2_with fail
      go_ret2
      exact ⟨rfl, Below.refl _ _⟩
    · have hla := path_len hpa
      have hlb := path_len hpb
      have hwa := weigh_l a
      have hwb := weigh_l b
      have hna := len_weigh (partsL a)
      have hnb := len_weigh (partsL b)
      have hj : relB a b = ((rootedL a == rootedL b) && !upsL (partsL a) && !upsL (partsL b) && decide ((relText a b).length ≤ 60)) := by simp [relB, hpa, hpb]
      have hn := rel_no (a := a) (b := b)
      have hy := rel_yes (a := a) (b := b)
      have HA := Lib.hid hpa
      have HB := Lib.hid hpb
      unfold relText at hj hy
      generalize relT a b = t at hn hy
      generalize relB a b = bo at hj hn hy
      have HJ := Lib.hid hj
      have HN := Lib.hid hn
      have HY := Lib.hid hy
      clear hpa hpb hj hn hy
      go_enter Tryd.func26, Tryd.ntmps26
      go_wp2_with fail
      refine (l1Path_l a _ ha HA).mono ?_
      rintro e w' ⟨rfl, rfl⟩
      go_wp2_with fail
      refine (l1Path_l b _ hb HB).mono ?_
      rintro e w' ⟨rfl, rfl⟩
      go_wp2_with fail
      refine (l1Rooted_l a _ ha).mono ?_
      rintro e w' ⟨rfl, rfl⟩
      go_wp2_with fail
      refine (l1Rooted_l b _ hb).mono ?_
      rintro e w' ⟨rfl, rfl⟩
      by_cases hr : rootedL a = rootedL b
      · have hr0 : (rootedL a == rootedL b) = true := by simpa using hr
        rw [hr0] at HJ
        rw [hr]
        clear hr hr0
        go_wp2_with fail
        refine (l1Parts_l a _ (by omega)).mono ?_
        rintro e w3 ⟨v3, rfl, hown3, hb3⟩
        go_wp2_with fail
        refine (l1Parts_l b _ (by omega)).mono ?_
        rintro e w4 ⟨v4, rfl, hown4, hb4⟩
        have hall := bthen hb3 hb4
        have hrow3 := row_below (row_own hown3) hb4
        have hrow4 := row_own hown4
        generalize partsL a = pa at hrow3 HJ HY hwa hna hown3
        generalize partsL b = pb at hrow4 HJ HY hwb hnb hown4
        obtain ⟨a3, c3, rfl, hc3, hm3⟩ := own_cap hown3
        obtain ⟨a4, c4, rfl, hc4, hm4⟩ := own_cap hown4
        unfold maxLen at hm3 hm4
        clear hown3 hown4 hb3 hb4
        have R3 := Lib.hid hrow3
        have R4 := Lib.hid hrow4
        have HW := Lib.hid hall
        clear hrow3 hrow4 hall
        go_wp2_with fail
        refine (l1Ups_any pa _ _ R3.out (by omega)).mono ?_
        rintro e w' ⟨rfl, rfl⟩
        rcases hua : upsL pa with _ | _
        · rw [hua] at HJ
          clear hua
          go_wp2_with fail
          refine (l1Ups_any pb _ _ R4.out (by omega)).mono ?_
          rintro e w' ⟨rfl, rfl⟩
          rcases hub : upsL pb with _ | _
          · rw [hub] at HJ
            clear hub
            obtain ⟨a3', c3', hv3, hat3⟩ := R3.out
            obtain ⟨a4', c4', hv4, hat4⟩ := R4.out
            injection hv3 with hv3 _ hc33
            injection hv4 with hv4 _ hc44
            subst hv3 hv4 hc33 hc44
            have HA3 := Lib.hid hat3
            have HA4 := Lib.hid hat4
            clear hat3 hat4
            have CA : Hid (∀ k, k ≤ pa.length → ∃ A, ∀ W, (Instr.slice 41 (.slice a3 pa.length c3) (some (.int .i64 (k : Int))) none none).run Tryd.prog W = .ok (.slice A (pa.length - k) (c3 - k)) W) :=
              fun k hk => ⟨_, fun W => run_cut a3 pa.length c3 k hk hc3 W⟩
            have CB : Hid (∀ k, k ≤ pb.length → ∃ A, (∀ W, (Instr.slice 41 (.slice a4 pb.length c4) (some (.int .i64 (k : Int))) none none).run Tryd.prog W = .ok (.slice A (pb.length - k) (c4 - k)) W) ∧ RowAt w4 (.slice A (pb.length - k) (c4 - k)) (pb.drop k)) :=
              fun k hk => ⟨_, fun W => run_cut a4 pb.length c4 k hk hc4 W, row_cut R4.out k hk hc4⟩
            go_wp2_with fail
            go_loopw [8] (fun n wr => ∃ (k j : Nat), k ≤ pa.length ∧ k ≤ pb.length ∧ n = .int .i64 k ∧ Hid (pa.take k = pb.take k) ∧ wr = w4.drewN j) (fun n _ => pa.length - (intOf n).toNat)
            case atStart => exact ⟨0, 0, Nat.zero_le _, Nat.zero_le _, rfl, rfl, rfl⟩
            case round =>
              obtain ⟨k, j, hka, hkb, rfl, HT, rfl⟩ := hrel
              by_cases h1 : k < pa.length
              · have g1 : decide ((k : Int) < (pa.length : Int)) = true := by simpa using h1
                by_cases h2 : k < pb.length
                · have g2 : decide ((k : Int) < (pb.length : Int)) = true := by simpa using h2
                  obtain ⟨g, o, rfl, hg, hc⟩ := HA3.out k h1
                  obtain ⟨g', o', rfl, hg', hc'⟩ := HA4.out k h2
                  by_cases he : pa[k] = pb[k]
                  · have HN1 := Lib.hid (take_next HT.out h1 h2 he)
                    rw [← he] at hc'
                    clear HT he
                    generalize pa[k] = p at hc hc'
                    go_wp2
                    go_quiet (fail)
                    go_wp2
                    go_roundw
                    case rel => exact ⟨k + 1, _, by omega, by omega, by go_num, HN1.out, rfl⟩
                    case measure => simp [intOf]; omega
                  · have HE : Hid (alikeN pa pb = k) := alike_stop HT.out hka hkb (.inr (.inr ⟨h1, h2, he⟩))
                    have he1 : (pa[k] == pb[k]) = false := by simpa using he
                    clear HT HA3 HA4
                    generalize pa[k] = p at hc he he1
                    generalize pb[k] = q at hc' he he1
                    go_wp2
                    go_quiet (fail)
                    clear hc hc' he he1 hg hg' h1 h2 g1 g2
                    obtain ⟨A1, cut1⟩ := CA.out k hka
                    obtain ⟨A2, cut2, hrow2⟩ := CB.out k hkb
                    have HW6 : Hid (Below w.heap.size w (w4.drewN (j + nq))) := below_drewN HW.out _
                    have HR6 : Hid (RowAt (w4.drewN (j + nq)) (.slice A2 (pb.length - k) (c4 - k)) (pb.drop k)) := hrow2
                    have hwy := weigh_way pa pb
                    have hjl := join_len (wayL pa pb) false
                    have HL : Hid (wayL pa pb = List.replicate (pa.length - k) dots ++ pb.drop k) := by have := HE.out; show wayL pa pb = _; unfold wayL; rw [this]
                    clear hrow2 CA CB HW R3 R4 HE
                    obtain ⟨n, HNn⟩ : ∃ n, Hid (pa.length - k = n) := ⟨_, rfl⟩
                    have hnn : n ≤ 1000 := by have := HNn.out; omega
                    obtain ⟨l2, hl2⟩ : ∃ l2, Hid (pb.drop k = l2) := ⟨_, rfl⟩
                    have hln : pb.length - k = l2.length := by rw [← hl2.out, List.length_drop]
                    have hl2n : l2.length ≤ 1000 := by omega
                    rw [HNn.out] at cut1 HL
                    rw [hl2.out] at HL HR6
                    rw [hln] at cut2 HR6
                    clear hln hl2 HNn
                    go_wp2_with fail
                    generalize w4.drewN (j + nq) = w6 at HW6 HR6
                    clear cut1
                    go_loopw [9, 63] (fun v i wr => ∃ q : Nat, q ≤ n ∧ i = .int .i64 q ∧ wr.ownsRow w6.heap.size 9 1 v q (S (List.replicate q dots)) ∧ Below w6.heap.size w6 wr) (fun _ i _ => n - (intOf i).toNat)
                    case atStart => exact ⟨0, Nat.zero_le _, rfl, World.ownsRow_nil _ _ _ _, Below.refl _ _⟩
                    case round =>
                      obtain ⟨q, hq, rfl, hown, hbw⟩ := hrel
                      have hsz := hbw.size
                      have hown' := own_rep hown
                      by_cases hlt : q < n
                      · go_wp2_with (at_builtin; refine wpApp rfl _ _ rfl w6.heap.size _ (List.replicate q dots) dots rfl rfl hown' _ rfl rfl (by rw [List.length_replicate]; omega) hsz ?_; intro v' w2 hown2 hb2 hg2)
                        go_roundw
                        case rel => exact ⟨q + 1, by omega, by go_num, by simpa [List.replicate_succ'] using hown2, hbw.trans hb2⟩
                        case measure => simp [intOf]; omega
                      · obtain rfl : q = n := by omega
                        have hrw := row_below HR6.out hbw
                        go_wp2_with (at_builtin; refine wpAppRow rfl _ _ rfl w6.heap.size _ (List.replicate q dots) l2 A2 (c4 - k) rfl hown' rfl hrw (by rw [List.length_replicate]; omega) hsz ?_)
                        intro v' w2 hown2 hg2
                        have hb2 : Below w.heap.size w w2 := bthen HW6.out ((hbw).trans ((Below.refl _ _).grown hg2 hsz (fun i hi => (hown.lt i hi).1)))
                        rw [← HL.out] at hown2
                        have hlw := len_weigh (wayL pa pb)
                        generalize wayL pa pb = L at HJ HY HL hwy hjl hown2 hlw
                        have hLl : q + l2.length = L.length := by rw [HL.out]; simp
                        rw [hLl] at hown2
                        clear hrw cut2 HR6 hLl
                        go_wp2_with fail
                        refine (l1Join_any L false _ _ _ hown2 (by omega) (by omega)).mono ?_
                        rintro e w' ⟨rfl, rfl⟩
                        generalize joinL L false = T at HJ HY hjl
                        by_cases hc : T.length ≤ 60
                        · have hbt : bo = true := by rw [HJ.out]; simp [hc]
                          have HT := Lib.hid (HY.out hbt)
                          subst hbt
                          clear HJ HN HY
                          go_wp2_with fail
                          go_ret2
                          exact ⟨by rw [HT.out] <;> rfl, hb2⟩
                        · have hbt : bo = false := by rw [HJ.out]; simp [hc]
                          have HT := Lib.hid (HN.out hbt)
                          subst hbt
                          clear HJ HN HY
                          go_wp2_with fail
                          go_ret2
                          exact ⟨by rw [HT.out] <;> rfl, hb2⟩
                · have g2 : decide ((k : Int) < (pb.length : Int)) = false := by simpa using h2
                  have HE : Hid (alikeN pa pb = k) := alike_stop HT.out hka hkb (.inr (.inl (by omega)))
                  clear HT HA3 HA4
                  go_wp2
                  go_quiet (fail)
                  clear h1 h2 g1 g2
                  obtain ⟨A1, cut1⟩ := CA.out k hka
                  obtain ⟨A2, cut2, hrow2⟩ := CB.out k hkb
                  have HW6 : Hid (Below w.heap.size w (w4.drewN (j + nq))) := below_drewN HW.out _
                  have HR6 : Hid (RowAt (w4.drewN (j + nq)) (.slice A2 (pb.length - k) (c4 - k)) (pb.drop k)) := hrow2
                  have hwy := weigh_way pa pb
                  have hjl := join_len (wayL pa pb) false
                  have HL : Hid (wayL pa pb = List.replicate (pa.length - k) dots ++ pb.drop k) := by have := HE.out; show wayL pa pb = _; unfold wayL; rw [this]
                  clear hrow2 CA CB HW R3 R4 HE
                  obtain ⟨n, HNn⟩ : ∃ n, Hid (pa.length - k = n) := ⟨_, rfl⟩
                  have hnn : n ≤ 1000 := by have := HNn.out; omega
                  obtain ⟨l2, hl2⟩ : ∃ l2, Hid (pb.drop k = l2) := ⟨_, rfl⟩
                  have hln : pb.length - k = l2.length := by rw [← hl2.out, List.length_drop]
                  have hl2n : l2.length ≤ 1000 := by omega
                  rw [HNn.out] at cut1 HL
                  rw [hl2.out] at HL HR6
                  rw [hln] at cut2 HR6
                  clear hln hl2 HNn
                  go_wp2_with fail
                  generalize w4.drewN (j + nq) = w6 at HW6 HR6
                  clear cut1
                  go_loopw [9, 63] (fun v i wr => ∃ q : Nat, q ≤ n ∧ i = .int .i64 q ∧ wr.ownsRow w6.heap.size 9 1 v q (S (List.replicate q dots)) ∧ Below w6.heap.size w6 wr) (fun _ i _ => n - (intOf i).toNat)
                  case atStart => exact ⟨0, Nat.zero_le _, rfl, World.ownsRow_nil _ _ _ _, Below.refl _ _⟩
                  case round =>
                    obtain ⟨q, hq, rfl, hown, hbw⟩ := hrel
                    have hsz := hbw.size
                    have hown' := own_rep hown
                    by_cases hlt : q < n
                    · go_wp2_with (at_builtin; refine wpApp rfl _ _ rfl w6.heap.size _ (List.replicate q dots) dots rfl rfl hown' _ rfl rfl (by rw [List.length_replicate]; omega) hsz ?_; intro v' w2 hown2 hb2 hg2)
                      go_roundw
                      case rel => exact ⟨q + 1, by omega, by go_num, by simpa [List.replicate_succ'] using hown2, hbw.trans hb2⟩
                      case measure => simp [intOf]; omega
                    · obtain rfl : q = n := by omega
                      have hrw := row_below HR6.out hbw
                      go_wp2_with (at_builtin; refine wpAppRow rfl _ _ rfl w6.heap.size _ (List.replicate q dots) l2 A2 (c4 - k) rfl hown' rfl hrw (by rw [List.length_replicate]; omega) hsz ?_)
                      intro v' w2 hown2 hg2
                      have hb2 : Below w.heap.size w w2 := bthen HW6.out ((hbw).trans ((Below.refl _ _).grown hg2 hsz (fun i hi => (hown.lt i hi).1)))
                      rw [← HL.out] at hown2
                      have hlw := len_weigh (wayL pa pb)
                      generalize wayL pa pb = L at HJ HY HL hwy hjl hown2 hlw
                      have hLl : q + l2.length = L.length := by rw [HL.out]; simp
                      rw [hLl] at hown2
                      clear hrw cut2 HR6 hLl
                      go_wp2_with fail
                      refine (l1Join_any L false _ _ _ hown2 (by omega) (by omega)).mono ?_
                      rintro e w' ⟨rfl, rfl⟩
                      generalize joinL L false = T at HJ HY hjl
                      by_cases hc : T.length ≤ 60
                      · have hbt : bo = true := by rw [HJ.out]; simp [hc]
                        have HT := Lib.hid (HY.out hbt)
                        subst hbt
                        clear HJ HN HY
                        go_wp2_with fail
                        go_ret2
                        exact ⟨by rw [HT.out] <;> rfl, hb2⟩
                      · have hbt : bo = false := by rw [HJ.out]; simp [hc]
                        have HT := Lib.hid (HN.out hbt)
                        subst hbt
                        clear HJ HN HY
                        go_wp2_with fail
                        go_ret2
                        exact ⟨by rw [HT.out] <;> rfl, hb2⟩
              · have g1 : decide ((k : Int) < (pa.length : Int)) = false := by simpa using h1
                have HE : Hid (alikeN pa pb = k) := alike_stop HT.out hka hkb (.inl (by omega))
                clear HT HA3 HA4
                go_wp2
                go_quiet (fail)
                clear h1 g1
                obtain ⟨A1, cut1⟩ := CA.out k hka
                obtain ⟨A2, cut2, hrow2⟩ := CB.out k hkb
                have HW6 : Hid (Below w.heap.size w (w4.drewN (j + nq))) := below_drewN HW.out _
                have HR6 : Hid (RowAt (w4.drewN (j + nq)) (.slice A2 (pb.length - k) (c4 - k)) (pb.drop k)) := hrow2
                have hwy := weigh_way pa pb
                have hjl := join_len (wayL pa pb) false
                have HL : Hid (wayL pa pb = List.replicate (pa.length - k) dots ++ pb.drop k) := by have := HE.out; show wayL pa pb = _; unfold wayL; rw [this]
                clear hrow2 CA CB HW R3 R4 HE
                obtain ⟨n, HNn⟩ : ∃ n, Hid (pa.length - k = n) := ⟨_, rfl⟩
                have hnn : n ≤ 1000 := by have := HNn.out; omega
                obtain ⟨l2, hl2⟩ : ∃ l2, Hid (pb.drop k = l2) := ⟨_, rfl⟩
                have hln : pb.length - k = l2.length := by rw [← hl2.out, List.length_drop]
                have hl2n : l2.length ≤ 1000 := by omega
                rw [HNn.out] at cut1 HL
                rw [hl2.out] at HL HR6
                rw [hln] at cut2 HR6
                clear hln hl2 HNn
                go_wp2_with fail
                generalize w4.drewN (j + nq) = w6 at HW6 HR6
                clear cut1
                go_loopw [9, 63] (fun v i wr => ∃ q : Nat, q ≤ n ∧ i = .int .i64 q ∧ wr.ownsRow w6.heap.size 9 1 v q (S (List.replicate q dots)) ∧ Below w6.heap.size w6 wr) (fun _ i _ => n - (intOf i).toNat)
                case atStart => exact ⟨0, Nat.zero_le _, rfl, World.ownsRow_nil _ _ _ _, Below.refl _ _⟩
                case round =>
                  obtain ⟨q, hq, rfl, hown, hbw⟩ := hrel
                  have hsz := hbw.size
                  have hown' := own_rep hown
                  by_cases hlt : q < n
                  · go_wp2_with (at_builtin; refine wpApp rfl _ _ rfl w6.heap.size _ (List.replicate q dots) dots rfl rfl hown' _ rfl rfl (by rw [List.length_replicate]; omega) hsz ?_; intro v' w2 hown2 hb2 hg2)
                    go_roundw
                    case rel => exact ⟨q + 1, by omega, by go_num, by simpa [List.replicate_succ'] using hown2, hbw.trans hb2⟩
                    case measure => simp [intOf]; omega
                  · obtain rfl : q = n := by omega
                    have hrw := row_below HR6.out hbw
                    go_wp2_with (at_builtin; refine wpAppRow rfl _ _ rfl w6.heap.size _ (List.replicate q dots) l2 A2 (c4 - k) rfl hown' rfl hrw (by rw [List.length_replicate]; omega) hsz ?_)
                    intro v' w2 hown2 hg2
                    have hb2 : Below w.heap.size w w2 := bthen HW6.out ((hbw).trans ((Below.refl _ _).grown hg2 hsz (fun i hi => (hown.lt i hi).1)))
                    rw [← HL.out] at hown2
                    have hlw := len_weigh (wayL pa pb)
                    generalize wayL pa pb = L at HJ HY HL hwy hjl hown2 hlw
                    have hLl : q + l2.length = L.length := by rw [HL.out]; simp
                    rw [hLl] at hown2
                    clear hrw cut2 HR6 hLl
                    go_wp2_with fail
                    refine (l1Join_any L false _ _ _ hown2 (by omega) (by omega)).mono ?_
                    rintro e w' ⟨rfl, rfl⟩
                    generalize joinL L false = T at HJ HY hjl
                    by_cases hc : T.length ≤ 60
                    · have hbt : bo = true := by rw [HJ.out]; simp [hc]
                      have HT := Lib.hid (HY.out hbt)
                      subst hbt
                      clear HJ HN HY
                      go_wp2_with fail
                      go_ret2
                      exact ⟨by rw [HT.out] <;> rfl, hb2⟩
                    · have hbt : bo = false := by rw [HJ.out]; simp [hc]
                      have HT := Lib.hid (HN.out hbt)
                      subst hbt
                      clear HJ HN HY
                      go_wp2_with fail
                      go_ret2
                      exact ⟨by rw [HT.out] <;> rfl, hb2⟩
          · have hbt : bo = false := by rw [HJ.out]; simp [hub]
            have HT := Lib.hid (HN.out hbt)
            subst hbt
            clear HJ HN HY
            go_wp2_with fail
            go_ret2
            exact ⟨by rw [HT.out] <;> rfl, HW.out⟩
        · have hbt : bo = false := by rw [HJ.out]; simp [hua]
          have HT := Lib.hid (HN.out hbt)
          subst hbt
          clear HJ HN HY
          go_wp2_with fail
          go_ret2
          exact ⟨by rw [HT.out] <;> rfl, HW.out⟩
      · have hbt : bo = false := by rw [HJ.out]; simp [hr]
        have HT := Lib.hid (HN.out hbt)
        have hr1 : (rootedL a == rootedL b) = false := by simpa using hr
        have hr2 : (rootedL a != rootedL b) = true := by simpa using hr
        subst hbt
        clear HJ HN HY
        go_wp2_with fail
        go_ret2
        exact ⟨by rw [HT.out] <;> rfl, Below.refl _ _⟩


set_option maxHeartbeats 1000000 in
theorem exactRel_l (a b : List UInt8) (m : Int) (w : World) (ha : a.length ≤ maxLen) (hb : b.length ≤ maxLen) (hm : w.cell? ⟨0, 0, none⟩ = some (.int .i64 m)) :
    Calls Tryd.prog 11 #[.string ⟨a.toArray⟩, .string ⟨b.toArray⟩] w (YesPost w) := by
  by_cases hbig : 1048576 < a.length
  · unfold maxLen at ha hb
    go_enter Tryd.func11, Tryd.ntmps11
    go_wp2_with fail
    go_ret
    exact ⟨rfl, Below.refl _ _⟩
  · by_cases hbig2 : 1048576 < b.length
    · unfold maxLen at ha hb
      go_enter Tryd.func11, Tryd.ntmps11
      go_wp2_with fail
      go_ret
      exact ⟨rfl, Below.refl _ _⟩
    · have c1 := specRel_l a b w ha hb
      have c2 := fun w' hw => implRel_l a b m w' ha hb (keep_max (w' := w') hm hw)
      generalize relT a b = t at c1 c2
      generalize relB a b = k at c1 c2
      have C1 := Lib.hid c1
      have C2 := Lib.hid c2
      clear c1 c2
      unfold maxLen at ha hb
      go_enter Tryd.func11, Tryd.ntmps11
      go_wp2_with fail
      refine C1.out.mono ?_
      rintro e w1 ⟨rfl, hb1⟩
      go_wp2_with fail
      refine (C2.out w1 hb1).mono ?_
      rintro e w2 ⟨rfl, hb2⟩
      go_wp2_with fail
      go_ret
      exact ⟨rfl, bthen hb1 hb2⟩
theorem exactRel_any (s t : ByteArray) (m : Int) (w : World) (hs : s.size ≤ maxLen) (ht : t.size ≤ maxLen) (hm : w.cell? ⟨0, 0, none⟩ = some (.int .i64 m)) :
    Calls Tryd.prog 11 #[.string s, .string t] w (YesPost w) := exactRel_l s.data.toList t.data.toList m w (by rw [len_eq]; exact hs) (by rw [len_eq]; exact ht) hm

end Go.Proofs.YtkdplfmfmalllaaDoor
