/- Texts of one claim, joined in their order. -/
import Derived.Test.YtgolhfmmlanmlaaGreatDoorM4
import Derived.Test.YtgolhfmmlanmlaaGreatDoorM1
import Derived.Test.YtgolhfmmlanmlaaGreatDoorM3

/- Walks: the program's deeds of a recipe, and whether it is good. -/
namespace Go.Proofs.YtgolhfmmlanmlaaGreatDoor
open Go.RowKit Pth

/-- Deeds and whether they stand are handed back, in memory of the call's own. -/
def DeedsPost (r : List OpT) (ok : Bool) (w : World) (e : Ending) (w' : World) : Prop :=
  ∃ v, e = .returned (.tuple #[v, .bool ok]) ∧ w'.ownsRow w.heap.size 186 1 v (if ok then r else []).length (DC (if ok then r else [])) ∧ Below w.heap.size w w'
theorem none_ownD (w : World) (B e : Nat) : w.ownsRow B e 1 (.slice none 0 0) 0 [] := ⟨rfl, .inl ⟨rfl, rfl⟩⟩
theorem DC_next {r : List OpT} {k : Nat} (hk : k < r.length) : DC (r.take (k + 1)) = DC (r.take k) ++ [deedV r[k]] := by
  rw [List.take_succ_eq_append_getElem hk]; unfold DC; rw [List.map_append]; rfl
theorem deedOf_b {o : OpT} {T : TypeId} {v : Value} (h : deedV o = .iface T v) (hk : knownB o = true) (w : World) : Calls Tryz.prog 153 #[opV o] w (DeedPost (.iface T v) true w) := by
  have := deedOf_any o w; rwa [h, hk] at this
theorem deedOf_n {o : OpT} (hk : knownB o = false) (w : World) : Calls Tryz.prog 153 #[opV o] w fun e w' => ∃ d, e = .returned (.tuple #[d, .bool false]) ∧ Below w.heap.size w w' := by
  have := deedOf_any o w
  rw [hk] at this
  exact this.mono fun e w' h => ⟨_, h⟩

theorem deeds_bad {r : List OpT} {ok : Bool} {w w' : World} (h : ok = false) (hb : Below w.heap.size w w') : DeedsPost r ok w (.returned (.tuple #[.slice none 0 0, .bool false])) w' := by
  subst h
  exact ⟨_, rfl, none_ownD _ _ _, hb⟩
theorem deeds_good {r : List OpT} {ok : Bool} {w w' : World} {v : Value} (h : ok = true) (hn : w'.ownsRow w.heap.size 186 1 v r.length (DC r)) (hb : Below w.heap.size w w') : DeedsPost r ok w (.returned (.tuple #[v, .bool true])) w' := by
  subst h
  exact ⟨_, rfl, hn, hb⟩

set_option maxRecDepth 20000 in
set_option maxHeartbeats 4000000 in
theorem deedsOf_any (r : List OpT) (ins : Int) (v : Value) (w : World) (hrow : RowO w v r) :
    Calls Tryz.prog 137 #[v, .int .i64 ins] w (DeedsPost r (goodR r ins) w) := by
  obtain ⟨a, cap, rfl, hc1, hc2, hat⟩ := hrow.ops
  clear hrow
  unfold maxLen at hc2
  by_cases h8 : 8 < r.length
  · rw [goodR_long h8]
    have hd : decide ((r.length : Int) > 8) = true := decide_eq_true (by omega)
    clear hat
    go_enter Tryz.func137, Tryz.ntmps137
    go_wp2_with fail
    go_ret2
    exact ⟨_, rfl, none_ownD _ _ _, Below.refl _ _⟩
  have hd : decide ((r.length : Int) > 8) = false := decide_eq_false (by omega)
  by_cases hi0 : 0 ≤ ins
  · have d1 : decide (ins < 0) = false := decide_eq_false (by omega)
    by_cases hi1 : ins ≤ 10
    · have d2 : decide (ins > 10) = false := decide_eq_false (by omega)
      go_enter Tryz.func137, Tryz.ntmps137
      go_wp2_with fail
      go_loopw [6, 24] (fun q i wr => ∃ k : Nat, k ≤ r.length ∧ i = .int .i64 k ∧ Hid (Below w.heap.size w wr) ∧ Hid ((r.take k).all (opOk ins) = true) ∧ Hid (wr.ownsRow w.heap.size 186 1 q (DC (r.take k)).length (DC (r.take k)))) (fun _ i _ => r.length - (intOf i).toNat)
      case atStart => exact ⟨0, Nat.zero_le _, rfl, Below.refl _ _, by simp [Hid], none_ownD _ _ _⟩
      case round =>
        obtain ⟨k, hk, rfl, HB, HO, HN⟩ := hrel
        have hbs := HB.out.size
        have hdl : (DC (r.take k)).length ≤ 8 := by rw [DC_len, List.length_take]; omega
        by_cases hlt : k < r.length
        · obtain ⟨g, o, rfl, hg, hcell1, hcell2, hcell3⟩ := hat k hlt
          have s1 := (HB.out.cell (p := ⟨g, o + k * 3, none⟩) hg).trans hcell1
          have s2 := (HB.out.cell (p := ⟨g, o + k * 3 + 1, none⟩) hg).trans hcell2
          have s3 := (HB.out.cell (p := ⟨g, o + k * 3 + 2, none⟩) hg).trans hcell3
          obtain ⟨wa, hwa⟩ : ∃ wa, wa = wr.alloc (.cells #[.int .i64 r[k].1, .int .i64 r[k].2.1, .string ⟨r[k].2.2.toArray⟩] 141) := ⟨_, rfl⟩
          have HBA : Hid (Below w.heap.size w wa) := by rw [hwa]; exact HB.out.alloc hbs _
          have HNA := Lib.hid (HN.out.alloc (.cells #[.int .i64 r[k].1, .int .i64 r[k].2.1, .string ⟨r[k].2.2.toArray⟩] 141))
          rw [← hwa] at HNA
          have hsz : wr.heap.size < wa.heap.size := by rw [hwa]; simp
          have p0 : wa.cell? ⟨wr.heap.size, 0, none⟩ = some (.int .i64 r[k].1) := by rw [hwa]; simp
          have p1 : wa.cell? ⟨wr.heap.size, 1, none⟩ = some (.int .i64 r[k].2.1) := by rw [hwa]; simp
          have p2 : wa.cell? ⟨wr.heap.size, 2, none⟩ = some (.string ⟨r[k].2.2.toArray⟩) := by rw [hwa]; simp
          have HWA := Lib.hid hwa
          have HIS := Lib.hid (opOk_is ins r[k])
          have HNX := Lib.hid (DC_next hlt)
          have HGB := Lib.hid (fun h => goodR_bad (ins := ins) hlt h)
          have HGG := Lib.hid (fun h => all_next hlt HO.out h)
          clear hcell1 hcell2 hcell3 hat HO HN hwa HB
          generalize r[k] = x at s1 s2 s3 HWA HIS HNX HGB HGG p0 p1 p2
          rcases hkn : knownB x with _ | _
          · have HC := Lib.hid (fun W => deedOf_n hkn W)
            have HG := Lib.hid (HGB.out (by rw [HIS.out, hkn]; rfl))
            clear HIS HNX HGB HGG hkn HNA
            obtain ⟨x1, x2, x3⟩ := x
            unfold opV at HC
            simp only at s1 s2 s3 HC HWA p0 p1 p2
            go_wp2_with fail
            rw [← HWA.out]
            refine (HC.out _).mono ?_
            rintro e w1 ⟨d, rfl, hb1⟩
            have HB1 := Lib.hid (HBA.out.trans (hb1.mono HBA.out.size))
            clear hb1 HC
            go_wp2_with fail
            go_quiet (fail)
            go_wp2_with fail
            go_ret2
            exact deeds_bad HG.out (below_drewN HB1.out _)
          · obtain ⟨T, dv, K, D⟩ := deed_at hkn
            have HC := Lib.hid (fun W => deedOf_b D.val hkn W)
            have hme := D.meth
            have hen := D.ent
            have HAS := Lib.hid D.told
            have HRG := Lib.hid (D.rng ins)
            have HV := Lib.hid D.val
            have hnq := fun W => neq_op (asO x) x W
            obtain ⟨b, hb⟩ : ∃ b, decide (asO x = x) = b := ⟨_, rfl⟩
            have HOK : Hid (opOk ins x = (b && rangeB ins x)) := by rw [HIS.out, hkn, hb]; rfl
            rw [hb] at hnq
            clear HIS hkn D hb
            generalize asO x = y at HAS hnq
            generalize rangeB ins x = rb at HRG HOK
            rcases b with _ | _
            · have HG := Lib.hid (HGB.out HOK.out)
              simp only [Bool.not_false] at hnq
              clear HOK HGB HGG HNX HRG HNA HV
              obtain ⟨x1, x2, x3⟩ := x
              obtain ⟨y1, y2, y3⟩ := y
              unfold opV at HC hnq
              unfold OpPost opV at HAS
              simp only at s1 s2 s3 HC HWA p0 p1 p2 HAS hnq
              go_wp2_with fail
              rw [← HWA.out]
              refine (HC.out _).mono ?_
              rintro e w1 ⟨rfl, hb1⟩
              have HB1 := Lib.hid (HBA.out.trans (hb1.mono HBA.out.size))
              have c0 := (hb1.cell (p := ⟨wr.heap.size, 0, none⟩) hsz).trans p0
              have c1 := (hb1.cell (p := ⟨wr.heap.size, 1, none⟩) hsz).trans p1
              have c2 := (hb1.cell (p := ⟨wr.heap.size, 2, none⟩) hsz).trans p2
              have hsz1 : wr.heap.size < w1.heap.size := Nat.lt_of_lt_of_le hsz hb1.size
              clear hb1 HC p0 p1 p2
              go_wp2_with fail
              refine wp_region_dia 3 _ _ _ rfl rfl rfl (by kernel_rfl) (by kernel_rfl) (by kernel_rfl) (by kernel_rfl) (by kernel_rfl) (by decide) ?_
              simp only [List.take_succ_cons, List.take_zero]
              go_wp2_with fail
              refine then_normal ⟨?_, ?_⟩
              · go_wp2_with fail
                refine then_normal ⟨?_, ?_⟩
                · go_wp2_with fail
                  refine (HAS.out _).mono ?_
                  rintro e w5 ⟨rfl, hb5⟩
                  have k0 := (hb5.cell (p := ⟨wr.heap.size, 0, none⟩) hsz1).trans c0
                  have k1 := (hb5.cell (p := ⟨wr.heap.size, 1, none⟩) hsz1).trans c1
                  have k2 := (hb5.cell (p := ⟨wr.heap.size, 2, none⟩) hsz1).trans c2
                  have HB5 := Lib.hid ((Below.drew HB1.out).trans (hb5.mono HB1.out.size))
                  clear hb5
                  go_wp2_with fail
                  refine then_normal ?_
                  unfold Quiets
                  simp only [List.drop_succ_cons, List.drop_zero]
                  repeat (go_big_quiet_step (fail))
                  refine wpQuiet_nil ?_
                  intro _ hw'
                  obtain ⟨nq, hw''⟩ := hw'
                  subst hw''
                  go_wp2_with fail
                  go_ret2
                  exact deeds_bad HG.out (below_drewN HB5.out nq)
                · go_wp2_with fail
                  refine (HAS.out _).mono ?_
                  rintro e w5 ⟨rfl, hb5⟩
                  have k0 := (hb5.cell (p := ⟨wr.heap.size, 0, none⟩) hsz1).trans c0
                  have k1 := (hb5.cell (p := ⟨wr.heap.size, 1, none⟩) hsz1).trans c1
                  have k2 := (hb5.cell (p := ⟨wr.heap.size, 2, none⟩) hsz1).trans c2
                  have HB5 := Lib.hid ((Below.drew HB1.out).trans (hb5.mono HB1.out.size))
                  clear hb5
                  go_wp2_with fail
                  refine then_normal ?_
                  unfold Quiets
                  simp only [List.drop_succ_cons, List.drop_zero]
                  repeat (go_big_quiet_step (fail))
                  refine wpQuiet_nil ?_
                  intro _ hw'
                  obtain ⟨nq, hw''⟩ := hw'
                  subst hw''
                  go_wp2_with fail
                  go_ret2
                  exact deeds_bad HG.out (below_drewN HB5.out nq)
              · go_wp2_with fail
                refine (HAS.out _).mono ?_
                rintro e w5 ⟨rfl, hb5⟩
                have k0 := (hb5.cell (p := ⟨wr.heap.size, 0, none⟩) hsz1).trans c0
                have k1 := (hb5.cell (p := ⟨wr.heap.size, 1, none⟩) hsz1).trans c1
                have k2 := (hb5.cell (p := ⟨wr.heap.size, 2, none⟩) hsz1).trans c2
                have HB5 := Lib.hid ((Below.drew HB1.out).trans (hb5.mono HB1.out.size))
                clear hb5
                go_wp2_with fail
                refine then_normal ?_
                unfold Quiets
                simp only [List.drop_succ_cons, List.drop_zero]
                repeat (go_big_quiet_step (fail))
                refine wpQuiet_nil ?_
                intro _ hw'
                obtain ⟨nq, hw''⟩ := hw'
                subst hw''
                go_wp2_with fail
                go_ret2
                exact deeds_bad HG.out (below_drewN HB5.out nq)
            · simp only [Bool.not_true] at hnq
              rcases rb with _ | _
              · have HG := Lib.hid (HGB.out HOK.out)
                clear HOK HGB HGG HNX HNA HV
                obtain ⟨x1, x2, x3⟩ := x
                obtain ⟨y1, y2, y3⟩ := y
                unfold opV at HC hnq
                unfold OpPost opV at HAS
                simp only at s1 s2 s3 HC HWA p0 p1 p2 HAS hnq
                go_wp2_with fail
                rw [← HWA.out]
                refine (HC.out _).mono ?_
                rintro e w1 ⟨rfl, hb1⟩
                have HB1 := Lib.hid (HBA.out.trans (hb1.mono HBA.out.size))
                have c0 := (hb1.cell (p := ⟨wr.heap.size, 0, none⟩) hsz).trans p0
                have c1 := (hb1.cell (p := ⟨wr.heap.size, 1, none⟩) hsz).trans p1
                have c2 := (hb1.cell (p := ⟨wr.heap.size, 2, none⟩) hsz).trans p2
                have hsz1 : wr.heap.size < w1.heap.size := Nat.lt_of_lt_of_le hsz hb1.size
                clear hb1 HC p0 p1 p2
                go_wp2_with fail
                go_region_held3 (fun w' => w'.cell? ⟨wr.heap.size, 0, none⟩ = some (.int .i64 x1) ∧ w'.cell? ⟨wr.heap.size, 1, none⟩ = some (.int .i64 x2) ∧ w'.cell? ⟨wr.heap.size, 2, none⟩ = some (.string ⟨x3.toArray⟩)) (first | exact ⟨c0, c1, c2⟩ | exact ks | exact kt)
                  (first | (go_at_call 154; refine (HRG.out _).mono ?_; rintro e w6 ⟨rfl, hb6⟩; have HB6 := Lib.hid (HB5.out.trans (hb6.mono HB5.out.size)); have kt := And.intro ((hb6.cell (p := ⟨wr.heap.size, 0, none⟩) (World.block_lt_of_cell? _ _ ks.1)).trans ks.1) (And.intro ((hb6.cell (p := ⟨wr.heap.size, 1, none⟩) (World.block_lt_of_cell? _ _ ks.2.1)).trans ks.2.1) ((hb6.cell (p := ⟨wr.heap.size, 2, none⟩) (World.block_lt_of_cell? _ _ ks.2.2)).trans ks.2.2)); clear hb6) | (refine (HAS.out _).mono ?_; rintro e w5 ⟨rfl, hb5⟩; have ks := And.intro ((hb5.cell (p := ⟨wr.heap.size, 0, none⟩) hsz1).trans c0) (And.intro ((hb5.cell (p := ⟨wr.heap.size, 1, none⟩) hsz1).trans c1) ((hb5.cell (p := ⟨wr.heap.size, 2, none⟩) hsz1).trans c2)); have HB5 := Lib.hid ((Below.drew HB1.out).trans (hb5.mono HB1.out.size)); clear hb5))
                all_goals
                  go_wp2_with fail
                  go_ret2
                  exact deeds_bad HG.out HB6.out
              · have HG := Lib.hid (HGG.out HOK.out)
                clear HOK HGB HGG
                obtain ⟨x1, x2, x3⟩ := x
                obtain ⟨y1, y2, y3⟩ := y
                rw [HV.out] at HNX
                clear HV
                unfold opV at HC hnq
                unfold OpPost opV at HAS
                simp only at s1 s2 s3 HC HWA p0 p1 p2 HAS hnq
                go_wp2_with fail
                rw [← HWA.out]
                refine (HC.out _).mono ?_
                rintro e w1 ⟨rfl, hb1⟩
                have HB1 := Lib.hid (HBA.out.trans (hb1.mono HBA.out.size))
                have HN1 := Lib.hid (own_below HNA.out hb1)
                have c0 := (hb1.cell (p := ⟨wr.heap.size, 0, none⟩) hsz).trans p0
                have c1 := (hb1.cell (p := ⟨wr.heap.size, 1, none⟩) hsz).trans p1
                have c2 := (hb1.cell (p := ⟨wr.heap.size, 2, none⟩) hsz).trans p2
                have hsz1 : wr.heap.size < w1.heap.size := Nat.lt_of_lt_of_le hsz hb1.size
                clear hb1 HC p0 p1 p2 HNA
                go_wp2_with fail
                go_region_held3 (fun w' => w'.cell? ⟨wr.heap.size, 0, none⟩ = some (.int .i64 x1) ∧ w'.cell? ⟨wr.heap.size, 1, none⟩ = some (.int .i64 x2) ∧ w'.cell? ⟨wr.heap.size, 2, none⟩ = some (.string ⟨x3.toArray⟩)) (first | exact ⟨c0, c1, c2⟩ | exact ks | exact kt)
                  (first | (go_at_call 154; refine (HRG.out _).mono ?_; rintro e w6 ⟨rfl, hb6⟩; have HB6 := Lib.hid (HB5.out.trans (hb6.mono HB5.out.size)); have HN6 := Lib.hid (own_below HN5.out hb6); have kt := And.intro ((hb6.cell (p := ⟨wr.heap.size, 0, none⟩) (World.block_lt_of_cell? _ _ ks.1)).trans ks.1) (And.intro ((hb6.cell (p := ⟨wr.heap.size, 1, none⟩) (World.block_lt_of_cell? _ _ ks.2.1)).trans ks.2.1) ((hb6.cell (p := ⟨wr.heap.size, 2, none⟩) (World.block_lt_of_cell? _ _ ks.2.2)).trans ks.2.2)); clear hb6) | (refine (HAS.out _).mono ?_; rintro e w5 ⟨rfl, hb5⟩; have ks := And.intro ((hb5.cell (p := ⟨wr.heap.size, 0, none⟩) hsz1).trans c0) (And.intro ((hb5.cell (p := ⟨wr.heap.size, 1, none⟩) hsz1).trans c1) ((hb5.cell (p := ⟨wr.heap.size, 2, none⟩) hsz1).trans c2)); have HB5 := Lib.hid ((Below.drew HB1.out).trans (hb5.mono HB1.out.size)); have HN5 := Lib.hid (own_below (show w1.drew.ownsRow _ _ _ _ _ _ from HN1.out) hb5); clear hb5))
                all_goals
                  go_wp2_with (at_builtin; refine wpAppOne elemD rfl _ _ rfl w.heap.size _ (DC (r.take k)) rfl HN6.out _ rfl rfl rfl (by omega) HB6.out.size ?_; intro v7 w7 hown7 hg7; have HN7 := Lib.hid hown7; have HB7 := Lib.hid (HB6.out.trans (below_own HN6.out hg7 HB6.out.size)); clear hown7 hg7)
                  go_roundw
                  case rel => exact ⟨k + 1, by omega, by go_num, HB7, HG, by rw [HNX.out]; exact HN7.out⟩
                  case measure => simp [intOf]; omega
        · have HG := Lib.hid (goodR_end hi0 hi1 (by omega) (by omega : r.length ≤ k) HO.out)
          rw [List.take_of_length_le (by omega), DC_len] at HN
          clear HO hat
          go_wp2_with fail
          go_ret2
          exact deeds_good HG.out HN.out HB.out
    · have d2 : decide (ins > 10) = true := decide_eq_true (by omega)
      rw [goodR_ins (by omega)]
      clear hat
      go_enter Tryz.func137, Tryz.ntmps137
      go_wp2_with fail
      go_ret2
      exact ⟨_, rfl, none_ownD _ _ _, Below.refl _ _⟩
  · have d1 : decide (ins < 0) = true := decide_eq_true (by omega)
    rw [goodR_ins (by omega)]
    clear hat
    go_enter Tryz.func137, Tryz.ntmps137
    go_wp2_with fail
    go_ret2
    exact ⟨_, rfl, none_ownD _ _ _, Below.refl _ _⟩

end Go.Proofs.YtgolhfmmlanmlaaGreatDoor

/- Walks: the program's good recipes and what they read. -/
namespace Go.Proofs.YtgolhfmmlanmlaaGreatDoor
open Go.RowKit Pth

set_option maxHeartbeats 1000000 in
theorem implGoodR_any (r : List OpT) (ins : Int) (v : Value) (w : World) (hrow : RowO w v r) :
    Calls Tryz.prog 109 #[v, .int .i64 ins] w (BPost (goodR r ins) w) := by
  have HC := Lib.hid (deedsOf_any r ins v w hrow)
  generalize goodR r ins = b at HC
  clear hrow
  go_enter Tryz.func109, Tryz.ntmps109
  go_wp2_with fail
  refine HC.out.mono ?_
  rintro e w1 ⟨v1, rfl, _, hb1⟩
  have HB1 := Lib.hid hb1
  clear hb1 HC
  go_wp2_with fail
  go_ret
  exact ⟨rfl, HB1.out⟩

/-- A deed that is none of the first kind. -/
theorem not_cat {o : OpT} (hk : knownB o = true) (h1 : o.1 ≠ 1) : ∃ T v, deedV o = .iface T v ∧ ∀ w : World, (Instr.typeAssert (.iface T v) 186 203 true).run Tryz.prog w = .ok (.tuple #[.agg #[.int .i64 0], .bool false]) w := by
  obtain ⟨k, n, t⟩ := o
  simp only [knownB, Bool.and_eq_true, decide_eq_true_eq] at hk h1
  have hk' : k = 2 ∨ k = 3 ∨ k = 4 ∨ k = 5 ∨ k = 6 ∨ k = 7 := by omega
  rcases hk' with rfl | rfl | rfl | rfl | rfl | rfl
  · exact ⟨_, _, rfl, fun w => ta_text_cat _ w⟩
  · exact ⟨_, _, rfl, fun w => ta_upper_cat _ w⟩
  · exact ⟨_, _, rfl, fun w => ta_sort_cat _ w⟩
  · exact ⟨_, _, rfl, fun w => ta_drop_cat _ w⟩
  · exact ⟨_, _, rfl, fun w => ta_count_cat _ w⟩
  · exact ⟨_, _, rfl, fun w => ta_fail_cat _ w⟩
theorem known_ok {ins : Int} {o : OpT} (h : opOk ins o = true) : knownB o = true := by
  rw [opOk_is, Bool.and_eq_true] at h; exact h.1
theorem DC_get {r : List OpT} {k : Nat} (hk : k < r.length) : (DC r)[k]'(by rw [DC_len]; exact hk) = deedV r[k] := by simp [DC]
theorem RowV.deeds {w : World} {v : Value} {r : List OpT} (h : RowV w v (DC r)) :
    ∃ a c, v = .slice a r.length c ∧ r.length ≤ c ∧ c ≤ maxLen ∧ ∀ k (hk : k < r.length), ∃ g o, a = some ⟨g, o, none⟩ ∧ g < w.heap.size ∧ w.cell? ⟨g, o + k, none⟩ = some (deedV r[k]) := by
  obtain ⟨a, c, hv, h1, h2, hat⟩ := h
  refine ⟨a, c, by rw [hv, DC_len], by rw [DC_len] at h1; exact h1, h2, fun k hk => ?_⟩
  obtain ⟨g, o, ha, hg, hc⟩ := hat k (by rw [DC_len]; exact hk)
  exact ⟨g, o, ha, hg, by rw [hc, DC_get hk]⟩
theorem cats_snoc {r : List OpT} {k : Nat} (hk : k < r.length) (h : r[k].1 = 1) : catsL (r.take (k + 1)) = catsL (r.take k) ++ [r[k].2.1] := by
  rw [cats_next hk, if_pos h]
theorem cats_same {r : List OpT} {k : Nat} (hk : k < r.length) (h : r[k].1 ≠ 1) : catsL (r.take (k + 1)) = catsL (r.take k) := by
  rw [cats_next hk, if_neg h, List.append_nil]
theorem none_ownI (w : World) (B e : Nat) : w.ownsRow B e 1 (.slice none 0 0) 0 [] := ⟨rfl, .inl ⟨rfl, rfl⟩⟩
theorem own_I {w : World} {B e : Nat} {v : Value} {l : List Int} (h : w.ownsRow B e 1 v l.length (I l)) : w.ownsRow B e 1 v (I l).length (I l) := by rw [I_len]; exact h
theorem own_I2 {w : World} {B e : Nat} {v : Value} {l : List Int} {n : Int} (h : w.ownsRow B e 1 v (I l ++ [Value.int .i64 n]).length (I l ++ [Value.int .i64 n])) : w.ownsRow B e 1 v (l ++ [n]).length (I (l ++ [n])) := by
  rw [← I_len, I_append]; exact h

end Go.Proofs.YtgolhfmmlanmlaaGreatDoor

/- Walks: whether a number is in a list, whether numbers rise (as chapter 2 has them). -/
namespace Go.Proofs.YtgolhfmmlanmlaaGreatDoor
open Go.RowKit Pth

theorem has_next {l : List Int} {n : Int} {k : Nat} (hk : k < l.length) (h : hasL l n = hasL (l.drop k) n) (hn : l[k] ≠ n) : hasL l n = hasL (l.drop (k + 1)) n := by
  rw [h, List.drop_eq_getElem_cons hk, hasL, hasL, Bool.eq_iff_iff, decide_eq_true_iff, decide_eq_true_iff, List.mem_cons]
  constructor
  · rintro (h | h)
    · exact absurd h.symm hn
    · exact h
  · exact .inr

set_option maxHeartbeats 1000000 in
theorem l1Rising_any (l : List Int) (lo hi : Int) (v : Value) (w : World) (hrow : RowV w v (I l)) :
    Calls Tryz.prog 126 #[v, .int .i64 lo, .int .i64 hi] w fun e w' => e = .returned (.bool (riseB lo hi l)) ∧ w = w' := by
  obtain ⟨a, cap, rfl, hc1, hc2, hat⟩ := hrow.ints
  clear hrow
  unfold maxLen at hc2
  go_enter Tryz.func126, Tryz.ntmps126
  go_wp2_with fail
  go_loop [11] (fun i => ∃ k : Nat, k ≤ l.length ∧ i = .int .i64 k ∧ Hid (Rise (l.take k) ∧ Within lo hi (l.take k))) (fun i => l.length - (intOf i).toNat)
  case atStart => exact ⟨0, Nat.zero_le _, rfl, by simp [Rise, Hid, Within]⟩
  case round =>
    obtain ⟨k, hk, rfl, HO⟩ := hrel
    by_cases hlt : k < l.length
    · obtain ⟨g, o, rfl, hg, hcell⟩ := hat k hlt
      by_cases hx : lo ≤ l[k] ∧ l[k] ≤ hi
      · have hx1 : (decide (lo ≤ l[k]) && decide (l[k] ≤ hi)) = true := by simp [hx]
        by_cases h0 : 0 < k
        · obtain ⟨g', o', hA, _, hcell0⟩ := hat (k - 1) (by omega)
          injection hA with hA
          injection hA with hA1 hA2
          subst hA1 hA2
          by_cases hy : l[k - 1] < l[k]
          · have HR : Hid (Rise (l.take (k + 1)) ∧ Within lo hi (l.take (k + 1))) := rise_next hlt HO.out hx.1 hx.2 (fun _ => hy)
            generalize l[k] = x at hcell hx hx1 hy
            generalize l[k - 1] = y at hcell0 hy
            clear hat HO hx
            have hk0 : decide ((k : Int) > 0) = true := by simp; omega
            have hy1 : decide (y ≥ x) = false := by simp; omega
            go_wp2_with (go_at_call 124; refine (l1In_any _ _ _ _).mono ?_; rintro e w' ⟨rfl, rfl⟩)
            all_goals
              go_round
              case rel => exact ⟨k + 1, by omega, by go_num, HR⟩
              case measure => simp [intOf]; omega
          · have HR : Hid (riseB lo hi l = false) := rise_fall hlt h0 (by omega)
            generalize l[k] = x at hcell hx hx1 hy
            generalize l[k - 1] = y at hcell0 hy
            clear hat HO hx
            have hk0 : decide ((k : Int) > 0) = true := by simp; omega
            have hy1 : decide (y ≥ x) = true := by simp; omega
            go_wp2_with (go_at_call 124; refine (l1In_any _ _ _ _).mono ?_; rintro e w' ⟨rfl, rfl⟩)
            all_goals
              go_ret
              exact ⟨ret_bool HR.out.symm, rfl⟩
        · have HR : Hid (Rise (l.take (k + 1)) ∧ Within lo hi (l.take (k + 1))) := rise_next hlt HO.out hx.1 hx.2 (fun h => absurd h h0)
          generalize l[k] = x at hcell hx hx1
          clear hat HO hx
          have hk0 : decide ((k : Int) > 0) = false := by simp; omega
          go_wp2_with (go_at_call 124; refine (l1In_any _ _ _ _).mono ?_; rintro e w' ⟨rfl, rfl⟩)
          all_goals
            go_round
            case rel => exact ⟨k + 1, by omega, by go_num, HR⟩
            case measure => simp [intOf]; omega
      · have HR : Hid (riseB lo hi l = false) := rise_out hlt (by omega)
        have hx1 : (decide (lo ≤ l[k]) && decide (l[k] ≤ hi)) = false := by
          rw [Bool.eq_false_iff]; intro h; rw [Bool.and_eq_true, decide_eq_true_iff, decide_eq_true_iff] at h; exact hx h
        generalize l[k] = x at hcell hx hx1
        clear hat HO hx
        go_wp2_with (go_at_call 124; refine (l1In_any _ _ _ _).mono ?_; rintro e w' ⟨rfl, rfl⟩)
        all_goals
          go_ret
          exact ⟨ret_bool HR.out.symm, rfl⟩
    · have HR : Hid (riseB lo hi l = true) := by have := HO.out; rw [List.take_of_length_le (by omega)] at this; exact riseB_iff.2 this
      clear HO hat
      go_wp2_with fail
      go_ret
      exact ⟨ret_bool HR.out.symm, rfl⟩

/-- All between two. -/
def allB (lo hi : Int) (l : List Int) : Bool := decide (∀ x ∈ l, lo ≤ x ∧ x ≤ hi)
set_option maxHeartbeats 1000000 in
theorem l1All_any (l : List Int) (lo hi : Int) (v : Value) (w : World) (hrow : RowV w v (I l)) :
    Calls Tryz.prog 125 #[v, .int .i64 lo, .int .i64 hi] w fun e w' => e = .returned (.bool (allB lo hi l)) ∧ w = w' := by
  obtain ⟨a, cap, rfl, hc1, hc2, hat⟩ := hrow.ints
  clear hrow
  unfold maxLen at hc2
  go_enter Tryz.func125, Tryz.ntmps125
  go_wp2_with fail
  go_loop [11] (fun i => ∃ k : Nat, k ≤ l.length ∧ i = .int .i64 k ∧ Hid (∀ x ∈ l.take k, lo ≤ x ∧ x ≤ hi)) (fun i => l.length - (intOf i).toNat)
  case atStart => exact ⟨0, Nat.zero_le _, rfl, by simp [Hid]⟩
  case round =>
    obtain ⟨k, hk, rfl, HO⟩ := hrel
    by_cases hlt : k < l.length
    · obtain ⟨g, o, rfl, hg, hcell⟩ := hat k hlt
      by_cases hx : lo ≤ l[k] ∧ l[k] ≤ hi
      · have hx1 : (decide (lo ≤ l[k]) && decide (l[k] ≤ hi)) = true := by simp [hx]
        have HR : Hid (∀ x ∈ l.take (k + 1), lo ≤ x ∧ x ≤ hi) := by
          intro x hxm
          rw [List.take_succ_eq_append_getElem hlt, List.mem_append, List.mem_singleton] at hxm
          rcases hxm with h | h
          · exact HO.out x h
          · rw [h]; exact hx
        generalize l[k] = x at hcell hx hx1
        clear hat HO hx
        go_wp2_with (go_at_call 124; refine (l1In_any _ _ _ _).mono ?_; rintro e w' ⟨rfl, rfl⟩)
        all_goals
          go_round
          case rel => exact ⟨k + 1, by omega, by go_num, HR⟩
          case measure => simp [intOf]; omega
      · have HR : Hid (allB lo hi l = false) := by
          rw [allB, decide_eq_false_iff_not]; exact fun h => hx (h _ (List.getElem_mem hlt))
        have hx1 : (decide (lo ≤ l[k]) && decide (l[k] ≤ hi)) = false := by
          rw [Bool.eq_false_iff]; intro h; rw [Bool.and_eq_true, decide_eq_true_iff, decide_eq_true_iff] at h; exact hx h
        generalize l[k] = x at hcell hx hx1
        clear hat HO hx
        go_wp2_with (go_at_call 124; refine (l1In_any _ _ _ _).mono ?_; rintro e w' ⟨rfl, rfl⟩)
        all_goals
          go_ret
          exact ⟨ret_bool HR.out.symm, rfl⟩
    · have HR : Hid (allB lo hi l = true) := by have := HO.out; rw [List.take_of_length_le (by omega)] at this; rw [allB, decide_eq_true_iff]; exact this
      clear HO hat
      go_wp2_with fail
      go_ret
      exact ⟨ret_bool HR.out.symm, rfl⟩

end Go.Proofs.YtgolhfmmlanmlaaGreatDoor

/- Walks: the place of a number in a list; whether a graph is good, as the reference has it. -/
namespace Go.Proofs.YtgolhfmmlanmlaaGreatDoor
open Go.RowKit Pth

theorem not_take {l : List Int} {n : Int} {k : Nat} (hk : k < l.length) (h : n ∉ l.take k) (hx : ¬ l[k] = n) : n ∉ l.take (k + 1) := by
  rw [List.take_succ_eq_append_getElem hk, List.mem_append, List.mem_singleton]
  rintro (h' | h')
  · exact h h'
  · exact hx h'.symm
theorem ret_int {a b : Int} (h : a = b) : Ending.returned (.int .i64 a) = .returned (.int .i64 b) := by rw [h]

set_option maxHeartbeats 1000000 in
theorem l5Place_any (l : List Int) (n : Int) (v : Value) (w : World) (hrow : RowV w v (I l)) :
    Calls Tryz.prog 127 #[v, .int .i64 n] w fun e w' => e = .returned (.int .i64 (placeI l n)) ∧ w = w' := by
  obtain ⟨a, cap, rfl, hc1, hc2, hat⟩ := hrow.ints
  clear hrow
  unfold maxLen at hc2
  go_enter Tryz.func127, Tryz.ntmps127
  go_wp2_with fail
  go_loop [9] (fun i => ∃ k : Nat, k ≤ l.length ∧ i = .int .i64 k ∧ Hid (n ∉ l.take k)) (fun i => l.length - (intOf i).toNat)
  case atStart => exact ⟨0, Nat.zero_le _, rfl, by simp [Hid]⟩
  case round =>
    obtain ⟨k, hk, rfl, HO⟩ := hrel
    by_cases hlt : k < l.length
    · obtain ⟨g, o, rfl, hg, hcell⟩ := hat k hlt
      clear hat
      by_cases hx : l[k] = n
      · have HR : Hid (placeI l n = k) := place_at hlt HO.out hx
        have hx1 : (l[k] == n) = true := by simp [hx]
        generalize l[k] = x at hcell hx hx1
        clear HO hx
        go_wp2_with fail
        go_ret
        exact ⟨ret_int HR.out.symm, rfl⟩
      · have HR : Hid (n ∉ l.take (k + 1)) := not_take hlt HO.out hx
        have hx1 : (l[k] == n) = false := by simp [hx]
        generalize l[k] = x at hcell hx hx1
        clear HO hx
        go_wp2_with fail
        go_round
        case rel => exact ⟨k + 1, by omega, by go_num, HR⟩
        case measure => simp [intOf]; omega
    · have HR : Hid (placeI l n = -1) := by have := HO.out; rw [List.take_of_length_le (by omega)] at this; exact place_none this
      clear HO hat
      go_wp2_with fail
      go_ret
      exact ⟨ret_int HR.out.symm, rfl⟩

/-- One task is as it should be. -/
def TaskOk (ls : List (List Int)) (l : List Int) (k : Nat) (hk : k < ls.length) : Prop := (Rise ls[k] ∧ Within 0 ((ls.length : Int) - 1) ls[k]) ∧ (k : Int) ∈ l ∧ ∀ x ∈ ls[k], placeI l x < placeI l k

set_option maxRecDepth 20000 in
set_option maxHeartbeats 4000000 in
theorem specGood_any (ls : List (List Int)) (l : List Int) (v : Value) (w : World) (hst : GraphV w v ls l) :
    Calls Tryz.prog 102 #[v] w fun e w' => e = .returned (.bool (goodG ls l)) ∧ Below w.heap.size w w' := by
  obtain ⟨nv, ov, rfl, h1, h2⟩ := hst
  have H1 := Lib.hid h1
  have H2 := Lib.hid h2
  obtain ⟨an, cn, rfl, hn1, hn2, hat⟩ := h1.lists
  obtain ⟨ao, co, rfl, ho1, ho2, _⟩ := h2.ints
  clear h1 h2
  unfold maxLen at hn2 ho2
  have nog : ∀ {P : Prop}, (GoodG ls l → P) → ¬ P → Hid (goodG ls l = false) := fun h1 h2 => goodG_no (fun h => h2 (h1 h))
  obtain ⟨wa, hwa⟩ : ∃ wa, wa = w.alloc (.cells #[.slice an ls.length cn, .slice ao l.length co] 39) := ⟨_, rfl⟩
  have c0 : wa.cell? ⟨w.heap.size, 0, none⟩ = some (.slice an ls.length cn) := by rw [hwa]; simp
  have c1 : wa.cell? ⟨w.heap.size, 1, none⟩ = some (.slice ao l.length co) := by rw [hwa]; simp
  have HA : Hid (Below w.heap.size w wa) := by rw [hwa]; exact (Below.refl w.heap.size w).alloc (Nat.le_refl _) _
  have HWA := Lib.hid hwa
  clear hwa
  have CI := l1In_any (ls.length : Int) 1 10 wa
  have CA := l1All_any l 0 ((ls.length : Int) - 1) _ wa (H2.out.below HA.out)
  by_cases h1 : 1 ≤ ls.length ∧ ls.length ≤ 10
  · have e1 : (decide ((1 : Int) ≤ (ls.length : Int)) && decide ((ls.length : Int) ≤ 10)) = true := by simp; omega
    rw [e1] at CI
    have HCI := Lib.hid CI
    clear CI e1
    by_cases h2 : l.length = ls.length
    · have e2 : ((l.length : Int) != (ls.length : Int)) = false := by simp [h2]
      have HL := Lib.hid h2
      by_cases h3 : ∀ x ∈ l, 0 ≤ x ∧ x ≤ (ls.length : Int) - 1
      · have e3 : allB 0 ((ls.length : Int) - 1) l = true := by rw [allB, decide_eq_true_iff]; exact h3
        rw [e3] at CA
        have HCA := Lib.hid CA
        have H3 := Lib.hid h3
        clear CA e3 h3 h2
        obtain ⟨h1a, h1b⟩ := h1
        go_enter Tryz.func102, Tryz.ntmps102
        go_wp2_with fail
        rw [← HWA.out]
        refine HCI.out.mono ?_
        rintro e w1 ⟨rfl, rfl⟩
        go_wp2_with fail
        refine HCA.out.mono ?_
        rintro e w1 ⟨rfl, rfl⟩
        go_wp2_with fail
        clear HCI HCA HWA e2
        have hsz : w.heap.size < wa.heap.size := by exact World.block_lt_of_cell? _ _ c0
        go_loopw [32] (fun i wr => ∃ k : Nat, k ≤ ls.length ∧ i = .int .i64 k ∧ Hid (∀ j (hj : j < ls.length), j < k → TaskOk ls l j hj) ∧ Below wa.heap.size wa wr) (fun i _ => ls.length - (intOf i).toNat)
        case atStart => exact ⟨0, Nat.zero_le _, rfl, fun j hj h => by omega, Below.refl _ _⟩
        case round =>
          obtain ⟨k, hk, rfl, HO, hb⟩ := hrel
          have HB := Lib.hid hb
          have HBW := Lib.hid (bth HA.out hb (Nat.le_refl _))
          have d0 := (hb.cell (p := ⟨w.heap.size, 0, none⟩) hsz).trans c0
          have d1 := (hb.cell (p := ⟨w.heap.size, 1, none⟩) hsz).trans c1
          have HC0 := Lib.hid c0
          have HC1 := Lib.hid c1
          clear hb c0 c1
          by_cases hlt : k < ls.length
          · obtain ⟨g, o, a2, c2, rfl, hg, hcell0, hrk⟩ := hat k hlt
            have hcell : wr.cell? ⟨g, o + k, none⟩ = some (.slice a2 ls[k].length c2) := by rw [HBW.out.cell (p := ⟨g, o + k, none⟩) hg]; exact hcell0
            have CR := l1Rising_any ls[k] 0 ((ls.length : Int) - 1) _ wr (hrk.below HBW.out)
            have CP := l5Place_any l (k : Int) _ wr (H2.out.below HBW.out)
            by_cases hr : Rise ls[k] ∧ Within 0 ((ls.length : Int) - 1) ls[k]
            · rw [riseB_iff.2 hr] at CR
              have HCR := Lib.hid CR
              clear CR
              by_cases hm : (k : Int) ∈ l
              · have hp0 : ¬ (placeI l k < 0) := by have := place_nonneg.2 hm; omega
                have HCP := Lib.hid CP
                have HRK := Lib.hid hrk
                have HM := Lib.hid hm
                have HRR := Lib.hid hr
                have hkl : ls[k].length ≤ c2 ∧ c2 ≤ maxLen := by obtain ⟨a3, c3, he, h1, h2, _⟩ := hrk.ints; injection he with _ _ he; omega
                obtain ⟨hkl1, hkl2⟩ := hkl
                obtain ⟨a3, c3, he3, _, _, hatk⟩ := hrk.ints
                injection he3 with he3 _ he4
                subst he3 he4
                unfold maxLen at hkl2
                clear CP hcell0 hm hr hat hrk
                generalize hpk : placeI l k = pk at hp0 HCP
                have HPK := Lib.hid hpk
                clear hpk
                go_wp2_with fail
                refine HCR.out.mono ?_
                rintro e w' ⟨rfl, rfl⟩
                go_wp2_with fail
                refine HCP.out.mono ?_
                rintro e w' ⟨rfl, rfl⟩
                go_wp2_with fail
                clear HCR HCP d0 d1 hcell
                go_loopw [51] (fun i wq => ∃ j : Nat, j ≤ ls[k].length ∧ i = .int .i64 j ∧ Hid (∀ x ∈ ls[k].take j, placeI l x < pk) ∧ Below wa.heap.size wa wq) (fun i _ => ls[k].length - (intOf i).toNat)
                case atStart => exact ⟨0, Nat.zero_le _, rfl, by simp [Hid], HB.out⟩
                case round =>
                  clear HB HBW
                  obtain ⟨j, hj, rfl, HJ, hb⟩ := hrel
                  have HB := Lib.hid hb
                  have HBW := Lib.hid (bth HA.out hb (Nat.le_refl _))
                  have d1 := (hb.cell (p := ⟨w.heap.size, 1, none⟩) hsz).trans HC1.out
                  have HP := Lib.hid (fun (q : Nat) (x : Int) => (l5Place_any l x _ (wr.drewN q) (H2.out.below (below_drewN HBW.out q))).mono (fun e w' ⟨h1, h2⟩ => And.intro h1 h2.symm))
                  clear hb
                  by_cases hjt : j < ls[k].length
                  · obtain ⟨g2, o2, rfl, hg2, hcell0⟩ := hatk j hjt
                    have hcell : wr.cell? ⟨g2, o2 + j, none⟩ = some (.int .i64 ls[k][j]) := by rw [HBW.out.cell (p := ⟨g2, o2 + j, none⟩) hg2]; exact hcell0
                    clear hcell0 hatk
                    by_cases hx : placeI l ls[k][j] < pk
                    · have hx1 : decide (placeI l ls[k][j] ≥ pk) = false := by simp; omega
                      have HJ2 : Hid (∀ x ∈ ls[k].take (j + 1), placeI l x < pk) := by
                        intro x hxm
                        rw [List.take_succ_eq_append_getElem hjt, List.mem_append, List.mem_singleton] at hxm
                        rcases hxm with h | h
                        · exact HJ.out x h
                        · rw [h]; exact hx
                      clear HJ hx
                      rw [← HPK.out] at hx1
                      generalize ls[k][j] = x at hcell hx1
                      go_wp2_with fail
                      go_quiet ((go_at_call 127; exact Calls.quiet_of_same (HP.out _ _)))
                      go_wp2_with fail
                      go_roundw
                      case rel => exact ⟨j + 1, by omega, by go_num, HJ2, below_drewN HB.out _⟩
                      case measure => simp [intOf]; omega
                    · have HR := nog (fun h => (h.each k hlt).2.2 _ (List.getElem_mem hjt)) (by rw [HPK.out]; exact hx)
                      have hx1 : decide (placeI l ls[k][j] ≥ pk) = true := by simp; omega
                      clear HJ hx
                      rw [← HPK.out] at hx1
                      generalize ls[k][j] = x at hcell hx1
                      go_wp2_with fail
                      go_quiet ((go_at_call 127; exact Calls.quiet_of_same (HP.out _ _)))
                      go_wp2_with fail
                      go_ret
                      exact ⟨ret_bool HR.out.symm, below_drewN HBW.out _⟩
                  · have HT : Hid (∀ i (hi : i < ls.length), i < k + 1 → TaskOk ls l i hi) := by
                      intro i hi hik
                      rcases Nat.lt_or_ge i k with h | h
                      · exact HO.out i hi h
                      · obtain rfl : i = k := by omega
                        refine ⟨HRR.out, HM.out, fun x hx => ?_⟩
                        rw [HPK.out]
                        have := HJ.out
                        rw [List.take_of_length_le (by omega)] at this
                        exact this x hx
                    clear HJ HO HP hatk
                    go_wp2_with fail
                    go_roundw
                    case rel => exact ⟨k + 1, by omega, by go_num, HT, HB.out⟩
                    case measure => simp [intOf]; omega
              · have hp0 : placeI l k < 0 := by rw [place_none hm]; omega
                have HCP := Lib.hid CP
                have HR := nog (fun h => (h.each k hlt).2.1) hm
                clear CP hcell0 hm hr hat nog hrk
                generalize placeI l k = pk at hp0 HCP
                go_wp2_with fail
                refine HCR.out.mono ?_
                rintro e w' ⟨rfl, rfl⟩
                go_wp2_with fail
                refine HCP.out.mono ?_
                rintro e w' ⟨rfl, rfl⟩
                go_wp2_with fail
                all_goals
                  go_ret
                  exact ⟨ret_bool HR.out.symm, HBW.out⟩
            · rw [riseB_false hr] at CR
              have HCR := Lib.hid CR
              have HR := nog (fun h => (h.each k hlt).1) hr
              clear CR CP hcell0 hr hat nog hrk
              go_wp2_with fail
              refine HCR.out.mono ?_
              rintro e w' ⟨rfl, rfl⟩
              go_wp2_with fail
              all_goals
                go_ret
                exact ⟨ret_bool HR.out.symm, HBW.out⟩
          · have HR : Hid (goodG ls l = true) := goodG_iff.2 ⟨h1a, h1b, HL.out, H3.out, fun j hj => HO.out j hj (by omega)⟩
            clear HO hat nog
            go_wp2_with fail
            go_ret
            exact ⟨ret_bool HR.out.symm, HBW.out⟩
      · have e3 : allB 0 ((ls.length : Int) - 1) l = false := by rw [allB, decide_eq_false_iff_not]; exact h3
        have HR := nog (fun h => h.tasks) h3
        rw [e3] at CA
        have HCA := Lib.hid CA
        clear CA e3 h3 h2 nog hat
        obtain ⟨h1a, h1b⟩ := h1
        go_enter Tryz.func102, Tryz.ntmps102
        go_wp2_with fail
        rw [← HWA.out]
        refine HCI.out.mono ?_
        rintro e w1 ⟨rfl, rfl⟩
        go_wp2_with fail
        refine HCA.out.mono ?_
        rintro e w1 ⟨rfl, rfl⟩
        go_wp2_with fail
        go_ret
        exact ⟨ret_bool HR.out.symm, HA.out⟩
    · have e2 : ((l.length : Int) != (ls.length : Int)) = true := by simp; omega
      have HR := nog (fun h => h.same) h2
      clear h2 nog CA hat
      obtain ⟨h1a, h1b⟩ := h1
      go_enter Tryz.func102, Tryz.ntmps102
      go_wp2_with fail
      rw [← HWA.out]
      refine HCI.out.mono ?_
      rintro e w1 ⟨rfl, rfl⟩
      go_wp2_with fail
      go_ret
      exact ⟨ret_bool HR.out.symm, HA.out⟩
  · have e1 : (decide ((1 : Int) ≤ (ls.length : Int)) && decide ((ls.length : Int) ≤ 10)) = false := by
      rw [Bool.eq_false_iff]; intro h; rw [Bool.and_eq_true, decide_eq_true_iff, decide_eq_true_iff] at h; omega
    have HR := nog (fun h => And.intro h.low h.high) h1
    rw [e1] at CI
    have HCI := Lib.hid CI
    clear CI e1 h1 nog CA hat
    go_enter Tryz.func102, Tryz.ntmps102
    go_wp2_with fail
    rw [← HWA.out]
    refine HCI.out.mono ?_
    rintro e w1 ⟨rfl, rfl⟩
    go_wp2_with fail
    go_ret
    exact ⟨ret_bool HR.out.symm, HA.out⟩
end Go.Proofs.YtgolhfmmlanmlaaGreatDoor

/- Walks: whether a graph is good, as the program has it. -/
namespace Go.Proofs.YtgolhfmmlanmlaaGreatDoor
open Go.RowKit Pth

/-- Yes-or-no as cells. -/
def Bo (l : List Bool) : List Value := l.map fun x => .bool x
theorem Bo_len (l : List Bool) : (Bo l).length = l.length := by simp [Bo]
theorem Bo_get {l : List Bool} {k : Nat} (hk : k < l.length) : (Bo l)[k]'(by rw [Bo_len]; exact hk) = .bool l[k] := by simp [Bo]
theorem Bo_get? {l : List Bool} {k : Nat} (hk : k < l.length) : (Bo l)[k]? = some (.bool l[k]) := by simp [Bo, hk]
theorem Bo_set (l : List Bool) (k : Nat) (b : Bool) : (Bo l).set k (.bool b) = Bo (l.set k b) := by simp [Bo, List.map_set]
theorem Bo_rep (n : Nat) (b : Bool) : Bo (List.replicate n b) = List.replicate n (.bool b) := by simp [Bo]
theorem RowV.bools {w : World} {v : Value} {l : List Bool} (h : RowV w v (Bo l)) :
    ∃ a c, v = .slice a l.length c ∧ l.length ≤ c ∧ c ≤ maxLen ∧ ∀ k (hk : k < l.length), ∃ g o, a = some ⟨g, o, none⟩ ∧ g < w.heap.size ∧ w.cell? ⟨g, o + k, none⟩ = some (.bool l[k]) := by
  obtain ⟨a, c, hv, h1, h2, hat⟩ := h
  refine ⟨a, c, by rw [hv, Bo_len], by rw [Bo_len] at h1; exact h1, h2, fun k hk => ?_⟩
  obtain ⟨g, o, ha, hg, hc⟩ := hat k (by rw [Bo_len]; exact hk)
  exact ⟨g, o, ha, hg, by rw [hc]; simp [Bo]⟩

theorem RowV.marks {w : World} {v : Value} {n : Nat} {pre : List Int} (h : RowV w v (Bo (marksIn n pre))) :
    ∃ a c, v = .slice a n c ∧ n ≤ c ∧ c ≤ maxLen ∧ ∀ k (_ : k < n), ∃ g o, a = some ⟨g, o, none⟩ ∧ g < w.heap.size ∧ w.cell? ⟨g, o + k, none⟩ = some (.bool (decide ((k : Int) ∈ pre))) := by
  obtain ⟨a, c, hv, h1, h2, hat⟩ := h.bools
  have hl := marksIn_len n pre
  refine ⟨a, c, by rw [hv, hl], by omega, h2, fun k hk => ?_⟩
  obtain ⟨g, o, ha, hg, hc⟩ := hat k (by omega)
  exact ⟨g, o, ha, hg, by rw [hc, marksIn_at]⟩

set_option maxRecDepth 20000 in
set_option maxHeartbeats 2000000 in
theorem areNeeds_any (l pre : List Int) (n : Nat) (v u : Value) (w : World) (hrow : RowV w v (I l)) (hpl : RowV w u (Bo (marksIn n pre))) (hpre : ∀ x ∈ pre, 0 ≤ x ∧ x < n) :
    Calls Tryz.prog 136 #[v, u] w fun e w' => e = .returned (.bool (needsB l pre)) ∧ w = w' := by
  obtain ⟨a, cap, rfl, hc1, hc2, hat⟩ := hrow.ints
  obtain ⟨a2, cap2, rfl, hd1, hd2, hat2⟩ := hpl.marks
  clear hrow hpl
  unfold maxLen at hc2 hd2
  go_enter Tryz.func136, Tryz.ntmps136
  go_wp2_with fail
  go_loop [9] (fun i => ∃ k : Nat, k ≤ l.length ∧ i = .int .i64 k ∧ Hid (Rise (l.take k) ∧ ∀ x ∈ l.take k, x ∈ pre)) (fun i => l.length - (intOf i).toNat)
  case atStart => exact ⟨0, Nat.zero_le _, rfl, by simp [Hid, Rise]⟩
  case round =>
    obtain ⟨k, hk, rfl, HO⟩ := hrel
    by_cases hlt : k < l.length
    · obtain ⟨g, o, rfl, hg, hcell⟩ := hat k hlt
      by_cases hx : l[k] ∈ pre
      · obtain ⟨hx0, hxn⟩ := hpre _ hx
        obtain ⟨g2, o2, rfl, hg2, hcell2⟩ := hat2 l[k].toNat (by omega)
        rw [show ((l[k].toNat : Nat) : Int) = l[k] by omega, decide_eq_true hx] at hcell2
        by_cases h0 : 0 < k
        · obtain ⟨g', o', hA, _, hcell1⟩ := hat (k - 1) (by omega)
          obtain ⟨rfl, rfl⟩ := addr_inj hA
          have hk0 : decide ((k : Int) > 0) = true := by simp; omega
          by_cases hy : l[k - 1] < l[k]
          · have HR := Lib.hid (needs_next hlt HO.out hx (fun _ => hy))
            have hy1 : decide (l[k - 1] ≥ l[k]) = false := by simp; omega
            clear hat hat2 HO hx hpre hA
            generalize l[k] = x at *
            generalize l[k - 1] = y at *
            go_wp2_with fail
            go_round
            case rel => exact ⟨k + 1, by omega, by go_num, HR⟩
            case measure => simp [intOf]; omega
          · have HR : Hid (needsB l pre = false) := needs_fall hlt h0 (by omega)
            have hy1 : decide (l[k - 1] ≥ l[k]) = true := by simp; omega
            clear hat hat2 HO hx hpre hA
            generalize l[k] = x at *
            generalize l[k - 1] = y at *
            go_wp2_with fail
            go_ret
            exact ⟨ret_bool HR.out.symm, rfl⟩
        · have HR := Lib.hid (needs_next hlt HO.out hx (fun h => absurd h h0))
          have hk0 : decide ((k : Int) > 0) = false := by simp; omega
          clear hat hat2 HO hx hpre
          generalize l[k] = x at *
          go_wp2_with fail
          go_round
          case rel => exact ⟨k + 1, by omega, by go_num, HR⟩
          case measure => simp [intOf]; omega
      · have HR : Hid (needsB l pre = false) := needs_not hlt hx
        by_cases hx0 : l[k] < 0
        · clear hat hat2 HO hx hpre
          generalize l[k] = x at *
          go_wp2_with fail
          go_ret
          exact ⟨ret_bool HR.out.symm, rfl⟩
        · by_cases hxn : l[k] < n
          · obtain ⟨g2, o2, rfl, hg2, hcell2⟩ := hat2 l[k].toNat (by omega)
            rw [show ((l[k].toNat : Nat) : Int) = l[k] by omega, decide_eq_false hx] at hcell2
            clear hat hat2 HO hx hpre
            generalize l[k] = x at *
            go_wp2_with fail
            go_ret
            exact ⟨ret_bool HR.out.symm, rfl⟩
          · clear hat hat2 HO hx hpre
            generalize l[k] = x at *
            go_wp2_with fail
            go_ret
            exact ⟨ret_bool HR.out.symm, rfl⟩
    · have HR : Hid (needsB l pre = true) := by have := HO.out; rw [List.take_of_length_le (by omega)] at this; exact needsB_iff.2 this
      clear HO hat hat2 hpre
      go_wp2_with fail
      go_ret
      exact ⟨ret_bool HR.out.symm, rfl⟩

set_option maxHeartbeats 1000000 in
theorem isTask_any (ls : List (List Int)) (l : List Int) (k : Int) (v : Value) (w : World) (hst : GraphV w v ls l) :
    Calls Tryz.prog 135 #[v, .int .i64 k] w fun e w' => e = .returned (.bool (decide (0 ≤ k) && decide (k < (ls.length : Int)))) ∧ Below w.heap.size w w' := by
  obtain ⟨nv, ov, rfl, h1, h2⟩ := hst
  obtain ⟨an, cn, rfl, hn1, hn2, _⟩ := h1.lists
  obtain ⟨ao, co, rfl, ho1, ho2, _⟩ := h2.ints
  clear h1 h2
  unfold maxLen at hn2 ho2
  go_enter Tryz.func135, Tryz.ntmps135
  go_wp2_with fail
  all_goals
    go_ret
    exact ⟨ret_bool (by rw [Bool.eq_iff_iff]; simp <;> omega), (Below.refl w.heap.size w).alloc (Nat.le_refl _) _⟩

/-- What the program asks of the one at a place. -/
def SpotOk (ls : List (List Int)) (l : List Int) (i : Nat) (hi : i < l.length) : Prop := ∃ t : Nat, ∃ ht : t < ls.length, l[i] = (t : Int) ∧ l[i] ∉ l.take i ∧ Rise ls[t] ∧ ∀ x ∈ ls[t], x ∈ l.take i
theorem spot_range {ls : List (List Int)} {l : List Int} {k : Nat} (h : ∀ i (hi : i < l.length), i < k → SpotOk ls l i hi) : ∀ x ∈ l.take k, 0 ≤ x ∧ x < (ls.length : Int) := by
  intro x hx
  obtain ⟨i, hi, rfl⟩ := List.mem_iff_getElem.1 hx
  rw [List.length_take] at hi
  obtain ⟨t, ht, he, _⟩ := h i (by omega) (by omega)
  rw [List.getElem_take]
  omega
theorem isTask_b {ls : List (List Int)} {l : List Int} {k : Int} {v : Value} {w : World} {b : Bool} (hst : GraphV w v ls l) (h : (decide (0 ≤ k) && decide (k < (ls.length : Int))) = b) :
    Calls Tryz.prog 135 #[v, .int .i64 k] w fun e w' => e = .returned (.bool b) ∧ Below w.heap.size w w' := by
  subst h
  exact isTask_any ls l k v w hst
theorem take_snoc {l : List Int} {k : Nat} (hk : k < l.length) : l.take k ++ [l[k]] = l.take (k + 1) := (List.take_succ_eq_append_getElem hk).symm

set_option maxRecDepth 20000 in
set_option maxHeartbeats 4000000 in
theorem implGood_any (ls : List (List Int)) (l : List Int) (v : Value) (w : World) (hst : GraphV w v ls l) :
    Calls Tryz.prog 108 #[v] w fun e w' => e = .returned (.bool (goodG ls l)) ∧ Below w.heap.size w w' := by
  have HV := Lib.hid hst
  obtain ⟨nv, ov, rfl, h1, h2⟩ := hst
  obtain ⟨an, cn, rfl, hn1, hn2, hat⟩ := h1.lists
  obtain ⟨ao, co, rfl, ho1, ho2, hao⟩ := h2.ints
  clear h1 h2
  unfold maxLen at hn2 ho2
  have nog : ∀ {P : Prop}, (GoodP ls l → P) → ¬ P → Hid (goodG ls l = false) := fun h1 h2 => goodG_noP (fun h => h2 (h1 h))
  obtain ⟨wa, hwa⟩ : ∃ wa, wa = w.alloc (.cells #[.slice an ls.length cn, .slice ao l.length co] 39) := ⟨_, rfl⟩
  have c0 : wa.cell? ⟨w.heap.size, 0, none⟩ = some (.slice an ls.length cn) := by rw [hwa]; simp
  have c1 : wa.cell? ⟨w.heap.size, 1, none⟩ = some (.slice ao l.length co) := by rw [hwa]; simp
  have HA : Hid (Below w.heap.size w wa) := by rw [hwa]; exact (Below.refl w.heap.size w).alloc (Nat.le_refl _) _
  have hsz : w.heap.size < wa.heap.size := by rw [hwa]; simp
  have HWA := Lib.hid hwa
  by_cases h1 : 1 ≤ ls.length ∧ ls.length ≤ 10
  · by_cases h2 : l.length = ls.length
    · have e2 : ((l.length : Int) != (ls.length : Int)) = false := by simp [h2]
      have HL := Lib.hid h2
      obtain ⟨h1a, h1b⟩ := h1
      obtain ⟨w0, hmk, hown0, hb0⟩ := make_row elemB rfl ls.length wa (by omega)
      have HN0 := Lib.hid hown0
      have HB0 := Lib.hid hb0
      rw [hwa] at hmk
      have hwz : wa.heap.size = w.heap.size + 1 := by rw [hwa]; simp
      rw [hwz] at HN0
      have d0 := (HB0.out.cell (p := ⟨w.heap.size, 0, none⟩) hsz).trans c0
      have d1 := (HB0.out.cell (p := ⟨w.heap.size, 1, none⟩) hsz).trans c1
      clear hown0 hb0 h2 hwa
      go_enter Tryz.func108, Tryz.ntmps108
      go_wp2_with fail
      clear hmk e2 d0 d1
      go_loopw [28] (fun i wr => ∃ k : Nat, k ≤ l.length ∧ i = .int .i64 k ∧ Hid (∀ i (hi : i < l.length), i < k → SpotOk ls l i hi) ∧ wr.ownsRow (w.heap.size + 1) 4 1 (.slice (some ⟨w.heap.size + 1, 0, none⟩) ls.length ls.length) ls.length (Bo (marksIn ls.length (l.take k))) ∧ Below wa.heap.size wa wr) (fun i _ => l.length - (intOf i).toNat)
      case atStart => exact ⟨0, Nat.zero_le _, rfl, fun i hi h => by omega, by rw [List.take_zero, marksIn_nil, Bo_rep]; exact HN0.out, HB0.out⟩
      case round =>
        clear HN0 HB0
        obtain ⟨k, hk, rfl, HO, hown, hb⟩ := hrel
        have HN := Lib.hid hown
        have HB := Lib.hid hb
        have HBW := Lib.hid (bth HA.out hb (Nat.le_refl _))
        have d0 := (hb.cell (p := ⟨w.heap.size, 0, none⟩) hsz).trans c0
        have d1 := (hb.cell (p := ⟨w.heap.size, 1, none⟩) hsz).trans c1
        have HC0 := Lib.hid c0
        have HC1 := Lib.hid c1
        have hszr := hb.size
        clear hb c0 c1 hown
        by_cases hlt : k < l.length
        · obtain ⟨g, o, rfl, hg, hcell0⟩ := hao k hlt
          have hcell : wr.cell? ⟨g, o + k, none⟩ = some (.int .i64 l[k]) := by rw [HBW.out.cell (p := ⟨g, o + k, none⟩) hg]; exact hcell0
          clear hcell0
          by_cases hr : 0 ≤ l[k] ∧ l[k] < (ls.length : Int)
          · have CT := Lib.hid (isTask_b (HV.out.below HBW.out) (show (decide (0 ≤ l[k]) && decide (l[k] < (ls.length : Int))) = true by simp [hr]))
            obtain ⟨t, ht⟩ : ∃ t : Nat, l[k] = t := ⟨l[k].toNat, by omega⟩
            have htn : t < ls.length := by omega
            have HTL := Lib.hid ht
            have HPRE := Lib.hid (spot_range HO.out)
            have HTS := Lib.hid (take_snoc hlt)
            have HSO : Hid (∀ (h1 : (t : Int) ∉ l.take k) (h2 : Rise ls[t]) (h3 : ∀ x ∈ ls[t], x ∈ l.take k), ∀ i (hi : i < l.length), i < k + 1 → SpotOk ls l i hi) := by
              intro h1 h2 h3 i hi hik
              rcases Nat.lt_or_ge i k with h | h
              · exact HO.out i hi h
              · obtain rfl : i = k := by omega
                exact ⟨t, htn, ht, by rw [ht]; exact h1, h2, h3⟩
            have hnog1 : (t : Int) ∈ l.take k → Hid (goodG ls l = false) := fun hm => nog (fun h => (h.each k hlt)) (fun ⟨t', ht', he, hn, _⟩ => hn (by rw [ht]; exact hm))
            have hnog2 : ¬ (Rise ls[t] ∧ ∀ x ∈ ls[t], x ∈ l.take k) → Hid (goodG ls l = false) := fun hm => nog (fun h => (h.each k hlt)) (fun ⟨t', ht', he, hn, h3, h4⟩ => hm (by
              obtain rfl : t = t' := by omega
              exact ⟨h3, h4⟩))
            rw [ht] at hcell CT HTS
            clear ht nog hao HTL
            go_wp2_with fail
            refine CT.out.mono ?_
            rintro e w1 ⟨rfl, hb1⟩
            have hN1 := own_below HN.out hb1
            have HN1 := Lib.hid hN1
            have HB1 := Lib.hid (bth HB.out hb1 (Nat.le_refl _))
            have HBW1 := Lib.hid (bth HBW.out hb1 (Nat.le_refl _))
            have hcp : w1.cell? ⟨w.heap.size + 1, t, none⟩ = some (.bool (decide ((t : Int) ∈ l.take k))) := by rw [hN1.cellAt t (by omega), Bo_get? (by rw [marksIn_len]; exact htn), marksIn_at]
            have f0 := (hb1.cell (p := ⟨w.heap.size, 0, none⟩) (by show w.heap.size < wr.heap.size; omega)).trans d0
            clear d0 d1 hcell hb1 HN CT HO
            by_cases hm : (t : Int) ∈ l.take k
            · have HR := hnog1 hm
              rw [decide_eq_true hm] at hcp
              clear hnog1 hnog2 hm hat HSO HTS hN1
              go_wp2_with fail
              go_ret
              exact ⟨ret_bool HR.out.symm, HBW1.out⟩
            · obtain ⟨g2, o2, a2, c2, rfl, hg2, hcell2, hrk⟩ := hat t htn
              have hcell3 : w1.cell? ⟨g2, o2 + t, none⟩ = some (.slice a2 ls[t].length c2) := by rw [HBW1.out.cell (p := ⟨g2, o2 + t, none⟩) hg2]; exact hcell2
              have CN := areNeeds_any ls[t] (l.take k) ls.length _ _ w1 (hrk.below HBW1.out) (RowV.of_own hN1) HPRE.out
              rw [decide_eq_false hm] at hcp
              by_cases hq : Rise ls[t] ∧ ∀ x ∈ ls[t], x ∈ l.take k
              · rw [needsB_iff.2 hq] at CN
                have HCN := Lib.hid CN
                have HS1 := Lib.hid (HSO.out hm hq.1 hq.2)
                have hfz := hN1.frozenAt t
                have hst := hN1.stored t (.bool true)
                rw [Bo_set, marksIn_set, HTS.out] at hst
                have HN2 := Lib.hid hst.1
                have HB2 := Lib.hid (HB1.out.trans (only_below hst.2 (by omega) (by have := HB1.out.size; omega)))
                clear hnog1 hnog2 hm hat HSO HTS hN1 CN hcell2 hrk hst hq HN1
                generalize ls[t].length = n2 at *
                go_wp2_with fail
                refine HCN.out.mono ?_
                rintro e w' ⟨rfl, rfl⟩
                go_wp2_with fail
                go_roundw
                case rel => exact ⟨k + 1, by omega, by go_num, HS1, HN2.out, HB2.out⟩
                case measure => simp [intOf]; omega
              · rw [needsB_no hq] at CN
                have HCN := Lib.hid CN
                have HR := hnog2 hq
                clear hnog1 hnog2 hm hat HSO HTS hN1 CN hcell2 hrk hq HN1
                generalize ls[t].length = n2 at *
                go_wp2_with fail
                refine HCN.out.mono ?_
                rintro e w' ⟨rfl, rfl⟩
                go_wp2_with fail
                go_ret
                exact ⟨ret_bool HR.out.symm, HBW1.out⟩
          · have CT := Lib.hid (isTask_b (HV.out.below HBW.out) (show (decide (0 ≤ l[k]) && decide (l[k] < (ls.length : Int))) = false by rw [Bool.eq_false_iff]; intro h; rw [Bool.and_eq_true, decide_eq_true_iff, decide_eq_true_iff] at h; exact hr h))
            have HR := nog (fun h => h.each k hlt) (fun ⟨t, ht, he, _⟩ => hr (by omega))
            clear nog hao hat HO hr HN
            generalize l[k] = x at *
            go_wp2_with fail
            refine CT.out.mono ?_
            rintro e w1 ⟨rfl, hb1⟩
            have HB1 := Lib.hid (bth HBW.out hb1 (Nat.le_refl _))
            clear hb1
            go_wp2_with fail
            go_ret
            exact ⟨ret_bool HR.out.symm, HB1.out⟩
        · have HR : Hid (goodG ls l = true) := goodG_iff.2 (GoodP.toG ⟨h1a, h1b, HL.out, fun i hi => HO.out i hi (by omega)⟩)
          clear HO hat hao nog HN
          go_wp2_with fail
          go_ret
          exact ⟨ret_bool HR.out.symm, HBW.out⟩
    · have e2 : ((l.length : Int) != (ls.length : Int)) = true := by simp; omega
      have HR := nog (fun h => h.same) h2
      obtain ⟨h1a, h1b⟩ := h1
      clear h2 nog hat hao c0 c1 hwa hsz
      go_enter Tryz.func108, Tryz.ntmps108
      go_wp2_with fail
      rw [← HWA.out]
      go_ret
      exact ⟨ret_bool HR.out.symm, HA.out⟩
  · have HR := nog (fun h => And.intro h.low h.high) h1
    clear nog hat hao c0 c1 hwa hsz
    by_cases h3 : ls.length < 1
    · go_enter Tryz.func108, Tryz.ntmps108
      go_wp2_with fail
      rw [← HWA.out]
      go_ret
      exact ⟨ret_bool HR.out.symm, HA.out⟩
    · have h4 : 10 < ls.length := by omega
      clear h1
      go_enter Tryz.func108, Tryz.ntmps108
      go_wp2_with fail
      rw [← HWA.out]
      go_ret
      exact ⟨ret_bool HR.out.symm, HA.out⟩
end Go.Proofs.YtgolhfmmlanmlaaGreatDoor

/- Walks: whether a plan is good, of the reference and of the program. -/
namespace Go.Proofs.YtgolhfmmlanmlaaGreatDoor
open Go.RowKit Pth

/-- One task of a plan is as it should be. -/
def planP (ls : List (List Int)) (bs : List Bool) (rs : List (List OpT)) (k : Nat) : Bool :=
  goodR (rs.getD k []) ((ls.getD k []).length : Int) && !(bs.getD k false && decide (0 < (rs.getD k []).length + (ls.getD k []).length))
noncomputable def planA (ls : List (List Int)) (l : List Int) (bs : List Bool) (rs : List (List OpT)) : Bool :=
  goodG ls l && (decide (bs.length = ls.length) && (decide (rs.length = ls.length) && (List.range ls.length).all (planP ls bs rs)))
theorem getD_at {α : Type} {l : List α} {k : Nat} (d : α) (h : k < l.length) : l.getD k d = l[k] := by
  rw [List.getD_eq_getElem?_getD, List.getElem?_eq_getElem h]; rfl
theorem planP_at {ls : List (List Int)} {bs : List Bool} {rs : List (List OpT)} {k : Nat} (h1 : k < ls.length) (h2 : k < bs.length) (h3 : k < rs.length) :
    planP ls bs rs k = (goodR rs[k] (ls[k].length : Int) && !(bs[k] && decide (0 < rs[k].length + ls[k].length))) := by
  unfold planP; rw [getD_at _ h1, getD_at _ h2, getD_at _ h3]
theorem plan_noG {ls : List (List Int)} {l : List Int} {bs : List Bool} {rs : List (List OpT)} (h : goodG ls l = false) : planA ls l bs rs = false := by unfold planA; rw [h]; rfl
theorem plan_noB {ls : List (List Int)} {l : List Int} {bs : List Bool} {rs : List (List OpT)} (h : bs.length ≠ ls.length) : planA ls l bs rs = false := by
  unfold planA; rw [decide_eq_false h]; simp
theorem plan_noR {ls : List (List Int)} {l : List Int} {bs : List Bool} {rs : List (List OpT)} (h : rs.length ≠ ls.length) : planA ls l bs rs = false := by
  unfold planA; rw [decide_eq_false h]; simp
theorem plan_bad {ls : List (List Int)} {l : List Int} {bs : List Bool} {rs : List (List OpT)} {k : Nat} (hk : k < ls.length) (h : planP ls bs rs k = false) : planA ls l bs rs = false := by
  have : (List.range ls.length).all (planP ls bs rs) = false := List.all_eq_false.2 ⟨k, by simpa using hk, by simp [h]⟩
  unfold planA; rw [this]; simp
theorem plan_end {ls : List (List Int)} {l : List Int} {bs : List Bool} {rs : List (List OpT)} {k : Nat} (hk : ls.length ≤ k) (hg : goodG ls l = true) (h1 : bs.length = ls.length) (h2 : rs.length = ls.length) (h : ∀ j, j < k → planP ls bs rs j = true) : planA ls l bs rs = true := by
  have : (List.range ls.length).all (planP ls bs rs) = true := List.all_eq_true.2 (fun j hj => h j (by simp at hj; omega))
  unfold planA; rw [hg, decide_eq_true h1, decide_eq_true h2, this]; rfl
theorem plan_next {ls : List (List Int)} {bs : List Bool} {rs : List (List OpT)} {k : Nat} (h : ∀ j, j < k → planP ls bs rs j = true) (hp : planP ls bs rs k = true) : ∀ j, j < k + 1 → planP ls bs rs j = true := by
  intro j hj
  by_cases e : j = k
  · rw [e]; exact hp
  · exact h j (by omega)
theorem plan_parts {ls : List (List Int)} {l : List Int} {bs : List Bool} {rs : List (List OpT)} (h : planA ls l bs rs = true) : GoodG ls l ∧ bs.length = ls.length ∧ rs.length = ls.length ∧ ∀ k, k < ls.length → planP ls bs rs k = true := by
  unfold planA at h
  simp only [Bool.and_eq_true, decide_eq_true_eq, List.all_eq_true, List.mem_range] at h
  exact ⟨goodG_iff.1 h.1, h.2.1, h.2.2.1, h.2.2.2⟩

theorem implGood_bR {r : List OpT} {ins : Int} {b : Bool} (h : goodR r ins = b) (v : Value) (w : World) (hrow : RowO w v r) : Calls Tryz.prog 109 #[v, .int .i64 ins] w (BoolPost b w) := by
  have := implGoodR_any r ins v w hrow; rwa [h] at this

set_option maxRecDepth 20000 in
set_option maxHeartbeats 8000000 in
theorem specPlan_any (ls : List (List Int)) (l : List Int) (bs : List Bool) (rs : List (List OpT)) (v : Value) (w : World) (hp : PlanV w v ls l bs rs) (hx : ∀ l ∈ rs, ∀ f ∈ l, f.2.2.length ≤ maxLen) :
    Calls Tryz.prog 72 #[v] w (BoolPost (planA ls l bs rs) w) := by
  obtain ⟨nv, ov, sv, rv, rfl, h1, h2, h3, h4⟩ := hp
  have H1 := Lib.hid h1
  have H2 := Lib.hid h2
  obtain ⟨as0, cs, rfl, hs1, hs2, hats⟩ := h3.boolsW
  obtain ⟨an, cn, rfl, hn1, hn2, hatn⟩ := h1.lists
  obtain ⟨ao, co, rfl, ho1, ho2, _⟩ := h2.ints
  obtain ⟨ar, cr, rfl, hr1, hr2, hatr⟩ := h4.lists
  clear h1 h2 h3 h4
  unfold maxLen at hs2 hn2 ho2 hr2
  obtain ⟨wa, hwa⟩ : ∃ wa, wa = w.alloc (.cells #[.slice an ls.length cn, .slice ao l.length co, .slice as0 bs.length cs, .slice ar rs.length cr] 42) := ⟨_, rfl⟩
  have hsz : w.heap.size < wa.heap.size := by rw [hwa]; simp
  have P0 : Hid (Blk4 wa w.heap.size 42 (.slice an ls.length cn) (.slice ao l.length co) (.slice as0 bs.length cs) (.slice ar rs.length cr)) := by rw [hwa]; exact Blk4.new
  have HA : Hid (Below w.heap.size w wa) := by rw [hwa]; exact (Below.refl w.heap.size w).alloc (Nat.le_refl _) _
  have HC := Lib.hid (specGood_any ls l (.agg #[.slice an ls.length cn, .slice ao l.length co]) wa ⟨_, _, rfl, H1.out.below HA.out, H2.out.below HA.out⟩)
  have HWA := Lib.hid hwa
  have HATS := Lib.hid hats
  have HATN := Lib.hid hatn
  have HATR := Lib.hid hatr
  have HX := Lib.hid hx
  obtain ⟨c0, c1, c2, c3⟩ := P0.out.cells
  clear hwa hats hatn hatr hx
  rcases hg : goodG ls l with _ | _
  · have HT : Hid (planA ls l bs rs = false) := plan_noG hg
    rw [hg] at HC
    clear hg
    go_enter Tryz.func72, Tryz.ntmps72
    go_wp2_with fail
    rw [← HWA.out]
    refine HC.out.mono ?_
    rintro e w1 ⟨rfl, hb1⟩
    have HB1 := Lib.hid (bth HA.out hb1 (Nat.le_refl _))
    clear hb1 c0 c1 c2 c3
    go_wp2_with fail
    go_ret
    exact ⟨ret_bool HT.out.symm, HB1.out⟩
  rw [hg] at HC
  by_cases hb : bs.length = ls.length
  · have eb : ((bs.length : Int) != (ls.length : Int)) = false := by simp [hb]
    by_cases hr : rs.length = ls.length
    · have er : ((rs.length : Int) != (ls.length : Int)) = false := by simp [hr]
      have HGG := Lib.hid hg
      have HBL := Lib.hid hb
      have HRL := Lib.hid hr
      have hgg := goodG_iff.1 hg
      have HLL : Hid (∀ k (hk : k < ls.length), ls[k].length ≤ 10) := fun k hk => by
        have hw := (hgg.each k hk).1
        have := rise_len hw.1 hw.2 (by have := hgg.low; omega)
        have := hgg.high
        omega
      have hhigh := hgg.high
      clear hg hgg hb hr
      go_enter Tryz.func72, Tryz.ntmps72
      go_wp2_with fail
      rw [← HWA.out]
      refine HC.out.mono ?_
      rintro e w1 ⟨rfl, hb1⟩
      have HB1 := Lib.hid hb1
      clear hb1 c0 c1 c2 c3 HC
      obtain ⟨c0, c1, c2, c3⟩ := (P0.out.below HB1.out hsz).cells
      go_wp2_with fail
      clear c0 c1 c2 c3
      go_loopw [31] (fun i wr => ∃ k : Nat, k ≤ ls.length ∧ i = .int .i64 k ∧ Hid (Below wa.heap.size wa wr) ∧ Hid (∀ j, j < k → planP ls bs rs j = true)) (fun i _ => ls.length - (intOf i).toNat)
      case atStart => exact ⟨0, Nat.zero_le _, rfl, HB1.out, fun j hj => by omega⟩
      case round =>
        clear HB1
        obtain ⟨k, hk, rfl, HB, HO⟩ := hrel
        have HBW := Lib.hid (bth HA.out HB.out (Nat.le_refl _))
        by_cases hlt : k < ls.length
        · have hkb : k < bs.length := by have := HBL.out; omega
          have hkr : k < rs.length := by have := HRL.out; omega
          obtain ⟨gn, on, an2, cn2, rfl, hgn, hcn, hrn⟩ := HATN.out k hlt
          obtain ⟨gb, ob, rfl, hgb, hcb⟩ := HATS.out k hkb
          obtain ⟨gr, or', ar2, cr2, rfl, hgr, hcr, hrr⟩ := HATR.out k hkr
          obtain ⟨_, _, hev, hcl, hcm, _⟩ := hrr.ops
          injection hev with hea _ hec
          subst hea hec
          obtain ⟨nr, hnr⟩ : ∃ n, rs[k].length = n := ⟨_, rfl⟩
          obtain ⟨nl, hnl⟩ : ∃ n, ls[k].length = n := ⟨_, rfl⟩
          obtain ⟨s, hs⟩ : ∃ s, bs[k] = s := ⟨_, rfl⟩
          have hrl : nr ≤ maxLen := by omega
          unfold maxLen at hrl
          have hl10 : nl ≤ 10 := by have := HLL.out k hlt; omega
          rw [hnl] at hcn
          rw [hnr] at hcr hrr
          rw [hs] at hcb
          have HNC : Hid (∀ W, Below w.heap.size w W → W.cell? ⟨gn, on + k, none⟩ = some (.slice an2 nl cn2)) := fun W h => (h.cell (p := ⟨gn, on + k, none⟩) hgn).trans hcn
          have HBC : Hid (∀ W, Below w.heap.size w W → W.cell? ⟨gb, ob + k, none⟩ = some (.bool s)) := fun W h => (h.cell (p := ⟨gb, ob + k, none⟩) hgb).trans hcb
          have HRC : Hid (∀ W, Below w.heap.size w W → W.cell? ⟨gr, or' + k, none⟩ = some (.slice ar2 nr cr2)) := fun W h => (h.cell (p := ⟨gr, or' + k, none⟩) hgr).trans hcr
          obtain ⟨b1, hb1⟩ : ∃ b, goodR rs[k] (nl : Int) = b := ⟨_, rfl⟩
          have HCR : Hid (∀ W, Below w.heap.size w W → Calls Tryz.prog 103 #[.slice ar2 nr cr2, .int .i64 (nl : Int)] W (BoolPost b1 W)) := fun W h => specGood_b hb1 _ W (hrr.below h) (fun f hf => HX.out _ (List.getElem_mem hkr) f hf)
          have H8 : Hid (b1 = true → nr ≤ 8) := fun h => by rw [h] at hb1; have := (goodR_iff.1 hb1).2.2.1; omega
          have hPP : planP ls bs rs k = (b1 && !(s && decide (0 < nr + nl))) := by rw [planP_at hlt hkb hkr, hnl, hb1, hnr, hs]
          have hs1 := HNC.out wr HBW.out
          have hs2 := HBC.out wr HBW.out
          have hs3 := HRC.out wr HBW.out
          have hki : (k : Int) < (bs.length : Int) := by omega
          have hkj : (k : Int) < (rs.length : Int) := by omega
          obtain ⟨c0, c1, c2, c3⟩ := (P0.out.below HB.out hsz).cells
          clear hcn hcb hcr hrn hrr hb1 HATN HATS HATR HX H1 H2 hnr hnl hs hcl hcm
          by_cases hz : 0 < nr + nl
          · rw [decide_eq_true hz] at hPP
            have HS : Hid (if b1 && !s then (∀ j, j < k + 1 → planP ls bs rs j = true) else planA ls l bs rs = false) := by
              unfold Hid
              split
              · rename_i h; exact plan_next HO.out (by rw [hPP, Bool.and_true]; exact h)
              · rename_i h; exact plan_bad hlt (by rw [hPP, Bool.and_true]; simpa using h)
            clear hPP HO
            rcases b1 with _ | _
            · go_wp2_with fail
              refine (HCR.out wr HBW.out).mono ?_
              rintro e w2 ⟨rfl, hb2⟩
              have HB2 := Lib.hid (bth HB.out hb2 (Nat.le_refl _))
              have HBW2 := Lib.hid (bth HA.out HB2.out (Nat.le_refl _))
              clear hb2 c0 c1 c2 c3 hs1 hs2 hs3
              obtain ⟨c0, c1, c2, c3⟩ := (P0.out.below HB2.out hsz).cells
              have hs1 := HNC.out w2 HBW2.out
              have hs2 := HBC.out w2 HBW2.out
              have hs3 := HRC.out w2 HBW2.out
              go_wp2_with fail
              go_ret
              exact ⟨ret_bool (by have := HS.out; simp at this; simp [this]), HBW2.out⟩
            · go_wp2_with fail
              refine (HCR.out wr HBW.out).mono ?_
              rintro e w2 ⟨rfl, hb2⟩
              have HB2 := Lib.hid (bth HB.out hb2 (Nat.le_refl _))
              have HBW2 := Lib.hid (bth HA.out HB2.out (Nat.le_refl _))
              clear hb2 c0 c1 c2 c3 hs1 hs2 hs3
              obtain ⟨c0, c1, c2, c3⟩ := (P0.out.below HB2.out hsz).cells
              have hs1 := HNC.out w2 HBW2.out
              have hs2 := HBC.out w2 HBW2.out
              have hs3 := HRC.out w2 HBW2.out
              rcases s with _ | _
              · go_wp2_with fail
                all_goals
                  go_roundw
                  case rel => exact ⟨k + 1, by omega, by go_num, HB2, by have := HS.out; simpa [Hid] using this⟩
                  case measure => simp [intOf]; omega
              · have hd : (0 : Int) < (nr : Int) + (nl : Int) := by omega
                have h8 : nr ≤ 8 := by simpa using H8.out
                have hwr : IntKind.i64.wrap ((nr : Int) + (nl : Int)) = (nr : Int) + (nl : Int) := by rw [IntKind.wrap_i64]; omega
                go_wp2_with fail
                go_ret
                exact ⟨ret_bool (by have := HS.out; simp at this; simp [this]), HBW2.out⟩
          · rw [decide_eq_false hz] at hPP
            have HS : Hid (if b1 then (∀ j, j < k + 1 → planP ls bs rs j = true) else planA ls l bs rs = false) := by
              unfold Hid
              split
              · rename_i h; exact plan_next HO.out (by rw [hPP, Bool.and_false, h]; rfl)
              · rename_i h; exact plan_bad hlt (by rw [hPP, Bool.and_false]; simpa using h)
            clear hPP HO
            obtain rfl : nr = 0 := by omega
            obtain rfl : nl = 0 := by omega
            clear hz
            rcases b1 with _ | _
            · go_wp2_with fail
              refine (HCR.out wr HBW.out).mono ?_
              rintro e w2 ⟨rfl, hb2⟩
              have HB2 := Lib.hid (bth HB.out hb2 (Nat.le_refl _))
              have HBW2 := Lib.hid (bth HA.out HB2.out (Nat.le_refl _))
              clear hb2 c0 c1 c2 c3 hs1 hs2 hs3
              obtain ⟨c0, c1, c2, c3⟩ := (P0.out.below HB2.out hsz).cells
              have hs1 := HNC.out w2 HBW2.out
              have hs2 := HBC.out w2 HBW2.out
              have hs3 := HRC.out w2 HBW2.out
              go_wp2_with fail
              go_ret
              exact ⟨ret_bool (by have := HS.out; simp at this; simp [this]), HBW2.out⟩
            · go_wp2_with fail
              refine (HCR.out wr HBW.out).mono ?_
              rintro e w2 ⟨rfl, hb2⟩
              have HB2 := Lib.hid (bth HB.out hb2 (Nat.le_refl _))
              have HBW2 := Lib.hid (bth HA.out HB2.out (Nat.le_refl _))
              clear hb2 c0 c1 c2 c3 hs1 hs2 hs3
              obtain ⟨c0, c1, c2, c3⟩ := (P0.out.below HB2.out hsz).cells
              have hs1 := HNC.out w2 HBW2.out
              have hs2 := HBC.out w2 HBW2.out
              have hs3 := HRC.out w2 HBW2.out
              rcases s with _ | _
              · go_wp2_with fail
                all_goals
                  go_roundw
                  case rel => exact ⟨k + 1, by omega, by go_num, HB2, by have := HS.out; simpa [Hid] using this⟩
                  case measure => simp [intOf]; omega
              · go_wp2_with fail
                all_goals
                  go_roundw
                  case rel => exact ⟨k + 1, by omega, by go_num, HB2, by have := HS.out; simpa [Hid] using this⟩
                  case measure => simp [intOf]; omega
        · have HT : Hid (planA ls l bs rs = true) := plan_end (by omega) HGG.out HBL.out HRL.out HO.out
          have hnk : ¬ (k : Int) < (rs.length : Int) := by have := HRL.out; omega
          clear HO HATN HATS HATR
          go_wp2_with fail
          go_ret
          exact ⟨ret_bool HT.out.symm, HBW.out⟩
    · have er : ((rs.length : Int) != (ls.length : Int)) = true := by simp; omega
      have HT : Hid (planA ls l bs rs = false) := plan_noR hr
      clear hg hb hr
      go_enter Tryz.func72, Tryz.ntmps72
      go_wp2_with fail
      rw [← HWA.out]
      refine HC.out.mono ?_
      rintro e w1 ⟨rfl, hb1⟩
      have HB1 := Lib.hid (bth HA.out hb1 (Nat.le_refl _))
      obtain ⟨d0, d1, d2, d3⟩ := (P0.out.below hb1 hsz).cells
      clear hb1 c0 c1 c2 c3
      go_wp2_with fail
      go_ret
      exact ⟨ret_bool HT.out.symm, HB1.out⟩
  · have eb : ((bs.length : Int) != (ls.length : Int)) = true := by simp; omega
    have HT : Hid (planA ls l bs rs = false) := plan_noB hb
    clear hg hb
    go_enter Tryz.func72, Tryz.ntmps72
    go_wp2_with fail
    rw [← HWA.out]
    refine HC.out.mono ?_
    rintro e w1 ⟨rfl, hb1⟩
    have HB1 := Lib.hid (bth HA.out hb1 (Nat.le_refl _))
    obtain ⟨d0, d1, d2, d3⟩ := (P0.out.below hb1 hsz).cells
    clear hb1 c0 c1 c2 c3
    go_wp2_with fail
    go_ret
    exact ⟨ret_bool HT.out.symm, HB1.out⟩
theorem specPlan_b {ls : List (List Int)} {l : List Int} {bs : List Bool} {rs : List (List OpT)} {b : Bool} (h : planA ls l bs rs = b) (v : Value) (w : World) (hp : PlanV w v ls l bs rs) (hx : ∀ l ∈ rs, ∀ f ∈ l, f.2.2.length ≤ maxLen) : Calls Tryz.prog 72 #[v] w (BoolPost b w) := by
  have := specPlan_any ls l bs rs v w hp hx; rwa [h] at this

end Go.Proofs.YtgolhfmmlanmlaaGreatDoor

/- Walks: whether a plan is good, of the program. -/
namespace Go.Proofs.YtgolhfmmlanmlaaGreatDoor
open Go.RowKit Pth

set_option maxRecDepth 20000 in
set_option maxHeartbeats 8000000 in
theorem implPlan_any (ls : List (List Int)) (l : List Int) (bs : List Bool) (rs : List (List OpT)) (v : Value) (w : World) (hp : PlanV w v ls l bs rs) (hx : ∀ l ∈ rs, ∀ f ∈ l, f.2.2.length ≤ maxLen) :
    Calls Tryz.prog 79 #[v] w (BoolPost (planA ls l bs rs) w) := by
  obtain ⟨nv, ov, sv, rv, rfl, h1, h2, h3, h4⟩ := hp
  have H1 := Lib.hid h1
  have H2 := Lib.hid h2
  obtain ⟨as0, cs, rfl, hs1, hs2, hats⟩ := h3.boolsW
  obtain ⟨an, cn, rfl, hn1, hn2, hatn⟩ := h1.lists
  obtain ⟨ao, co, rfl, ho1, ho2, _⟩ := h2.ints
  obtain ⟨ar, cr, rfl, hr1, hr2, hatr⟩ := h4.lists
  clear h1 h2 h3 h4
  unfold maxLen at hs2 hn2 ho2 hr2
  obtain ⟨wa, hwa⟩ : ∃ wa, wa = w.alloc (.cells #[.slice an ls.length cn, .slice ao l.length co, .slice as0 bs.length cs, .slice ar rs.length cr] 42) := ⟨_, rfl⟩
  have hsz : w.heap.size < wa.heap.size := by rw [hwa]; simp
  have P0 : Hid (Blk4 wa w.heap.size 42 (.slice an ls.length cn) (.slice ao l.length co) (.slice as0 bs.length cs) (.slice ar rs.length cr)) := by rw [hwa]; exact Blk4.new
  have HA : Hid (Below w.heap.size w wa) := by rw [hwa]; exact (Below.refl w.heap.size w).alloc (Nat.le_refl _) _
  have HC := Lib.hid (implGood_any ls l (.agg #[.slice an ls.length cn, .slice ao l.length co]) wa ⟨_, _, rfl, H1.out.below HA.out, H2.out.below HA.out⟩)
  have HWA := Lib.hid hwa
  have HATS := Lib.hid hats
  have HATN := Lib.hid hatn
  have HATR := Lib.hid hatr
  have HX := Lib.hid hx
  obtain ⟨c0, c1, c2, c3⟩ := P0.out.cells
  clear hwa hats hatn hatr hx
  rcases hg : goodG ls l with _ | _
  · have HT : Hid (planA ls l bs rs = false) := plan_noG hg
    rw [hg] at HC
    clear hg
    go_enter Tryz.func79, Tryz.ntmps79
    go_wp2_with fail
    rw [← HWA.out]
    refine HC.out.mono ?_
    rintro e w1 ⟨rfl, hb1⟩
    have HB1 := Lib.hid (bth HA.out hb1 (Nat.le_refl _))
    clear hb1 c0 c1 c2 c3
    go_wp2_with fail
    go_ret
    exact ⟨ret_bool HT.out.symm, HB1.out⟩
  rw [hg] at HC
  by_cases hb : bs.length = ls.length
  · have eb : ((bs.length : Int) != (ls.length : Int)) = false := by simp [hb]
    by_cases hr : rs.length = ls.length
    · have er : ((rs.length : Int) != (ls.length : Int)) = false := by simp [hr]
      have HGG := Lib.hid hg
      have HBL := Lib.hid hb
      have HRL := Lib.hid hr
      have hgg := goodG_iff.1 hg
      have HLL : Hid (∀ k (hk : k < ls.length), ls[k].length ≤ 10) := fun k hk => by
        have hw := (hgg.each k hk).1
        have := rise_len hw.1 hw.2 (by have := hgg.low; omega)
        have := hgg.high
        omega
      have hhigh := hgg.high
      clear hg hgg hb hr
      go_enter Tryz.func79, Tryz.ntmps79
      go_wp2_with fail
      rw [← HWA.out]
      refine HC.out.mono ?_
      rintro e w1 ⟨rfl, hb1⟩
      have HB1 := Lib.hid hb1
      clear hb1 c0 c1 c2 c3 HC
      obtain ⟨c0, c1, c2, c3⟩ := (P0.out.below HB1.out hsz).cells
      go_wp2_with fail
      clear c0 c1 c2 c3
      go_loopw [33] (fun i wr => ∃ k : Nat, k ≤ ls.length ∧ i = .int .i64 k ∧ Hid (Below wa.heap.size wa wr) ∧ Hid (∀ j, j < k → planP ls bs rs j = true)) (fun i _ => ls.length - (intOf i).toNat)
      case atStart => exact ⟨0, Nat.zero_le _, rfl, HB1.out, fun j hj => by omega⟩
      case round =>
        clear HB1
        obtain ⟨k, hk, rfl, HB, HO⟩ := hrel
        have HBW := Lib.hid (bth HA.out HB.out (Nat.le_refl _))
        by_cases hlt : k < ls.length
        · have hkb : k < bs.length := by have := HBL.out; omega
          have hkr : k < rs.length := by have := HRL.out; omega
          obtain ⟨gn, on, an2, cn2, rfl, hgn, hcn, hrn⟩ := HATN.out k hlt
          obtain ⟨gb, ob, rfl, hgb, hcb⟩ := HATS.out k hkb
          obtain ⟨gr, or', ar2, cr2, rfl, hgr, hcr, hrr⟩ := HATR.out k hkr
          obtain ⟨_, _, hev, hcl, hcm, _⟩ := hrr.ops
          injection hev with hea _ hec
          subst hea hec
          obtain ⟨nr, hnr⟩ : ∃ n, rs[k].length = n := ⟨_, rfl⟩
          obtain ⟨nl, hnl⟩ : ∃ n, ls[k].length = n := ⟨_, rfl⟩
          obtain ⟨s, hs⟩ : ∃ s, bs[k] = s := ⟨_, rfl⟩
          have hrl : nr ≤ maxLen := by omega
          unfold maxLen at hrl
          have hl10 : nl ≤ 10 := by have := HLL.out k hlt; omega
          rw [hnl] at hcn
          rw [hnr] at hcr hrr
          rw [hs] at hcb
          have HNC : Hid (∀ W, Below w.heap.size w W → W.cell? ⟨gn, on + k, none⟩ = some (.slice an2 nl cn2)) := fun W h => (h.cell (p := ⟨gn, on + k, none⟩) hgn).trans hcn
          have HBC : Hid (∀ W, Below w.heap.size w W → W.cell? ⟨gb, ob + k, none⟩ = some (.bool s)) := fun W h => (h.cell (p := ⟨gb, ob + k, none⟩) hgb).trans hcb
          have HRC : Hid (∀ W, Below w.heap.size w W → W.cell? ⟨gr, or' + k, none⟩ = some (.slice ar2 nr cr2)) := fun W h => (h.cell (p := ⟨gr, or' + k, none⟩) hgr).trans hcr
          obtain ⟨b1, hb1⟩ : ∃ b, goodR rs[k] (nl : Int) = b := ⟨_, rfl⟩
          have HCR : Hid (∀ W, Below w.heap.size w W → Calls Tryz.prog 109 #[.slice ar2 nr cr2, .int .i64 (nl : Int)] W (BoolPost b1 W)) := fun W h => implGood_bR hb1 _ W (hrr.below h)
          have H8 : Hid (b1 = true → nr ≤ 8) := fun h => by rw [h] at hb1; have := (goodR_iff.1 hb1).2.2.1; omega
          have hPP : planP ls bs rs k = (b1 && !(s && decide (0 < nr + nl))) := by rw [planP_at hlt hkb hkr, hnl, hb1, hnr, hs]
          have hs1 := HNC.out wr HBW.out
          have hs2 := HBC.out wr HBW.out
          have hs3 := HRC.out wr HBW.out
          have hki : (k : Int) < (bs.length : Int) := by omega
          have hkj : (k : Int) < (rs.length : Int) := by omega
          obtain ⟨c0, c1, c2, c3⟩ := (P0.out.below HB.out hsz).cells
          clear hcn hcb hcr hrn hrr hb1 HATN HATS HATR HX H1 H2 hnr hnl hs hcl hcm
          by_cases hz : 0 < nr + nl
          · rw [decide_eq_true hz] at hPP
            have HS : Hid (if b1 && !s then (∀ j, j < k + 1 → planP ls bs rs j = true) else planA ls l bs rs = false) := by
              unfold Hid
              split
              · rename_i h; exact plan_next HO.out (by rw [hPP, Bool.and_true]; exact h)
              · rename_i h; exact plan_bad hlt (by rw [hPP, Bool.and_true]; simpa using h)
            clear hPP HO
            by_cases hn0 : nl = 0
            · subst hn0
              have q2 : ((nr : Int) == 0) = false := by simp; omega
              rcases s with _ | _
              · rcases b1 with _ | _
                · go_wp2_with fail
                  refine (HCR.out wr HBW.out).mono ?_
                  rintro e w2 ⟨rfl, hb2⟩
                  have HB2 := Lib.hid (bth HB.out hb2 (Nat.le_refl _))
                  have HBW2 := Lib.hid (bth HA.out HB2.out (Nat.le_refl _))
                  clear hb2 c0 c1 c2 c3 hs1 hs2 hs3
                  obtain ⟨c0, c1, c2, c3⟩ := (P0.out.below HB2.out hsz).cells
                  have hs1 := HNC.out w2 HBW2.out
                  have hs2 := HBC.out w2 HBW2.out
                  have hs3 := HRC.out w2 HBW2.out
                  go_wp2_with fail
                  go_ret
                  exact ⟨ret_bool (by have := HS.out; simp at this; simp [this]), HBW2.out⟩
                · go_wp2_with fail
                  refine (HCR.out wr HBW.out).mono ?_
                  rintro e w2 ⟨rfl, hb2⟩
                  have HB2 := Lib.hid (bth HB.out hb2 (Nat.le_refl _))
                  have HBW2 := Lib.hid (bth HA.out HB2.out (Nat.le_refl _))
                  clear hb2 c0 c1 c2 c3 hs1 hs2 hs3
                  obtain ⟨c0, c1, c2, c3⟩ := (P0.out.below HB2.out hsz).cells
                  have hs1 := HNC.out w2 HBW2.out
                  have hs2 := HBC.out w2 HBW2.out
                  have hs3 := HRC.out w2 HBW2.out
                  go_wp2_with fail
                  all_goals
                    go_roundw
                    case rel => exact ⟨k + 1, by omega, by go_num, HB2, by have := HS.out; simpa [Hid] using this⟩
                    case measure => simp [intOf]; omega
              · go_wp2_with fail
                go_ret
                exact ⟨ret_bool (by have := HS.out; simp at this; simp [this]), HBW.out⟩
            · have q1 : ((nl : Int) == 0) = false := by simpa using hn0
              rcases s with _ | _
              · rcases b1 with _ | _
                · go_wp2_with fail
                  refine (HCR.out wr HBW.out).mono ?_
                  rintro e w2 ⟨rfl, hb2⟩
                  have HB2 := Lib.hid (bth HB.out hb2 (Nat.le_refl _))
                  have HBW2 := Lib.hid (bth HA.out HB2.out (Nat.le_refl _))
                  clear hb2 c0 c1 c2 c3 hs1 hs2 hs3
                  obtain ⟨c0, c1, c2, c3⟩ := (P0.out.below HB2.out hsz).cells
                  have hs1 := HNC.out w2 HBW2.out
                  have hs2 := HBC.out w2 HBW2.out
                  have hs3 := HRC.out w2 HBW2.out
                  go_wp2_with fail
                  go_ret
                  exact ⟨ret_bool (by have := HS.out; simp at this; simp [this]), HBW2.out⟩
                · go_wp2_with fail
                  refine (HCR.out wr HBW.out).mono ?_
                  rintro e w2 ⟨rfl, hb2⟩
                  have HB2 := Lib.hid (bth HB.out hb2 (Nat.le_refl _))
                  have HBW2 := Lib.hid (bth HA.out HB2.out (Nat.le_refl _))
                  clear hb2 c0 c1 c2 c3 hs1 hs2 hs3
                  obtain ⟨c0, c1, c2, c3⟩ := (P0.out.below HB2.out hsz).cells
                  have hs1 := HNC.out w2 HBW2.out
                  have hs2 := HBC.out w2 HBW2.out
                  have hs3 := HRC.out w2 HBW2.out
                  go_wp2_with fail
                  all_goals
                    go_roundw
                    case rel => exact ⟨k + 1, by omega, by go_num, HB2, by have := HS.out; simpa [Hid] using this⟩
                    case measure => simp [intOf]; omega
              · go_wp2_with fail
                go_ret
                exact ⟨ret_bool (by have := HS.out; simp at this; simp [this]), HBW.out⟩
          · rw [decide_eq_false hz] at hPP
            have HS : Hid (if b1 then (∀ j, j < k + 1 → planP ls bs rs j = true) else planA ls l bs rs = false) := by
              unfold Hid
              split
              · rename_i h; exact plan_next HO.out (by rw [hPP, Bool.and_false, h]; rfl)
              · rename_i h; exact plan_bad hlt (by rw [hPP, Bool.and_false]; simpa using h)
            clear hPP HO
            obtain rfl : nr = 0 := by omega
            obtain rfl : nl = 0 := by omega
            clear hz
            rcases b1 with _ | _
            · rcases s with _ | _
              · go_wp2_with fail
                refine (HCR.out wr HBW.out).mono ?_
                rintro e w2 ⟨rfl, hb2⟩
                have HB2 := Lib.hid (bth HB.out hb2 (Nat.le_refl _))
                have HBW2 := Lib.hid (bth HA.out HB2.out (Nat.le_refl _))
                clear hb2 c0 c1 c2 c3 hs1 hs2 hs3
                obtain ⟨c0, c1, c2, c3⟩ := (P0.out.below HB2.out hsz).cells
                have hs1 := HNC.out w2 HBW2.out
                have hs2 := HBC.out w2 HBW2.out
                have hs3 := HRC.out w2 HBW2.out
                go_wp2_with fail
                go_ret
                exact ⟨ret_bool (by have := HS.out; simp at this; simp [this]), HBW2.out⟩
              · go_wp2_with fail
                refine (HCR.out wr HBW.out).mono ?_
                rintro e w2 ⟨rfl, hb2⟩
                have HB2 := Lib.hid (bth HB.out hb2 (Nat.le_refl _))
                have HBW2 := Lib.hid (bth HA.out HB2.out (Nat.le_refl _))
                clear hb2 c0 c1 c2 c3 hs1 hs2 hs3
                obtain ⟨c0, c1, c2, c3⟩ := (P0.out.below HB2.out hsz).cells
                have hs1 := HNC.out w2 HBW2.out
                have hs2 := HBC.out w2 HBW2.out
                have hs3 := HRC.out w2 HBW2.out
                go_wp2_with fail
                go_ret
                exact ⟨ret_bool (by have := HS.out; simp at this; simp [this]), HBW2.out⟩
            · rcases s with _ | _
              · go_wp2_with fail
                refine (HCR.out wr HBW.out).mono ?_
                rintro e w2 ⟨rfl, hb2⟩
                have HB2 := Lib.hid (bth HB.out hb2 (Nat.le_refl _))
                have HBW2 := Lib.hid (bth HA.out HB2.out (Nat.le_refl _))
                clear hb2 c0 c1 c2 c3 hs1 hs2 hs3
                obtain ⟨c0, c1, c2, c3⟩ := (P0.out.below HB2.out hsz).cells
                have hs1 := HNC.out w2 HBW2.out
                have hs2 := HBC.out w2 HBW2.out
                have hs3 := HRC.out w2 HBW2.out
                go_wp2_with fail
                all_goals
                  go_roundw
                  case rel => exact ⟨k + 1, by omega, by go_num, HB2, by have := HS.out; simpa [Hid] using this⟩
                  case measure => simp [intOf]; omega
              · go_wp2_with fail
                refine (HCR.out wr HBW.out).mono ?_
                rintro e w2 ⟨rfl, hb2⟩
                have HB2 := Lib.hid (bth HB.out hb2 (Nat.le_refl _))
                have HBW2 := Lib.hid (bth HA.out HB2.out (Nat.le_refl _))
                clear hb2 c0 c1 c2 c3 hs1 hs2 hs3
                obtain ⟨c0, c1, c2, c3⟩ := (P0.out.below HB2.out hsz).cells
                have hs1 := HNC.out w2 HBW2.out
                have hs2 := HBC.out w2 HBW2.out
                have hs3 := HRC.out w2 HBW2.out
                go_wp2_with fail
                all_goals
                  go_roundw
                  case rel => exact ⟨k + 1, by omega, by go_num, HB2, by have := HS.out; simpa [Hid] using this⟩
                  case measure => simp [intOf]; omega
        · have HT : Hid (planA ls l bs rs = true) := plan_end (by omega) HGG.out HBL.out HRL.out HO.out
          have hnk : ¬ (k : Int) < (rs.length : Int) := by have := HRL.out; omega
          clear HO HATN HATS HATR
          go_wp2_with fail
          go_ret
          exact ⟨ret_bool HT.out.symm, HBW.out⟩
    · have er : ((rs.length : Int) != (ls.length : Int)) = true := by simp; omega
      have HT : Hid (planA ls l bs rs = false) := plan_noR hr
      clear hg hb hr
      go_enter Tryz.func79, Tryz.ntmps79
      go_wp2_with fail
      rw [← HWA.out]
      refine HC.out.mono ?_
      rintro e w1 ⟨rfl, hb1⟩
      have HB1 := Lib.hid (bth HA.out hb1 (Nat.le_refl _))
      obtain ⟨d0, d1, d2, d3⟩ := (P0.out.below hb1 hsz).cells
      clear hb1 c0 c1 c2 c3
      go_wp2_with fail
      go_ret
      exact ⟨ret_bool HT.out.symm, HB1.out⟩
  · have eb : ((bs.length : Int) != (ls.length : Int)) = true := by simp; omega
    have HT : Hid (planA ls l bs rs = false) := plan_noB hb
    clear hg hb
    go_enter Tryz.func79, Tryz.ntmps79
    go_wp2_with fail
    rw [← HWA.out]
    refine HC.out.mono ?_
    rintro e w1 ⟨rfl, hb1⟩
    have HB1 := Lib.hid (bth HA.out hb1 (Nat.le_refl _))
    obtain ⟨d0, d1, d2, d3⟩ := (P0.out.below hb1 hsz).cells
    clear hb1 c0 c1 c2 c3
    go_wp2_with fail
    go_ret
    exact ⟨ret_bool HT.out.symm, HB1.out⟩
theorem implPlan_b {ls : List (List Int)} {l : List Int} {bs : List Bool} {rs : List (List OpT)} {b : Bool} (h : planA ls l bs rs = b) (v : Value) (w : World) (hp : PlanV w v ls l bs rs) (hx : ∀ l ∈ rs, ∀ f ∈ l, f.2.2.length ≤ maxLen) : Calls Tryz.prog 79 #[v] w (BoolPost b w) := by
  have := implPlan_any ls l bs rs v w hp hx; rwa [h] at this

end Go.Proofs.YtgolhfmmlanmlaaGreatDoor
