/- Texts of one claim, joined in their order. -/
import Derived.Test.YtcfhfhpdnjaokaaM4
import Derived.Test.YtcfhfhpdnjaokaaM3

/- Walks: the program's deeds of a recipe, and whether it is good. -/
namespace Go.Proofs.Ytcfhfhpdnjaokaa
open Go.RowKit Pth

/-- Deeds and whether they stand are handed back, in memory of the call's own. -/
def DeedsPost (r : List OpT) (ok : Bool) (w : World) (e : Ending) (w' : World) : Prop :=
  ∃ v, e = .returned (.tuple #[v, .bool ok]) ∧ w'.ownsRow w.heap.size 108 1 v (if ok then r else []).length (DC (if ok then r else [])) ∧ Below w.heap.size w w'
theorem none_ownD (w : World) (B e : Nat) : w.ownsRow B e 1 (.slice none 0 0) 0 [] := ⟨rfl, .inl ⟨rfl, rfl⟩⟩
theorem DC_next {r : List OpT} {k : Nat} (hk : k < r.length) : DC (r.take (k + 1)) = DC (r.take k) ++ [deedV r[k]] := by
  rw [List.take_succ_eq_append_getElem hk]; unfold DC; rw [List.map_append]; rfl
theorem deedOf_b {o : OpT} {T : TypeId} {v : Value} (h : deedV o = .iface T v) (hk : knownB o = true) (w : World) : Calls Try.prog 77 #[opV o] w (DeedPost (.iface T v) true w) := by
  have := deedOf_any o w; rwa [h, hk] at this
theorem deedOf_n {o : OpT} (hk : knownB o = false) (w : World) : Calls Try.prog 77 #[opV o] w fun e w' => ∃ d, e = .returned (.tuple #[d, .bool false]) ∧ Below w.heap.size w w' := by
  have := deedOf_any o w
  rw [hk] at this
  exact this.mono fun e w' h => ⟨_, h⟩

theorem deeds_bad {r : List OpT} {ok : Bool} {w w' : World} (h : ok = false) (hb : Below w.heap.size w w') : DeedsPost r ok w (.returned (.tuple #[.slice none 0 0, .bool false])) w' := by
  subst h
  exact ⟨_, rfl, none_ownD _ _ _, hb⟩
theorem deeds_good {r : List OpT} {ok : Bool} {w w' : World} {v : Value} (h : ok = true) (hn : w'.ownsRow w.heap.size 108 1 v r.length (DC r)) (hb : Below w.heap.size w w') : DeedsPost r ok w (.returned (.tuple #[v, .bool true])) w' := by
  subst h
  exact ⟨_, rfl, hn, hb⟩

set_option maxRecDepth 20000 in
set_option maxHeartbeats 4000000 in
theorem deedsOf_any (r : List OpT) (ins : Int) (v : Value) (w : World) (hrow : RowO w v r) :
    Calls Try.prog 65 #[v, .int .i64 ins] w (DeedsPost r (goodR r ins) w) := by
  obtain ⟨a, cap, rfl, hc1, hc2, hat⟩ := hrow.ops
  clear hrow
  unfold maxLen at hc2
  by_cases h8 : 8 < r.length
  · rw [goodR_long h8]
    have hd : decide ((r.length : Int) > 8) = true := decide_eq_true (by omega)
    clear hat
    go_enter Try.func65, Try.ntmps65
    go_wp2_with fail
    go_ret2
    exact ⟨_, rfl, none_ownD _ _ _, Below.refl _ _⟩
  have hd : decide ((r.length : Int) > 8) = false := decide_eq_false (by omega)
  by_cases hi0 : 0 ≤ ins
  · have d1 : decide (ins < 0) = false := decide_eq_false (by omega)
    by_cases hi1 : ins ≤ 10
    · have d2 : decide (ins > 10) = false := decide_eq_false (by omega)
      go_enter Try.func65, Try.ntmps65
      go_wp2_with fail
      go_loopw [6, 24] (fun q i wr => ∃ k : Nat, k ≤ r.length ∧ i = .int .i64 k ∧ Hid (Below w.heap.size w wr) ∧ Hid ((r.take k).all (opOk ins) = true) ∧ Hid (wr.ownsRow w.heap.size 108 1 q (DC (r.take k)).length (DC (r.take k)))) (fun _ i _ => r.length - (intOf i).toNat)
      case atStart => exact ⟨0, Nat.zero_le _, rfl, Below.refl _ _, by simp [Hid], none_ownD _ _ _⟩
      case round =>
        obtain ⟨k, hk, rfl, HB, HO, HN⟩ := hrel
        have hbs := HB.out.size
        have hdl : (DC (r.take k)).length ≤ 8 := by rw [DC_len, List.length_take]; omega
        by_cases hlt : k < r.length
        · obtain ⟨g, o, rfl, hg, hcell1, hcell2, hcell3⟩ := hat k hlt
          have s1 := (HB.out.cell (p := ⟨g, o + k * 3, none⟩) hg).trans hcell1
          have s2 := (HB.out.cell (p := ⟨g, o + k * 3 + 1, none⟩) hg).trans hcell2
          have s3 := (HB.out.cell (p := ⟨g, o + k * 3 + 2, none⟩) hg).trans hcell3
          obtain ⟨wa, hwa⟩ : ∃ wa, wa = wr.alloc (.cells #[.int .i64 r[k].1, .int .i64 r[k].2.1, .string ⟨r[k].2.2.toArray⟩] 81) := ⟨_, rfl⟩
          have HBA : Hid (Below w.heap.size w wa) := by rw [hwa]; exact HB.out.alloc hbs _
          have HNA := Lib.hid (HN.out.alloc (.cells #[.int .i64 r[k].1, .int .i64 r[k].2.1, .string ⟨r[k].2.2.toArray⟩] 81))
          rw [← hwa] at HNA
          have hsz : wr.heap.size < wa.heap.size := by rw [hwa]; simp
          have p0 : wa.cell? ⟨wr.heap.size, 0, none⟩ = some (.int .i64 r[k].1) := by rw [hwa]; simp
          have p1 : wa.cell? ⟨wr.heap.size, 1, none⟩ = some (.int .i64 r[k].2.1) := by rw [hwa]; simp
          have p2 : wa.cell? ⟨wr.heap.size, 2, none⟩ = some (.string ⟨r[k].2.2.toArray⟩) := by rw [hwa]; simp
          have HWA := Lib.hid hwa
          have HIS := Lib.hid (opOk_is ins r[k])
          have HNX := Lib.hid (DC_next hlt)
          have HGB := Lib.hid (fun h => goodR_bad (ins := ins) hlt h)
          have HGG := Lib.hid (fun h => all_next hlt HO.out h)
          clear hcell1 hcell2 hcell3 hat HO HN hwa HB
          generalize r[k] = x at s1 s2 s3 HWA HIS HNX HGB HGG p0 p1 p2
          rcases hkn : knownB x with _ | _
          · have HC := Lib.hid (fun W => deedOf_n hkn W)
            have HG := Lib.hid (HGB.out (by rw [HIS.out, hkn]; rfl))
            clear HIS HNX HGB HGG hkn HNA
            obtain ⟨x1, x2, x3⟩ := x
            unfold opV at HC
            simp only at s1 s2 s3 HC HWA p0 p1 p2
            go_wp2_with fail
            rw [← HWA.out]
            refine (HC.out _).mono ?_
            rintro e w1 ⟨d, rfl, hb1⟩
            have HB1 := Lib.hid (HBA.out.trans (hb1.mono HBA.out.size))
            clear hb1 HC
            go_wp2_with fail
            go_quiet (fail)
            go_wp2_with fail
            go_ret2
            exact deeds_bad HG.out (below_drewN HB1.out _)
          · obtain ⟨T, dv, K, D⟩ := deed_at hkn
            have HC := Lib.hid (fun W => deedOf_b D.val hkn W)
            have hme := D.meth
            have hen := D.ent
            have HAS := Lib.hid D.told
            have HRG := Lib.hid (D.rng ins)
            have HV := Lib.hid D.val
            have hnq := fun W => neq_op (asO x) x W
            obtain ⟨b, hb⟩ : ∃ b, decide (asO x = x) = b := ⟨_, rfl⟩
            have HOK : Hid (opOk ins x = (b && rangeB ins x)) := by rw [HIS.out, hkn, hb]; rfl
            rw [hb] at hnq
            clear HIS hkn D hb
            generalize asO x = y at HAS hnq
            generalize rangeB ins x = rb at HRG HOK
            rcases b with _ | _
            · have HG := Lib.hid (HGB.out HOK.out)
              simp only [Bool.not_false] at hnq
              clear HOK HGB HGG HNX HRG HNA HV
              obtain ⟨x1, x2, x3⟩ := x
              obtain ⟨y1, y2, y3⟩ := y
              unfold opV at HC hnq
              unfold OpPost opV at HAS
              simp only at s1 s2 s3 HC HWA p0 p1 p2 HAS hnq
              go_wp2_with fail
              rw [← HWA.out]
              refine (HC.out _).mono ?_
              rintro e w1 ⟨rfl, hb1⟩
              have HB1 := Lib.hid (HBA.out.trans (hb1.mono HBA.out.size))
              have c0 := (hb1.cell (p := ⟨wr.heap.size, 0, none⟩) hsz).trans p0
              have c1 := (hb1.cell (p := ⟨wr.heap.size, 1, none⟩) hsz).trans p1
              have c2 := (hb1.cell (p := ⟨wr.heap.size, 2, none⟩) hsz).trans p2
              have hsz1 : wr.heap.size < w1.heap.size := Nat.lt_of_lt_of_le hsz hb1.size
              clear hb1 HC p0 p1 p2
              go_wp2_with fail
              refine wp_region_dia 3 _ _ _ rfl rfl rfl (by kernel_rfl) (by kernel_rfl) (by kernel_rfl) (by kernel_rfl) (by kernel_rfl) (by decide) ?_
              simp only [List.take_succ_cons, List.take_zero]
              go_wp2_with fail
              refine then_normal ⟨?_, ?_⟩
              · go_wp2_with fail
                refine then_normal ⟨?_, ?_⟩
                · go_wp2_with fail
                  refine (HAS.out _).mono ?_
                  rintro e w5 ⟨rfl, hb5⟩
                  have k0 := (hb5.cell (p := ⟨wr.heap.size, 0, none⟩) hsz1).trans c0
                  have k1 := (hb5.cell (p := ⟨wr.heap.size, 1, none⟩) hsz1).trans c1
                  have k2 := (hb5.cell (p := ⟨wr.heap.size, 2, none⟩) hsz1).trans c2
                  have HB5 := Lib.hid ((Below.drew HB1.out).trans (hb5.mono HB1.out.size))
                  clear hb5
                  go_wp2_with fail
                  refine then_normal ?_
                  unfold Quiets
                  simp only [List.drop_succ_cons, List.drop_zero]
                  repeat (go_big_quiet_step (fail))
                  refine wpQuiet_nil ?_
                  intro _ hw'
                  obtain ⟨nq, hw''⟩ := hw'
                  subst hw''
                  go_wp2_with fail
                  go_ret2
                  exact deeds_bad HG.out (below_drewN HB5.out nq)
                · go_wp2_with fail
                  refine (HAS.out _).mono ?_
                  rintro e w5 ⟨rfl, hb5⟩
                  have k0 := (hb5.cell (p := ⟨wr.heap.size, 0, none⟩) hsz1).trans c0
                  have k1 := (hb5.cell (p := ⟨wr.heap.size, 1, none⟩) hsz1).trans c1
                  have k2 := (hb5.cell (p := ⟨wr.heap.size, 2, none⟩) hsz1).trans c2
                  have HB5 := Lib.hid ((Below.drew HB1.out).trans (hb5.mono HB1.out.size))
                  clear hb5
                  go_wp2_with fail
                  refine then_normal ?_
                  unfold Quiets
                  simp only [List.drop_succ_cons, List.drop_zero]
                  repeat (go_big_quiet_step (fail))
                  refine wpQuiet_nil ?_
                  intro _ hw'
                  obtain ⟨nq, hw''⟩ := hw'
                  subst hw''
                  go_wp2_with fail
                  go_ret2
                  exact deeds_bad HG.out (below_drewN HB5.out nq)
              · go_wp2_with fail
                refine (HAS.out _).mono ?_
                rintro e w5 ⟨rfl, hb5⟩
                have k0 := (hb5.cell (p := ⟨wr.heap.size, 0, none⟩) hsz1).trans c0
                have k1 := (hb5.cell (p := ⟨wr.heap.size, 1, none⟩) hsz1).trans c1
                have k2 := (hb5.cell (p := ⟨wr.heap.size, 2, none⟩) hsz1).trans c2
                have HB5 := Lib.hid ((Below.drew HB1.out).trans (hb5.mono HB1.out.size))
                clear hb5
                go_wp2_with fail
                refine then_normal ?_
                unfold Quiets
                simp only [List.drop_succ_cons, List.drop_zero]
                repeat (go_big_quiet_step (fail))
                refine wpQuiet_nil ?_
                intro _ hw'
                obtain ⟨nq, hw''⟩ := hw'
                subst hw''
                go_wp2_with fail
                go_ret2
                exact deeds_bad HG.out (below_drewN HB5.out nq)
            · simp only [Bool.not_true] at hnq
              rcases rb with _ | _
              · have HG := Lib.hid (HGB.out HOK.out)
                clear HOK HGB HGG HNX HNA HV
                obtain ⟨x1, x2, x3⟩ := x
                obtain ⟨y1, y2, y3⟩ := y
                unfold opV at HC hnq
                unfold OpPost opV at HAS
                simp only at s1 s2 s3 HC HWA p0 p1 p2 HAS hnq
                go_wp2_with fail
                rw [← HWA.out]
                refine (HC.out _).mono ?_
                rintro e w1 ⟨rfl, hb1⟩
                have HB1 := Lib.hid (HBA.out.trans (hb1.mono HBA.out.size))
                have c0 := (hb1.cell (p := ⟨wr.heap.size, 0, none⟩) hsz).trans p0
                have c1 := (hb1.cell (p := ⟨wr.heap.size, 1, none⟩) hsz).trans p1
                have c2 := (hb1.cell (p := ⟨wr.heap.size, 2, none⟩) hsz).trans p2
                have hsz1 : wr.heap.size < w1.heap.size := Nat.lt_of_lt_of_le hsz hb1.size
                clear hb1 HC p0 p1 p2
                go_wp2_with fail
                go_region_held3 (fun w' => w'.cell? ⟨wr.heap.size, 0, none⟩ = some (.int .i64 x1) ∧ w'.cell? ⟨wr.heap.size, 1, none⟩ = some (.int .i64 x2) ∧ w'.cell? ⟨wr.heap.size, 2, none⟩ = some (.string ⟨x3.toArray⟩)) (first | exact ⟨c0, c1, c2⟩ | exact ks | exact kt)
                  (first | (go_at_call 78; refine (HRG.out _).mono ?_; rintro e w6 ⟨rfl, hb6⟩; have HB6 := Lib.hid (HB5.out.trans (hb6.mono HB5.out.size)); have kt := And.intro ((hb6.cell (p := ⟨wr.heap.size, 0, none⟩) (World.block_lt_of_cell? _ _ ks.1)).trans ks.1) (And.intro ((hb6.cell (p := ⟨wr.heap.size, 1, none⟩) (World.block_lt_of_cell? _ _ ks.2.1)).trans ks.2.1) ((hb6.cell (p := ⟨wr.heap.size, 2, none⟩) (World.block_lt_of_cell? _ _ ks.2.2)).trans ks.2.2)); clear hb6) | (refine (HAS.out _).mono ?_; rintro e w5 ⟨rfl, hb5⟩; have ks := And.intro ((hb5.cell (p := ⟨wr.heap.size, 0, none⟩) hsz1).trans c0) (And.intro ((hb5.cell (p := ⟨wr.heap.size, 1, none⟩) hsz1).trans c1) ((hb5.cell (p := ⟨wr.heap.size, 2, none⟩) hsz1).trans c2)); have HB5 := Lib.hid ((Below.drew HB1.out).trans (hb5.mono HB1.out.size)); clear hb5))
                all_goals
                  go_wp2_with fail
                  go_ret2
                  exact deeds_bad HG.out HB6.out
              · have HG := Lib.hid (HGG.out HOK.out)
                clear HOK HGB HGG
                obtain ⟨x1, x2, x3⟩ := x
                obtain ⟨y1, y2, y3⟩ := y
                rw [HV.out] at HNX
                clear HV
                unfold opV at HC hnq
                unfold OpPost opV at HAS
                simp only at s1 s2 s3 HC HWA p0 p1 p2 HAS hnq
                go_wp2_with fail
                rw [← HWA.out]
                refine (HC.out _).mono ?_
                rintro e w1 ⟨rfl, hb1⟩
                have HB1 := Lib.hid (HBA.out.trans (hb1.mono HBA.out.size))
                have HN1 := Lib.hid (own_below HNA.out hb1)
                have c0 := (hb1.cell (p := ⟨wr.heap.size, 0, none⟩) hsz).trans p0
                have c1 := (hb1.cell (p := ⟨wr.heap.size, 1, none⟩) hsz).trans p1
                have c2 := (hb1.cell (p := ⟨wr.heap.size, 2, none⟩) hsz).trans p2
                have hsz1 : wr.heap.size < w1.heap.size := Nat.lt_of_lt_of_le hsz hb1.size
                clear hb1 HC p0 p1 p2 HNA
                go_wp2_with fail
                go_region_held3 (fun w' => w'.cell? ⟨wr.heap.size, 0, none⟩ = some (.int .i64 x1) ∧ w'.cell? ⟨wr.heap.size, 1, none⟩ = some (.int .i64 x2) ∧ w'.cell? ⟨wr.heap.size, 2, none⟩ = some (.string ⟨x3.toArray⟩)) (first | exact ⟨c0, c1, c2⟩ | exact ks | exact kt)
                  (first | (go_at_call 78; refine (HRG.out _).mono ?_; rintro e w6 ⟨rfl, hb6⟩; have HB6 := Lib.hid (HB5.out.trans (hb6.mono HB5.out.size)); have HN6 := Lib.hid (own_below HN5.out hb6); have kt := And.intro ((hb6.cell (p := ⟨wr.heap.size, 0, none⟩) (World.block_lt_of_cell? _ _ ks.1)).trans ks.1) (And.intro ((hb6.cell (p := ⟨wr.heap.size, 1, none⟩) (World.block_lt_of_cell? _ _ ks.2.1)).trans ks.2.1) ((hb6.cell (p := ⟨wr.heap.size, 2, none⟩) (World.block_lt_of_cell? _ _ ks.2.2)).trans ks.2.2)); clear hb6) | (refine (HAS.out _).mono ?_; rintro e w5 ⟨rfl, hb5⟩; have ks := And.intro ((hb5.cell (p := ⟨wr.heap.size, 0, none⟩) hsz1).trans c0) (And.intro ((hb5.cell (p := ⟨wr.heap.size, 1, none⟩) hsz1).trans c1) ((hb5.cell (p := ⟨wr.heap.size, 2, none⟩) hsz1).trans c2)); have HB5 := Lib.hid ((Below.drew HB1.out).trans (hb5.mono HB1.out.size)); have HN5 := Lib.hid (own_below (show w1.drew.ownsRow _ _ _ _ _ _ from HN1.out) hb5); clear hb5))
                all_goals
                  go_wp2_with (at_builtin; refine wpAppOne elemD rfl _ _ rfl w.heap.size _ (DC (r.take k)) rfl HN6.out _ rfl rfl rfl (by omega) HB6.out.size ?_; intro v7 w7 hown7 hg7; have HN7 := Lib.hid hown7; have HB7 := Lib.hid (HB6.out.trans (below_own HN6.out hg7 HB6.out.size)); clear hown7 hg7)
                  go_roundw
                  case rel => exact ⟨k + 1, by omega, by go_num, HB7, HG, by rw [HNX.out]; exact HN7.out⟩
                  case measure => simp [intOf]; omega
        · have HG := Lib.hid (goodR_end hi0 hi1 (by omega) (by omega : r.length ≤ k) HO.out)
          rw [List.take_of_length_le (by omega), DC_len] at HN
          clear HO hat
          go_wp2_with fail
          go_ret2
          exact deeds_good HG.out HN.out HB.out
    · have d2 : decide (ins > 10) = true := decide_eq_true (by omega)
      rw [goodR_ins (by omega)]
      clear hat
      go_enter Try.func65, Try.ntmps65
      go_wp2_with fail
      go_ret2
      exact ⟨_, rfl, none_ownD _ _ _, Below.refl _ _⟩
  · have d1 : decide (ins < 0) = true := decide_eq_true (by omega)
    rw [goodR_ins (by omega)]
    clear hat
    go_enter Try.func65, Try.ntmps65
    go_wp2_with fail
    go_ret2
    exact ⟨_, rfl, none_ownD _ _ _, Below.refl _ _⟩

end Go.Proofs.Ytcfhfhpdnjaokaa

/- Walks: the program's good recipes and what they read. -/
namespace Go.Proofs.Ytcfhfhpdnjaokaa
open Go.RowKit Pth

set_option maxHeartbeats 1000000 in
theorem implGoodR_any (r : List OpT) (ins : Int) (v : Value) (w : World) (hrow : RowO w v r) :
    Calls Try.prog 54 #[v, .int .i64 ins] w (BPost (goodR r ins) w) := by
  have HC := Lib.hid (deedsOf_any r ins v w hrow)
  generalize goodR r ins = b at HC
  clear hrow
  go_enter Try.func54, Try.ntmps54
  go_wp2_with fail
  refine HC.out.mono ?_
  rintro e w1 ⟨v1, rfl, _, hb1⟩
  have HB1 := Lib.hid hb1
  clear hb1 HC
  go_wp2_with fail
  go_ret
  exact ⟨rfl, HB1.out⟩

/-- A deed that is none of the first kind. -/
theorem not_cat {o : OpT} (hk : knownB o = true) (h1 : o.1 ≠ 1) : ∃ T v, deedV o = .iface T v ∧ ∀ w : World, (Instr.typeAssert (.iface T v) 108 120 true).run Try.prog w = .ok (.tuple #[.agg #[.int .i64 0], .bool false]) w := by
  obtain ⟨k, n, t⟩ := o
  simp only [knownB, Bool.and_eq_true, decide_eq_true_eq] at hk h1
  have hk' : k = 2 ∨ k = 3 ∨ k = 4 ∨ k = 5 ∨ k = 6 ∨ k = 7 := by omega
  rcases hk' with rfl | rfl | rfl | rfl | rfl | rfl
  · exact ⟨_, _, rfl, fun w => ta_text_cat _ w⟩
  · exact ⟨_, _, rfl, fun w => ta_upper_cat _ w⟩
  · exact ⟨_, _, rfl, fun w => ta_sort_cat _ w⟩
  · exact ⟨_, _, rfl, fun w => ta_drop_cat _ w⟩
  · exact ⟨_, _, rfl, fun w => ta_count_cat _ w⟩
  · exact ⟨_, _, rfl, fun w => ta_fail_cat _ w⟩
theorem known_ok {ins : Int} {o : OpT} (h : opOk ins o = true) : knownB o = true := by
  rw [opOk_is, Bool.and_eq_true] at h; exact h.1
theorem DC_get {r : List OpT} {k : Nat} (hk : k < r.length) : (DC r)[k]'(by rw [DC_len]; exact hk) = deedV r[k] := by simp [DC]
theorem RowV.deeds {w : World} {v : Value} {r : List OpT} (h : RowV w v (DC r)) :
    ∃ a c, v = .slice a r.length c ∧ r.length ≤ c ∧ c ≤ maxLen ∧ ∀ k (hk : k < r.length), ∃ g o, a = some ⟨g, o, none⟩ ∧ g < w.heap.size ∧ w.cell? ⟨g, o + k, none⟩ = some (deedV r[k]) := by
  obtain ⟨a, c, hv, h1, h2, hat⟩ := h
  refine ⟨a, c, by rw [hv, DC_len], by rw [DC_len] at h1; exact h1, h2, fun k hk => ?_⟩
  obtain ⟨g, o, ha, hg, hc⟩ := hat k (by rw [DC_len]; exact hk)
  exact ⟨g, o, ha, hg, by rw [hc, DC_get hk]⟩
theorem cats_snoc {r : List OpT} {k : Nat} (hk : k < r.length) (h : r[k].1 = 1) : catsL (r.take (k + 1)) = catsL (r.take k) ++ [r[k].2.1] := by
  rw [cats_next hk, if_pos h]
theorem cats_same {r : List OpT} {k : Nat} (hk : k < r.length) (h : r[k].1 ≠ 1) : catsL (r.take (k + 1)) = catsL (r.take k) := by
  rw [cats_next hk, if_neg h, List.append_nil]
theorem none_ownI (w : World) (B e : Nat) : w.ownsRow B e 1 (.slice none 0 0) 0 [] := ⟨rfl, .inl ⟨rfl, rfl⟩⟩
theorem own_I {w : World} {B e : Nat} {v : Value} {l : List Int} (h : w.ownsRow B e 1 v l.length (I l)) : w.ownsRow B e 1 v (I l).length (I l) := by rw [I_len]; exact h
theorem own_I2 {w : World} {B e : Nat} {v : Value} {l : List Int} {n : Int} (h : w.ownsRow B e 1 v (I l ++ [Value.int .i64 n]).length (I l ++ [Value.int .i64 n])) : w.ownsRow B e 1 v (l ++ [n]).length (I (l ++ [n])) := by
  rw [← I_len, I_append]; exact h

end Go.Proofs.Ytcfhfhpdnjaokaa

/- Walks: results that are good, and those that failed, of the reference and of the program. -/
namespace Go.Proofs.Ytcfhfhpdnjaokaa
open Go.RowKit Pth

theorem bthR {B : Nat} {w w1 w2 : World} (h : Below B w w1) (k : Below w1.heap.size w1 w2) (hB : B ≤ w.heap.size := by exact Nat.le_refl _) : Below B w w2 := h.trans (k.mono (Nat.le_trans hB h.size))
/-- Whether a result is one. -/
def resOk (r : ResT) : Bool := decide (0 ≤ r.2) && decide (r.2 ≤ 2) && decide (r.1.length ≤ 40) && (decide (r.2 = 0) || decide (r.1 = []))
def resA (l : List ResT) : Bool := decide (l.length ≤ 10) && l.all resOk
/-- Those of the first k that failed. -/
def failK (l : List ResT) (k : Nat) : List Int := ((List.range k).filter (fun j => decide ((l.getD j noRes).2 = 1))).map Int.ofNat
def failA (l : List ResT) : List Int := if resA l then failK l l.length else []
theorem failK_len (l : List ResT) (k : Nat) : (failK l k).length ≤ k := by
  unfold failK
  rw [List.length_map]
  exact Nat.le_trans (List.length_filter_le _ _) (by simp)
theorem failK_yes {l : List ResT} {k : Nat} (hk : k < l.length) (h : l[k].2 = 1) : failK l (k + 1) = failK l k ++ [(k : Int)] := by
  unfold failK
  rw [List.range_succ, List.filter_append, List.map_append]
  have : (l[k]?.getD noRes).2 = 1 := by rw [List.getElem?_eq_getElem hk]; exact h
  simp [this]
theorem failK_no {l : List ResT} {k : Nat} (hk : k < l.length) (h : l[k].2 ≠ 1) : failK l (k + 1) = failK l k := by
  unfold failK
  rw [List.range_succ, List.filter_append, List.map_append]
  have : ¬ (l[k]?.getD noRes).2 = 1 := by rw [List.getElem?_eq_getElem hk]; exact h
  simp [this]
theorem res_bad {l : List ResT} {k : Nat} (hk : k < l.length) (h : resOk l[k] = false) : resA l = false := by
  unfold resA
  rw [show l.all resOk = false from List.all_eq_false.2 ⟨l[k], List.getElem_mem hk, by simp [h]⟩, Bool.and_false]
theorem res_next {l : List ResT} {k : Nat} (hk : k < l.length) (ha : (l.take k).all resOk = true) (h : resOk l[k] = true) : (l.take (k + 1)).all resOk = true := by
  rw [List.take_succ_eq_append_getElem hk, List.all_append, ha]; simp [h]
theorem res_end {l : List ResT} {k : Nat} (hk : l.length ≤ k) (ha : (l.take k).all resOk = true) : resA l = decide (l.length ≤ 10) := by
  rw [List.take_of_length_le hk] at ha
  unfold resA; rw [ha, Bool.and_true]
theorem resA_small {l : List ResT} (h : resA l = true) : l.length ≤ 10 ∧ ∀ r ∈ l, r.1.length ≤ 40 := by
  unfold resA at h
  simp only [Bool.and_eq_true, decide_eq_true_eq, List.all_eq_true] at h
  refine ⟨h.1, fun r hr => ?_⟩
  have := h.2 r hr
  simp only [resOk, Bool.and_eq_true, decide_eq_true_eq] at this
  exact this.1.2

-- the program's
theorem longR_b {x : List UInt8} {b : Bool} (h : decide (x.length ≤ 40) = b) (w : World) (_hl : x.length ≤ maxLen) : Calls Try.prog 42 #[.string ⟨x.toArray⟩] w fun e w' => e = .returned (.bool (!b)) ∧ w = w' := by
  go_enter Try.func42, Try.ntmps42
  go_wp2
  go_ret
  refine ⟨?_, rfl⟩
  congr 2
  rw [← h]
  simp
  rw [Bool.eq_iff_iff]
  simp <;> omega

/-- Whether one is none. -/
def noneL (l : List ResT) : Bool := l.any (fun r => !resOk r)
theorem none_at {l : List ResT} {k : Nat} (h : k < l.length) (hx : resOk l[k] = false) : noneL l = true := by
  rw [noneL, List.any_eq_true]
  exact ⟨l[k], List.getElem_mem h, by simp [hx]⟩
theorem none_all {l : List ResT} (h : l.all resOk = true) : noneL l = false := by
  rw [noneL, List.any_eq_false]
  intro x hm
  have := List.all_eq_true.1 h x hm
  simp [this]

theorem resA_is (l : List ResT) : resA l = (decide (l.length ≤ 10) && !noneL l) := by
  unfold resA
  rcases h : l.all resOk with _ | _
  · obtain ⟨x, hm, hx⟩ := List.all_eq_false.1 h
    have : noneL l = true := by rw [noneL, List.any_eq_true]; exact ⟨x, hm, by simpa using hx⟩
    rw [this]; rfl
  · rw [none_all h]; rfl

end Go.Proofs.Ytcfhfhpdnjaokaa

/- Walks: the law that those that failed are told alike. -/
namespace Go.Proofs.Ytcfhfhpdnjaokaa
open Go.RowKit Pth

/-- The law says yes, and nothing that lay there has turned. -/
def YesW (w : World) (e : Ending) (w' : World) : Prop := e = .returned (.bool true) ∧ Below w.heap.size w w'
theorem failA_short (l : List ResT) : (failA l).length ≤ 10 := by
  unfold failA
  split
  · rename_i h
    have := (resA_small h).1
    have := failK_len l l.length
    omega
  · simp
/-- A list that another list's block is no part of. -/
theorem own_besideR {w w' : World} {B1 e n : Nat} {v u : Value} {xs : List Value} (h : w.ownsRow B1 e 1 v n xs) (hg : w.grownBy w' u.ownBlock) (hu : ∀ k, u.ownBlock = some k → k < B1) : w'.ownsRow B1 e 1 v n xs := by
  refine h.kept hg ?_
  rcases hv : v.ownBlock with _ | k
  · exact .inl rfl
  · refine .inr (fun e => ?_)
    have h1 := (h.lt k hv).1
    have h2 := hu k e.symm
    omega
end Go.Proofs.Ytcfhfhpdnjaokaa

/- Walks: the laws' marks in ops. -/
namespace Go.Proofs.Ytcfhfhpdnjaokaa
open Go.RowKit Pth

/-- The ops that are marks, from k on. -/
def marksO (k : Nat) (n : Nat) : List OpT := (List.range n).map (fun (i : Nat) => (((k + i * 3 : Nat) : Int), ((k + i * 3 + 1 : Nat) : Int), markT (k + i * 3 + 2)))
theorem marksO_len (k n : Nat) : (marksO k n).length = n := by simp [marksO]
theorem marksO_snoc (k n : Nat) : marksO k (n + 1) = marksO k n ++ [(((k + n * 3 : Nat) : Int), ((k + n * 3 + 1 : Nat) : Int), markT (k + n * 3 + 2))] := by simp [marksO, List.range_succ]
theorem set_kindO (a : List OpT) (k : Nat) (ha : a.length = k) (x p q : Int) (t : List UInt8) (rest : List OpT) :
    (OC a ++ OC ((p, q, t) :: rest)).set (k * 3) (.int .i64 x) = OC a ++ OC ((x, q, t) :: rest) := by
  have hl : (OC a).length = k * 3 := by rw [OC_len, ha]
  rw [List.set_append_right _ _ (by omega), hl, Nat.sub_self]
  rfl
theorem set_numO (a : List OpT) (k : Nat) (ha : a.length = k) (x p q : Int) (t : List UInt8) (rest : List OpT) :
    (OC a ++ OC ((p, q, t) :: rest)).set (k * 3 + 1) (.int .i64 x) = OC a ++ OC ((p, x, t) :: rest) := by
  have hl : (OC a).length = k * 3 := by rw [OC_len, ha]
  rw [List.set_append_right _ _ (by omega), hl, show k * 3 + 1 - k * 3 = 1 by omega]
  rfl
theorem set_textO (a : List OpT) (k : Nat) (ha : a.length = k) (p q : Int) (x t : List UInt8) (rest : List OpT) :
    (OC a ++ OC ((p, q, t) :: rest)).set (k * 3 + 2) (.string ⟨x.toArray⟩) = OC (a ++ [(p, q, x)]) ++ OC rest := by
  have hl : (OC a).length = k * 3 := by rw [OC_len, ha]
  rw [List.set_append_right _ _ (by omega), hl, show k * 3 + 2 - k * 3 = 2 by omega, OC_append]
  simp [OC, opC]
theorem mark_l (j : Nat) (i : Int) (h : (j : Int) = i) (hk1 : j ≤ 8000000) (h1 : 1 ≤ j) (w : World) : Calls Try.prog 33 #[.int .i64 i] w fun e w' => e = .returned (.string ⟨(markT j).toArray⟩) ∧ Below w.heap.size w w' := by
  subst h
  exact markText_any j w hk1 h1

/-- The ops hold the marks, and nothing but their own block has turned. -/
def MarkedO (v : Value) (k : Nat) (n : Nat) (w : World) (e : Ending) (w' : World) : Prop :=
  e = .returned (.int .i64 ((k : Int) + (n : Int) * 3)) ∧ w.grownBy w' v.ownBlock

set_option maxRecDepth 20000 in
set_option maxHeartbeats 1000000 in
theorem markOpS_any (l : List OpT) (k : Nat) (B : Nat) (v : Value) (w : World) (hown : w.ownsRow B 81 3 v l.length (OC l)) (hl : l.length ≤ 1100000) (hk : k ≤ 4000000) (hk1 : 1 ≤ k) :
    Calls Try.prog 48 #[v, .int .i64 (k : Int)] w (MarkedO v k l.length w) := by
  have HW := Lib.hid hown
  obtain ⟨a, cap, rfl⟩ := own_sliceG hown
  clear hown
  go_enter Try.func48, Try.ntmps48
  go_wp2_with fail
  go_loopw [1, 5] (fun q i wr => ∃ j : Nat, j ≤ l.length ∧ q = .int .i64 ((k : Int) + (j : Int) * 3) ∧ i = .int .i64 j ∧ wr.ownsRow B 81 3 (.slice a l.length cap) l.length (OC (marksO k j) ++ OC (l.drop j)) ∧ w.grownBy wr (Value.slice a l.length cap).ownBlock) (fun _ i _ => l.length - (intOf i).toNat)
  case atStart => exact ⟨0, Nat.zero_le _, by simp, rfl, HW.out, grown_refl _ _⟩
  case round =>
    clear HW
    obtain ⟨j, hj, rfl, rfl, hown, hg⟩ := hrel
    by_cases hlt : j < l.length
    · obtain ⟨g, c2, hv⟩ : ∃ g c2, (Value.slice a l.length cap) = .slice (some ⟨g, 0, none⟩) l.length c2 := by
        rcases hown.2 with ⟨_, h0⟩ | ⟨g, c2, cur, hv, _⟩
        · omega
        · exact ⟨g, c2, hv⟩
      injection hv with hv1 hv2 hv3
      subst hv1
      have hc4 : l.length ≤ cap := by
        rcases hown.2 with ⟨_, h0⟩ | ⟨g, c2, cur, hv, _, _, h5, _⟩
        · omega
        · injection hv with _ _ hv3; omega
      have HC := Lib.hid (fun W => mark_l (k + j * 3 + 2) ((k : Int) + (j : Int) * 3 + 1 + 1) (by omega) (by omega) (by omega) W)
      rw [List.drop_eq_getElem_cons hlt, show l[j] = (l[j].1, l[j].2.1, l[j].2.2) from rfl] at hown
      have HE := Lib.hid (marksO_snoc k j)
      rw [show (((k + j * 3 : Nat) : Int)) = (k : Int) + (j : Int) * 3 by omega, show (((k + j * 3 + 1 : Nat) : Int)) = (k : Int) + (j : Int) * 3 + 1 by omega] at HE
      have ha := marksO_len k j
      have HG := Lib.hid hg
      have hfz := hown.frozenAt (j * 3)
      have hcz : wr.cell? ⟨g, j * 3, none⟩ = some (.int .i64 l[j].1) := by rw [hown.cellAt (j * 3) (by omega), (get_three (marksO k j) j ha _ _).1]
      have hst := hown.stored (j * 3) (.int .i64 ((k : Int) + (j : Int) * 3))
      rw [set_kindO (marksO k j) j ha] at hst
      have hfz1 := hst.1.frozenAt (j * 3 + 1)
      have hcz1 : (wr.setCell ⟨g, j * 3, none⟩ (.int .i64 ((k : Int) + (j : Int) * 3))).cell? ⟨g, j * 3 + 1, none⟩ = some (.int .i64 l[j].2.1) := by rw [hst.1.cellAt (j * 3 + 1) (by omega), (get_three (marksO k j) j ha _ _).2.1]
      have hst1 := hst.1.stored (j * 3 + 1) (.int .i64 ((k : Int) + (j : Int) * 3 + 1))
      rw [set_numO (marksO k j) j ha] at hst1
      have HN := Lib.hid hst1.1
      have HG1 := Lib.hid (grown_trans (grown_trans HG.out hst.2) hst1.2)
      clear hown hg hv2 hv3 hst hst1 HG
      generalize l[j].1 = p at hcz
      generalize l[j].2.1 = q at hcz1
      generalize l[j].2.2 = t at HN
      generalize markT (k + j * 3 + 2) = x at HC HE
      go_wp2_with fail
      generalize (wr.setCell ⟨g, j * 3, none⟩ (.int .i64 ((k : Int) + (j : Int) * 3))).setCell ⟨g, j * 3 + 1, none⟩ (.int .i64 ((k : Int) + (j : Int) * 3 + 1)) = w2 at HN HG1
      refine (HC.out _).mono ?_
      rintro e w3 ⟨rfl, hb3⟩
      have HN3 := Lib.hid (own_belowG HN.out hb3)
      have hfz2 := HN3.out.frozenAt (j * 3 + 2)
      have hcz2 : w3.cell? ⟨g, j * 3 + 2, none⟩ = some (.string ⟨t.toArray⟩) := by rw [HN3.out.cellAt (j * 3 + 2) (by omega), (get_three (marksO k j) j ha _ _).2.2]
      have hst := HN3.out.stored (j * 3 + 2) (.string ⟨x.toArray⟩)
      rw [set_textO (marksO k j) j ha, ← HE.out] at hst
      have HN4 := Lib.hid hst.1
      have HG4 := Lib.hid (grown_trans (grown_trans HG1.out (below_grown hb3)) hst.2)
      clear hst hb3 HN HN3 HG1 hcz hfz hcz1 hfz1 ha
      go_wp2_with fail
      go_roundw
      case rel => exact ⟨j + 1, by omega, by go_num, by go_num, HN4.out, HG4.out⟩
      case measure => simp [intOf]; omega
    · obtain rfl : j = l.length := by omega
      have HG := Lib.hid hg
      clear hown hg
      go_wp2_with fail
      go_ret
      exact ⟨rfl, HG.out⟩

end Go.Proofs.Ytcfhfhpdnjaokaa

/- Walks: the laws' marks in graphs, and whether they are held. -/
namespace Go.Proofs.Ytcfhfhpdnjaokaa
open Go.RowKit Pth

/-- The marks from k on, in lists. -/
def marksL : Nat → List (List Int) → List (List Int)
  | _, [] => []
  | k, l :: t => marks k l.length :: marksL (k + l.length) t
theorem marksL_len (k : Nat) (ls : List (List Int)) : (marksL k ls).length = ls.length := by
  induction ls generalizing k with
  | nil => rfl
  | cons l t ih => rw [marksL, List.length_cons, List.length_cons, ih]
theorem marksL_snoc (k : Nat) (ls : List (List Int)) (l : List Int) : marksL k (ls ++ [l]) = marksL k ls ++ [marks ((k + total ls : Nat) : Int) l.length] := by
  induction ls generalizing k with
  | nil => simp [marksL, total]
  | cons x t ih =>
    rw [List.cons_append, marksL, marksL, ih, List.cons_append]
    have : k + x.length + total t = k + total (x :: t) := by simp [total]; omega
    rw [this]
theorem marksL_next {k : Nat} {ls : List (List Int)} {j : Nat} (hj : j < ls.length) : marksL k (ls.take (j + 1)) = marksL k (ls.take j) ++ [marks ((k + total (ls.take j) : Nat) : Int) ls[j].length] := by
  rw [List.take_succ_eq_append_getElem hj, marksL_snoc]
theorem marksL_total (k : Nat) (ls : List (List Int)) : total (marksL k ls) = total ls := by
  induction ls generalizing k with
  | nil => rfl
  | cons x t ih => have := ih (k + x.length); simp only [total, marksL, List.map_cons, List.sum_cons, marks_len] at this ⊢; omega
theorem marksL_at {k : Nat} {ls : List (List Int)} {j : Nat} (hj : j < ls.length) : (marksL k ls)[j]'(by rw [marksL_len]; exact hj) = marks ((k + total (ls.take j) : Nat) : Int) ls[j].length := by
  induction ls generalizing k j with
  | nil => simp at hj
  | cons x t ih =>
    cases j with
    | zero => simp [marksL, total]
    | succ j =>
      simp only [marksL, List.getElem_cons_succ]
      rw [ih (by simpa using hj)]
      have : k + x.length + total (t.take j) = k + total ((x :: t).take (j + 1)) := by simp [total]; omega
      rw [this]

theorem zip_split {sl : List Value} {M ls : List (List Int)} {j : Nat} (hs : sl.length = ls.length) (hM : M.length = j) (hj : j < ls.length) :
    sl.zip (M ++ ls.drop j) = (sl.take j).zip M ++ (sl[j]'(by omega), ls[j]) :: (sl.drop (j + 1)).zip (ls.drop (j + 1)) := by
  have e : sl = sl.take j ++ sl[j]'(by omega) :: sl.drop (j + 1) := by rw [← List.drop_eq_getElem_cons (by omega), List.take_append_drop]
  conv => lhs; rw [e, List.drop_eq_getElem_cons hj]
  rw [List.zip_append (by rw [List.length_take]; omega), List.zip_cons_cons]
theorem zip_join {sl : List Value} {M ls : List (List Int)} {j : Nat} {x : List Int} (hs : sl.length = ls.length) (hM : M.length = j) (hj : j < ls.length) :
    (sl.take j).zip M ++ (sl[j]'(by omega), x) :: (sl.drop (j + 1)).zip (ls.drop (j + 1)) = sl.zip ((M ++ [x]) ++ ls.drop (j + 1)) := by
  have e : sl = sl.take j ++ sl[j]'(by omega) :: sl.drop (j + 1) := by rw [← List.drop_eq_getElem_cons (by omega), List.take_append_drop]
  conv => rhs; rw [e]
  rw [List.append_assoc, List.zip_append (by rw [List.length_take]; omega), List.singleton_append, List.zip_cons_cons]
/-- A list of another type stays. -/
theorem own_grownL {w w' : World} {B B' e n : Nat} {v : Value} {xs : List Value} {L : List (Value × List Int)} (h : w.ownsRow B e 1 v n xs) (he : e ≠ 3) (hl : Lists B' w L) (hg : GrownL w w' L) : w'.ownsRow B e 1 v n xs := by
  refine ⟨h.1, ?_⟩
  rcases h.2 with h0 | ⟨g, cap, cur, hv, hB, hh, r⟩
  · exact .inl h0
  · refine .inr ⟨g, cap, cur, hv, hB, (hg.block g (lt_of_block hh) (fun p hp hi => own_typesI h (hl.1 p hp) he g (by rw [hv]; rfl) hi)).trans hh, r⟩

theorem markIntS_l {l : List Int} {k B : Nat} {i r : Int} {v : Value} {w : World} (hi : (k : Int) = i) (hr : r = (k : Int) + (l.length : Int)) (hown : w.ownsRow B 3 1 v l.length (I l)) (hl : l.length ≤ 2000000) (hk : k ≤ 2000000) :
    Calls Try.prog 15 #[v, .int .i64 i] w fun e w' => e = .returned (.int .i64 r) ∧ w'.ownsRow B 3 1 v l.length (I (marks (k : Int) l.length)) ∧ w.grownBy w' v.ownBlock := by
  subst hi hr
  exact markIntS_any l k B v w hown hl hk
theorem heldIntS_l {k n : Nat} {i r : Int} {v : Value} {w : World} (hi : (k : Int) = i) (hr : r = (k : Int) + (n : Int)) (hrow : RowV w v (I (marks (k : Int) n))) (hn : n ≤ 2000000) (hk : k ≤ 2000000) :
    Calls Try.prog 16 #[v, .int .i64 i] w fun e w' => e = .returned (.int .i64 r) ∧ Below w.heap.size w w' := by
  subst hi hr
  exact heldIntS_any k n v w hrow hn hk

/-- The lists hold the marks, and nothing but their blocks has turned. -/
def MarkedN (B : Nat) (sl : List Value) (ls : List (List Int)) (R : List (Value × List Int)) (k : Nat) (w : World) (e : Ending) (w' : World) : Prop :=
  e = .returned (.int .i64 ((k + total ls : Nat) : Int)) ∧ Lists B w' (sl.zip (marksL k ls) ++ R) ∧ GrownL w w' (sl.zip ls)

set_option maxHeartbeats 2000000 in
theorem markIntSS_any (ls : List (List Int)) (R : List (Value × List Int)) (k B B' : Nat) (v : Value) (sl : List Value) (w : World) (hs : sl.length = ls.length) (hout : w.ownsRow B' 23 1 v ls.length sl) (hL : Lists B w (sl.zip ls ++ R)) (hl : ls.length + total ls ≤ 1500000) (hk : k ≤ 100000) :
    Calls Try.prog 47 #[v, .int .i64 (k : Int)] w (MarkedN B sl ls R k w) := by
  have HW := Lib.hid hL
  have HU := Lib.hid hout
  obtain ⟨a, cap, rfl⟩ := own_slice hout
  have hcap : ls.length ≤ cap ∧ cap ≤ maxLen := by obtain ⟨a', c', he, h1, h2, _⟩ := RowV.of_own hout; injection he with _ _ he; omega
  obtain ⟨hc1, hc2⟩ := hcap
  unfold maxLen at hc2
  clear hL hout
  go_enter Try.func47, Try.ntmps47
  go_wp2_with fail
  go_loopw [1, 5] (fun q i wr => ∃ j : Nat, j ≤ ls.length ∧ q = .int .i64 ((k + total (ls.take j) : Nat) : Int) ∧ i = .int .i64 j ∧ Lists B wr (sl.zip (marksL k (ls.take j) ++ ls.drop j) ++ R) ∧ GrownL w wr (sl.zip ls)) (fun _ i _ => ls.length - (intOf i).toNat)
  case atStart => exact ⟨0, Nat.zero_le _, by simp [total], rfl, by simpa [marksL] using HW.out, GrownL.refl _ _⟩
  case round =>
    obtain ⟨j, hj, rfl, rfl, hL, hg⟩ := hrel
    by_cases hlt : j < ls.length
    · have hout := own_grownL HU.out (by decide) HW.out.left hg
      have hsj : j < sl.length := by omega
      obtain ⟨a', c', he', _, _, hat⟩ := RowV.of_own hout
      injection he' with he1 he2 he3
      subst he1 he3
      obtain ⟨g, o, rfl, hgz, hcell⟩ := hat j hsj
      have hM : (marksL k (ls.take j)).length = j := by rw [marksL_len, List.length_take]; omega
      rw [zip_split hs hM hlt, List.append_assoc, List.cons_append] at hL
      have hone := hL.1 (sl[j], ls[j]) (by simp)
      have htl := total_at hlt
      have htk := total_le (ls := ls) (k := j)
      have HC := Lib.hid (markIntS_l (l := ls[j]) (k := k + total (ls.take j)) (i := ((k + total (ls.take j) : Nat) : Int)) (r := ((k + total (ls.take (j + 1)) : Nat) : Int)) rfl (by have := total_next hlt; omega) hone (by omega) (by omega))
      have HT : Hid (∀ w1, w1.ownsRow B 3 1 sl[j] ls[j].length (I (marks ((k + total (ls.take j) : Nat) : Int) ls[j].length)) → wr.grownBy w1 (sl[j]).ownBlock → Lists B w1 (sl.zip (marksL k (ls.take (j + 1)) ++ ls.drop (j + 1)) ++ R) ∧ GrownL w w1 (sl.zip ls)) := by
        intro w1 h1 h2
        refine ⟨?_, hg.one h2 (zip_get hsj hlt)⟩
        have := hL.turn (v' := sl[j]) (l' := marks ((k + total (ls.take j) : Nat) : Int) ls[j].length) h2 (by rw [marks_len]; exact h1) (fun b hb => .inl hb)
        rw [← List.cons_append, ← List.append_assoc, zip_join hs hM hlt, ← marksL_next hlt] at this
        exact this
      obtain ⟨a2, c2, hv2⟩ := own_slice hone
      have h63 : (k + total (ls.take (j + 1)) : Nat) ≤ 3000000 := by have := total_le (ls := ls) (k := j + 1); omega
      clear hL hone hat hg hout he2
      simp only at hv2
      generalize hsl : sl[j] = u at hcell HC HT hv2
      subst hv2
      generalize ls[j].length = n1 at *
      generalize k + total (ls.take j) = q0 at *
      generalize hq1 : k + total (ls.take (j + 1)) = q1 at *
      have HQ := Lib.hid hq1
      clear hsl hq1
      go_wp2_with fail
      refine HC.out.mono ?_
      rintro e w1 ⟨rfl, h1, h2⟩
      obtain ⟨h3, h4⟩ := HT.out w1 h1 h2
      have H3 := Lib.hid h3
      have H4 := Lib.hid h4
      clear h1 h2 h3 h4 HT HC
      go_wp2_with fail
      go_roundw
      case rel => exact ⟨j + 1, by omega, by rw [HQ.out], by go_num, H3.out, H4.out⟩
      case measure => simp [intOf]; omega
    · obtain rfl : j = ls.length := by omega
      rw [List.take_length, List.drop_length, List.append_nil] at hL
      rw [List.take_length]
      have HL := Lib.hid hL
      have HG := Lib.hid hg
      clear hL hg
      go_wp2_with fail
      go_ret
      exact ⟨rfl, HL.out, HG.out⟩

/-- Only blocks between two have turned. -/
structure OnlyIn (B C : Nat) (w w' : World) : Prop where
  below : Below B w w'
  above : ∀ i, C ≤ i → i < w.heap.size → w'.heap[i]? = w.heap[i]?
  kept : ∀ (i : Nat) (cs : Array Value) (e : Nat), e ≠ 3 → w.heap[i]? = some (Obj.cells cs e (0, 0)) → w'.heap[i]? = w.heap[i]?
theorem GraphO.only {B C D : Nat} {w w' : World} {v : Value} {ls : List (List Int)} {l : List Int} (h : GraphO D w v ls l) (hg : OnlyIn B C w w') (hD : C ≤ D) : GraphO D w' v ls l := by
  obtain ⟨nv, ov, sl, hv, h1, h2, h3⟩ := h
  have one : ∀ {e n : Nat} {x : Value} {xs : List Value}, w.ownsRow D e 1 x n xs → w'.ownsRow D e 1 x n xs := by
    intro e n x xs h
    refine ⟨h.1, ?_⟩
    rcases h.2 with h0 | ⟨g, cap, cur, hv, hB, hh, r⟩
    · exact .inl h0
    · exact .inr ⟨g, cap, cur, hv, hB, (hg.above g (by omega) (lt_of_block hh)).trans hh, r⟩
  exact ⟨nv, ov, sl, hv, h1, one h2, fun p hp => one (h3.1 p hp), h3.2⟩
theorem own_only {B C D e n : Nat} {w w' : World} {v : Value} {xs : List Value} (h : w.ownsRow D e 1 v n xs) (hg : OnlyIn B C w w') (hD : C ≤ D) : w'.ownsRow D e 1 v n xs := by
  refine ⟨h.1, ?_⟩
  rcases h.2 with h0 | ⟨g, cap, cur, hv, hB, hh, r⟩
  · exact .inl h0
  · exact .inr ⟨g, cap, cur, hv, hB, (hg.above g (by omega) (lt_of_block hh)).trans hh, r⟩
theorem Blk2.only {B C b t : Nat} {w w' : World} {x y : Value} (h : Blk2 w b t x y) (hg : OnlyIn B C w w') (hb : b < B ∨ C ≤ b) : Blk2 w' b t x y := by
  rcases hb with hb | hb
  · exact h.below hg.below hb
  · exact (hg.above b hb (lt_of_block h)).trans h

theorem Blk2.kept {B C b t : Nat} {w w' : World} {x y : Value} (h : Blk2 w b t x y) (hg : OnlyIn B C w w') (ht : t ≠ 3) : Blk2 w' b t x y := (hg.kept b _ t ht h).trans h
/-- How many numbers a graph has. -/
def totalG (ls : List (List Int)) (l : List Int) : Nat := total ls + l.length
theorem GrownL.more {w w1 : World} {L M : List (Value × List Int)} (h : GrownL w w1 L) (hs : ∀ p ∈ L, p ∈ M) : GrownL w w1 M :=
  ⟨h.os, h.tape, h.output, h.size, fun i hi hne => h.block i hi (fun p hp => hne p (hs p hp))⟩

set_option maxRecDepth 20000 in
set_option maxHeartbeats 4000000 in
theorem markGraph_any (ls : List (List Int)) (l : List Int) (k B : Nat) (v : Value) (w0 w : World) (h0 : GraphO B w0 v ls l) (hb0 : Below w0.heap.size w0 w) (hB : B ≤ w0.heap.size) (hl : ls.length + total ls + l.length ≤ 1500000) (hk : k ≤ 1000) :
    Calls Try.prog 30 #[v, .int .i64 (k : Int)] w fun e w' => e = .returned (.int .i64 ((k + totalG ls l : Nat) : Int)) ∧ GraphO B w' v (marksL k ls) (marks ((k + total ls : Nat) : Int) l.length) ∧ OnlyIn B w0.heap.size w w' := by
  obtain ⟨nv, ov, sl, rfl, hs, hn, hL⟩ := h0
  have hlt : ∀ p ∈ sl.zip ls ++ [(ov, l)], ∀ i, p.1.ownBlock = some i → B ≤ i ∧ i < w0.heap.size := fun p hp i hi => (hL.1 p hp).lt i hi
  have HLT := Lib.hid hlt
  have hnw := own_below hn hb0
  have hLw := hL.below hb0
  obtain ⟨an, cn, rfl⟩ := own_slice hn
  obtain ⟨ao, co, hov⟩ := own_slice (hL.1 (ov, l) (List.mem_append.2 (.inr (List.mem_singleton.2 rfl))))
  simp only at hov
  subst hov
  obtain ⟨wa, hwa⟩ : ∃ wa, wa = w.alloc (.cells #[.slice an ls.length cn, .slice ao l.length co] 35) := ⟨_, rfl⟩
  have P0 : Hid (Blk2 wa w.heap.size 35 (.slice an ls.length cn) (.slice ao l.length co)) := by rw [hwa]; exact Blk2.new
  have hAw : Below w.heap.size w wa := by rw [hwa]; exact (Below.refl w.heap.size w).alloc (Nat.le_refl _) _
  have HA := Lib.hid hAw
  have hsa : wa.heap.size = w.heap.size + 1 := by rw [hwa]; simp
  have hsw : w0.heap.size ≤ w.heap.size := hb0.size
  have HN := Lib.hid (own_below hnw hAw)
  have HL := Lib.hid (hLw.below hAw)
  have HWA := Lib.hid hwa
  have HC := Lib.hid (markIntSS_any ls [(.slice ao l.length co, l)] k B B _ sl wa hs HN.out HL.out (by omega) (by omega))
  have hpb : ∀ (L : List (Value × List Int)) (x y : World), GrownL x y L → (∀ p ∈ L, p ∈ sl.zip ls ++ [(.slice ao l.length co, l)]) → w.heap.size < x.heap.size → x.heap[w.heap.size]? = y.heap[w.heap.size]? := by
    intro L x y hg hm hx
    refine (hg.block w.heap.size hx (fun p hp hi => ?_)).symm
    have := (HLT.out p (hm p hp) _ hi).2
    omega
  have HPB := Lib.hid hpb
  clear hlt hnw hLw hn hL hAw hwa hpb hb0
  go_enter Try.func30, Try.ntmps30
  go_wp2_with fail
  rw [← HWA.out]
  refine HC.out.mono ?_
  rintro e w1 ⟨rfl, hL1, hg1⟩
  have hm1 : ∀ p ∈ sl.zip ls, p ∈ sl.zip ls ++ [(Value.slice ao l.length co, l)] := fun p hp => List.mem_append.2 (.inl hp)
  have P1 := Lib.hid (show Blk2 w1 w.heap.size 35 (.slice an ls.length cn) (.slice ao l.length co) from (HPB.out _ _ _ hg1 hm1 (by omega)).symm.trans P0.out)
  have hn1 := own_grownL HN.out (by decide) HL.out.left hg1
  have c1 := P1.out.cells.2
  have hone := hL1.1 (.slice ao l.length co, l) (List.mem_append.2 (.inr (List.mem_singleton.2 rfl)))
  have HC2 := Lib.hid (markIntS_l (l := l) (k := k + total ls) (i := ((k + total ls : Nat) : Int)) (r := ((k + totalG ls l : Nat) : Int)) rfl (by unfold totalG; omega) hone (by omega) (by omega))
  have HG1 := Lib.hid (hg1.more hm1)
  have HL1 := Lib.hid hL1
  have HN1 := Lib.hid hn1
  clear hL1 hg1 hn1 hone hm1 HC
  generalize hq : k + total ls = q at *
  have HQ := Lib.hid hq
  clear hq
  go_wp2_with fail
  refine HC2.out.mono ?_
  rintro e w2 ⟨rfl, ho2, hg2⟩
  have HF : Hid (GraphO B w2 (.agg #[.slice an ls.length cn, .slice ao l.length co]) (marksL k ls) (marks (q : Int) l.length) ∧ OnlyIn B w0.heap.size w w2) := by
    have hL2 := HL1.out.turn (L := sl.zip (marksL k ls)) (M := []) (v' := .slice ao l.length co) (l' := marks (q : Int) l.length) hg2 (by rw [marks_len]; exact ho2) (fun b hb => .inl hb)
    have hg := HG1.out.one hg2 (l := l) (List.mem_append.2 (.inr (List.mem_singleton.2 rfl)))
    have hml := marksL_len k ls
    refine ⟨⟨_, _, sl, rfl, by rw [hml]; exact hs, ?_, hL2⟩, ?_, fun i hi hiw => ?_, fun i cs e he hi => ?_⟩
    · rw [hml]
      exact own_apartI HN1.out hg2 (fun i hi hi' => own_typesI HN1.out (HL1.out.1 (.slice ao l.length co, l) (List.mem_append.2 (.inr (List.mem_singleton.2 rfl)))) (by decide) i hi' hi)
    · have := hg.below HL.out (by omega)
      exact HA.out.mono (by omega) |>.trans this
    · have h1 := hg.block i (by omega) (fun p hp hpi => by have := (HLT.out p hp i hpi).2; omega)
      exact h1.trans (HA.out.block i hiw)
    · have hiw := lt_of_block hi
      have hi' := (HA.out.block i hiw).trans hi
      have h1 := hg.block i (by omega) (fun p hp hpi => by
        rcases (HL.out.1 p hp).2 with ⟨hv, _⟩ | ⟨g, cap, cur, hv, _, hg', _⟩
        · rw [hv] at hpi; simp [Value.ownBlock] at hpi
        · rw [hv] at hpi
          simp only [Value.ownBlock, Option.some.injEq] at hpi
          subst hpi
          rw [hi'] at hg'
          simp at hg'
          exact he hg'.2)
      exact h1.trans (HA.out.block i hiw)
  clear ho2 hg2
  go_wp2_with fail
  go_ret
  exact ⟨rfl, by rw [HQ.out]; exact HF.out.1, HF.out.2⟩

end Go.Proofs.Ytcfhfhpdnjaokaa

/- Walks: the laws' marks in plans. -/
namespace Go.Proofs.Ytcfhfhpdnjaokaa
open Go.RowKit Pth

/-- Only blocks between two have turned, whatever they hold. -/
structure OnlyB (B C : Nat) (w w' : World) : Prop where
  below : Below B w w'
  above : ∀ i, C ≤ i → i < w.heap.size → w'.heap[i]? = w.heap[i]?
theorem OnlyB.trans {B C : Nat} {a b c : World} (h : OnlyB B C a b) (k : OnlyB B C b c) : OnlyB B C a c :=
  ⟨h.below.trans k.below, fun i hi hl => (k.above i hi (Nat.lt_of_lt_of_le hl h.below.size)).trans (h.above i hi hl)⟩
theorem OnlyB.of_below {B C : Nat} {w w' : World} (h : Below w.heap.size w w') (hB : B ≤ w.heap.size) : OnlyB B C w w' := ⟨h.mono hB, fun i _ hl => h.block i hl⟩
theorem OnlyB.of_only {B C : Nat} {w w' : World} (h : OnlyIn B C w w') : OnlyB B C w w' := ⟨h.below, h.above⟩
theorem OnlyB.of_grown {B C : Nat} {w w' : World} {r : Option Nat} (h : w.grownBy w' r) (hr : ∀ i, r = some i → B ≤ i ∧ i < C) (hB : B ≤ w.heap.size) : OnlyB B C w w' := by
  refine ⟨⟨h.os, h.tape, h.output, h.size, fun i hi => h.block i (by omega) (fun e => by have := (hr i e.symm).1; omega)⟩, fun i hi hl => h.block i hl (fun e => by have := (hr i e.symm).2; omega)⟩
theorem OnlyB.own {B C D e n z : Nat} {w w' : World} {v : Value} {xs : List Value} (hg : OnlyB B C w w') (h : w.ownsRow D e z v n xs) (hD : C ≤ D) : w'.ownsRow D e z v n xs := by
  refine ⟨h.1, ?_⟩
  rcases h.2 with h0 | ⟨g, cap, cur, hv, hB, hh, r⟩
  · exact .inl h0
  · exact .inr ⟨g, cap, cur, hv, hB, (hg.above g (by omega) (lt_of_block hh)).trans hh, r⟩
theorem OnlyB.blk4 {B C b t : Nat} {w w' : World} {x y z u : Value} (hg : OnlyB B C w w') (h : Blk4 w b t x y z u) (hb : C ≤ b) : Blk4 w' b t x y z u := (hg.above b hb (lt_of_block h)).trans h
theorem own_kept {B C D e n z : Nat} {w w' : World} {v : Value} {xs : List Value} (hg : OnlyIn B C w w') (he : e ≠ 3) (h : w.ownsRow D e z v n xs) : w'.ownsRow D e z v n xs := by
  refine ⟨h.1, ?_⟩
  rcases h.2 with h0 | ⟨g, cap, cur, hv, hB, hh, r⟩
  · exact .inl h0
  · exact .inr ⟨g, cap, cur, hv, hB, (hg.kept g _ e he hh).trans hh, r⟩

theorem BL_set (m : List Bool) (j : Nat) (b : Bool) : (BL m).set j (.bool b) = BL (m.set j b) := by simp [BL, List.map_set]

set_option maxRecDepth 20000 in
set_option maxHeartbeats 1000000 in
theorem markBoolS_any (l : List Bool) (k : Nat) (B : Nat) (v : Value) (w : World) (hown : w.ownsRow B 4 1 v l.length (BL l)) (hl : l.length ≤ 1100000) (hk : k ≤ 4000000) :
    Calls Try.prog 31 #[v, .int .i64 (k : Int)] w fun e w' => e = .returned (.int .i64 ((k + l.length : Nat) : Int)) ∧ w.grownBy w' v.ownBlock := by
  have HW := Lib.hid hown
  obtain ⟨a, cap, rfl⟩ := own_slice hown
  clear hown
  go_enter Try.func31, Try.ntmps31
  go_wp2_with fail
  go_loopw [1, 5] (fun q i wr => ∃ (j : Nat) (m : List Bool), j ≤ l.length ∧ m.length = l.length ∧ q = .int .i64 ((k + j : Nat) : Int) ∧ i = .int .i64 j ∧ wr.ownsRow B 4 1 (.slice a l.length cap) l.length (BL m) ∧ w.grownBy wr (Value.slice a l.length cap).ownBlock) (fun _ i _ => l.length - (intOf i).toNat)
  case atStart => exact ⟨0, l, Nat.zero_le _, rfl, rfl, rfl, HW.out, grown_refl _ _⟩
  case round =>
    clear HW
    obtain ⟨j, m, hj, hm, rfl, rfl, hown, hg⟩ := hrel
    have HM := Lib.hid hm
    by_cases hlt : j < l.length
    · obtain ⟨g, c2, hv⟩ : ∃ g c2, (Value.slice a l.length cap) = .slice (some ⟨g, 0, none⟩) l.length c2 := by
        rcases hown.2 with ⟨_, h0⟩ | ⟨g, c2, cur, hv, _⟩
        · omega
        · exact ⟨g, c2, hv⟩
      injection hv with hv1 hv2 hv3
      subst hv1
      have hc4 : l.length ≤ cap := by
        rcases hown.2 with ⟨_, h0⟩ | ⟨g, c2, cur, hv, _, _, h5, _⟩
        · omega
        · injection hv with _ _ hv3; omega
      have hfz := hown.frozenAt j
      have hcz : wr.cell? ⟨g, j, none⟩ = some (.bool (m[j]'(by omega))) := by
        rw [hown.cellAt j (by omega)]
        rw [List.getElem?_eq_getElem (by rw [BL_len]; omega), BL_get (by omega)]
      have HST := Lib.hid (fun b => hown.stored j (.bool b))
      have HG := Lib.hid hg
      generalize m[j]'(by omega) = y at hcz
      have HKJ := Lib.hid (show ((k + (j + 1) : Nat) : Int) = ((k + j : Nat) : Int) + 1 by omega)
      generalize hkj : k + j = kj at *
      have hkj2 : kj ≤ 5200000 := by omega
      clear hown hg hv2 hv3 hm
      clear hkj
      go_wp2_with fail
      go_roundw
      case rel => exact ⟨j + 1, m.set j ((kj : Int) % 3 == 0), by omega, by rw [List.length_set]; exact HM.out, by rw [HKJ.out], by go_num, by rw [← BL_set]; exact (HST.out _).1, grown_trans HG.out (HST.out _).2⟩
      case measure => simp [intOf]; omega
    · obtain rfl : j = l.length := by omega
      have HG := Lib.hid hg
      clear hown hg hm
      go_wp2_with fail
      go_ret
      exact ⟨rfl, HG.out⟩

theorem totalO3 {rs : List (List OpT)} {j : Nat} (hj : j < rs.length) (k : Nat) : ((k + 3 * totalO (rs.take (j + 1)) : Nat) : Int) = ((k + 3 * totalO (rs.take j) : Nat) : Int) + (rs[j].length : Int) * 3 := by
  rw [totalO_next hj]; omega

set_option maxRecDepth 20000 in
set_option maxHeartbeats 2000000 in
theorem markOpSS_any (rs : List (List OpT)) (k B C : Nat) (v : Value) (sl : List Value) (w : World) (hown : OwnOO B w v sl rs) (hC : ∀ p ∈ sl.zip rs, ∀ b, p.1.ownBlock = some b → b < C) (hB : B ≤ w.heap.size) (hl : rs.length + totalO rs ≤ 1100000) (hk : k + 3 * totalO rs ≤ 4000000) (hk1 : 1 ≤ k) :
    Calls Try.prog 32 #[v, .int .i64 (k : Int)] w fun e w' => e = .returned (.int .i64 ((k + 3 * totalO rs : Nat) : Int)) ∧ OnlyB B C w w' := by
  obtain ⟨hs, hrow, hL⟩ := hown
  have HW := Lib.hid hrow
  have HL0 := Lib.hid hL
  have HC := Lib.hid hC
  have HS := Lib.hid hs
  obtain ⟨a, cap, rfl⟩ := own_slice hrow
  clear hrow hL hC hs
  go_enter Try.func32, Try.ntmps32
  go_wp2_with fail
  go_loopw [1, 5] (fun q i wr => ∃ j : Nat, j ≤ rs.length ∧ q = .int .i64 ((k + 3 * totalO (rs.take j) : Nat) : Int) ∧ i = .int .i64 j ∧ Hid (wr.ownsRow B 68 1 (.slice a rs.length cap) rs.length sl) ∧ Hid (ListsO B wr ((sl.zip rs).drop j)) ∧ Hid (OnlyB B C w wr)) (fun _ i _ => rs.length - (intOf i).toNat)
  case atStart => exact ⟨0, Nat.zero_le _, by simp [totalO], rfl, HW, by simpa [Hid] using HL0.out, ⟨Below.refl _ _, fun _ _ _ => rfl⟩⟩
  case round =>
    clear HW HL0
    obtain ⟨j, hj, rfl, rfl, HN, HL, HG⟩ := hrel
    by_cases hlt : j < rs.length
    · have hjs : j < sl.length := by have := HS.out; omega
      have hz : j < (sl.zip rs).length := by rw [List.length_zip]; omega
      have hdr : (sl.zip rs).drop j = (sl[j], rs[j]) :: (sl.zip rs).drop (j + 1) := by rw [List.drop_eq_getElem_cons hz, List.getElem_zip]
      have hl1 := HL.out
      rw [hdr] at hl1
      obtain ⟨ho, hp⟩ := hl1
      rw [List.pairwise_cons] at hp
      have hone := ho (sl[j], rs[j]) (by simp)
      simp only at hone
      obtain ⟨g, c2, hv⟩ : ∃ g c2, (Value.slice a rs.length cap) = .slice (some ⟨g, 0, none⟩) rs.length c2 := by
        rcases HN.out.2 with ⟨_, h0⟩ | ⟨g, c2, cur, hv, _⟩
        · omega
        · exact ⟨g, c2, hv⟩
      injection hv with hv1 hv2 hv3
      subst hv1
      have hc4 : rs.length ≤ cap := by
        rcases HN.out.2 with ⟨_, h0⟩ | ⟨g, c2, cur, hv, _, _, h5, _⟩
        · omega
        · injection hv with _ _ hv3; omega
      have hcell : wr.cell? ⟨g, j, none⟩ = some sl[j] := by rw [HN.out.cellAt j (by omega), List.getElem?_eq_getElem hjs]
      obtain ⟨a2, c3, hsv⟩ := own_sliceG hone
      have hmem : (sl[j], rs[j]) ∈ sl.zip rs := zip_getO hjs hlt
      have hbw : B ≤ wr.heap.size := Nat.le_trans hB HG.out.below.size
      have ht1 := totalO_at hlt
      have ht2 := totalO_le (rs := rs) (k := j + 1)
      have ht3 := totalO_next hlt
      have HC1 := Lib.hid (markOpS_any rs[j] (k + 3 * totalO (rs.take j)) B sl[j] wr hone (by omega) (by omega) (by omega))
      have HT := Lib.hid (totalO3 hlt k)
      have HNX : Hid (∀ w1, wr.grownBy w1 (sl[j]).ownBlock → w1.ownsRow B 68 1 (.slice (some ⟨g, 0, none⟩) rs.length cap) rs.length sl ∧ ListsO B w1 ((sl.zip rs).drop (j + 1)) ∧ OnlyB B C w w1) := fun w1 hg => by
        refine ⟨own_apartG HN.out hg (own_typesG hone HN.out (by decide)), ⟨fun p hp' => ?_, hp.2⟩, HG.out.trans (OnlyB.of_grown hg (fun i hi => ⟨(hone.lt i hi).1, HC.out _ hmem i hi⟩) hbw)⟩
        exact own_apartG (ho p (by simp [hp'])) hg (fun b h1 h2 => hp.1 p hp' b h1 h2)
      rw [hsv] at hcell HC1 HNX
      clear hdr ho hp hone hmem ht1 ht2 ht3 hv2 hv3 HN HL HG hz
      generalize k + 3 * totalO (rs.take j) = kq at *
      generalize rs[j].length = nj at *
      go_wp2_with fail
      refine HC1.out.mono ?_
      rintro e w1 ⟨rfl, hg1⟩
      have HF := Lib.hid (HNX.out w1 hg1)
      clear hg1 HC1 HNX
      go_wp2_with fail
      go_roundw
      case rel => exact ⟨j + 1, by omega, by rw [HT.out], by go_num, HF.out.1, HF.out.2.1, HF.out.2.2⟩
      case measure => simp [intOf]; omega
    · have e1 : rs.take j = rs := List.take_of_length_le (by omega)
      rw [e1]
      clear HN HL
      go_wp2_with fail
      go_ret
      exact ⟨rfl, HG.out⟩

/-- How many marks a plan takes. -/
def markZ (ls : List (List Int)) (l : List Int) (bs : List Bool) (rs : List (List OpT)) : Nat := totalG ls l + bs.length + 3 * totalO rs
theorem OwnOO.kept {B C D : Nat} {w w' : World} {v : Value} {sl : List Value} {rs : List (List OpT)} (h : OwnOO B w v sl rs) (hg : OnlyIn D C w w') : OwnOO B w' v sl rs :=
  ⟨h.1, own_kept hg (by decide) h.2.1, fun p hp => own_kept hg (by decide) (h.2.2.1 p hp), h.2.2.2⟩
theorem OwnOO.grown {B B' e z n : Nat} {w w' : World} {v u : Value} {xs : List Value} {sl : List Value} {rs : List (List OpT)} (h : OwnOO B w v sl rs) (ho : w.ownsRow B' e z u n xs) (h1 : e ≠ 68) (h2 : e ≠ 81) (hg : w.grownBy w' u.ownBlock) : OwnOO B w' v sl rs :=
  ⟨h.1, own_apartG h.2.1 hg (own_typesG ho h.2.1 h1), h.2.2.outer ho h2 hg⟩

set_option maxRecDepth 20000 in
set_option maxHeartbeats 4000000 in
theorem markPlan_any (ls : List (List Int)) (l : List Int) (bs : List Bool) (rs : List (List OpT)) (B : Nat) (v : Value) (w0 w : World) (h0 : PlanO B w0 v ls l bs rs) (hb0 : Below w0.heap.size w0 w) (hB : B ≤ w0.heap.size) (hz : planZ ls l bs rs ≤ 1048576) :
    Calls Try.prog 13 #[v, .int .i64 1] w fun e w' => e = .returned (.int .i64 ((1 + markZ ls l bs rs : Nat) : Int)) ∧ OnlyB B w0.heap.size w w' := by
  obtain ⟨nv, ov, sv, rv, so, rfl, hg, hb, hr⟩ := h0
  unfold planZ at hz
  obtain ⟨an, cn, ao, co, he⟩ := hg.slices
  simp only [Value.agg.injEq, Array.mk.injEq, List.cons.injEq, and_true] at he
  obtain ⟨rfl, rfl⟩ := he
  obtain ⟨as0, cs, rfl⟩ := own_slice hb
  obtain ⟨ar, cr, rfl⟩ := own_slice hr.2.1
  obtain ⟨wa, hwa⟩ : ∃ wa, wa = w.alloc (.cells #[.slice an ls.length cn, .slice ao l.length co, .slice as0 bs.length cs, .slice ar rs.length cr] 38) := ⟨_, rfl⟩
  have P0 : Hid (Blk4 wa w.heap.size 38 (.slice an ls.length cn) (.slice ao l.length co) (.slice as0 bs.length cs) (.slice ar rs.length cr)) := by rw [hwa]; exact Blk4.new
  have hAw : Below w.heap.size w wa := by rw [hwa]; exact (Below.refl w.heap.size w).alloc (Nat.le_refl _) _
  have HA := Lib.hid hAw
  have H0A := Lib.hid (bth hb0 hAw (Nat.le_refl _))
  have hCw : w0.heap.size ≤ w.heap.size := hb0.size
  have HBO := Lib.hid (own_below hb H0A.out)
  have HRO := Lib.hid (hr.below H0A.out)
  have HRL := Lib.hid (fun p hp b h => ((hr.2.2.1 p hp).lt b h).2)
  have HBL := Lib.hid (fun b h => hb.lt b h)
  have HC := Lib.hid (markGraph_any ls l 1 B _ w0 wa hg H0A.out hB (by omega) (by omega))
  have hone : ((1 : Nat) : Int) = 1 := rfl
  rw [hone] at HC
  have htg : totalG ls l ≤ 1048576 := by unfold totalG; omega
  have HWA := Lib.hid hwa
  have HZ : Hid (1 + markZ ls l bs rs = 1 + totalG ls l + bs.length + 3 * totalO rs) := by show _ = _; unfold markZ; omega
  have HZ2 : Hid (1 + totalG ls l + bs.length + 3 * totalO rs ≤ 4000000 ∧ rs.length + totalO rs ≤ 1100000 ∧ bs.length ≤ 1100000) := ⟨by unfold totalG; omega, by omega, by omega⟩
  clear hwa hg hb hr hb0 hone hz
  go_enter Try.func13, Try.ntmps13
  go_wp2_with fail
  rw [← HWA.out]
  refine HC.out.mono ?_
  rintro e w1 ⟨rfl, _, hoi⟩
  have O1 := Lib.hid (OnlyB.of_only hoi)
  have P1 := Lib.hid (O1.out.blk4 P0.out hCw)
  have HB1 := Lib.hid (own_kept hoi (by decide) HBO.out)
  have HR1 := Lib.hid (HRO.out.kept hoi)
  have hs1 : w0.heap.size ≤ w1.heap.size := Nat.le_trans hCw (Nat.le_trans HA.out.size hoi.below.size)
  have HC1 := Lib.hid (markBoolS_any bs (1 + totalG ls l) B _ w1 HB1.out HZ2.out.2.2 (by omega))
  have c2 := P1.out.cells.2.2.1
  clear hoi HC
  go_wp2_with fail
  refine HC1.out.mono ?_
  rintro e w2 ⟨rfl, hg2⟩
  have O2 := Lib.hid (O1.out.trans (OnlyB.of_grown (B := B) (C := w0.heap.size) hg2 (fun i hi => HBL.out i hi) (Nat.le_trans hB hs1)))
  have P2 := Lib.hid ((OnlyB.of_grown (B := B) (C := w0.heap.size) hg2 (fun i hi => HBL.out i hi) (Nat.le_trans hB hs1)).blk4 P1.out hCw)
  have HR2 := Lib.hid (HR1.out.grown HB1.out (by decide) (by decide) hg2)
  have hs2 : w0.heap.size ≤ w2.heap.size := Nat.le_trans hs1 hg2.size
  have HC2 := Lib.hid (markOpSS_any rs (1 + totalG ls l + bs.length) B w0.heap.size _ so w2 HR2.out HRL.out (Nat.le_trans hB hs2) HZ2.out.2.1 HZ2.out.1 (by omega))
  have c3 := P2.out.cells.2.2.2
  clear hg2 HC1 c2
  go_wp2_with fail
  refine HC2.out.mono ?_
  rintro e w3 ⟨rfl, hg3⟩
  have O3 := Lib.hid ((OnlyB.of_below (B := B) (C := w0.heap.size) HA.out (Nat.le_trans hB hCw)).trans (O2.out.trans hg3))
  clear hg3 HC2 c3
  go_wp2_with fail
  go_ret
  exact ⟨by rw [HZ.out] <;> rfl, O3.out⟩
end Go.Proofs.Ytcfhfhpdnjaokaa

/- Walks: the laws' helpers on the answers of chapters 7 and 8. -/
namespace Go.Proofs.Ytcfhfhpdnjaokaa
open Go.RowKit Pth

/-- Numbers are told, and whether they stand. -/
def NumsOk (R : List Int) (ok : Bool) (w : World) (e : Ending) (w' : World) : Prop :=
  ∃ v, e = .returned (.tuple #[v, .bool ok]) ∧ w'.ownsRow w.heap.size 3 1 v R.length (I R) ∧ Below w.heap.size w w'
theorem marksR_at (k n j : Nat) (hj : j < (marksR k n).length) : (marksR k n)[j] = (markT (k + j * 2), ((k + j * 2 + 1 : Nat) : Int)) := by simp [marksR]
theorem heldRow_I {w : World} {B n : Nat} {v : Value} (h : w.ownsRow B 3 1 v n (I (marks 1 n))) : RowV w v (I (marks 1 n)) := RowV.of_own h

set_option maxHeartbeats 1000000 in
theorem szStringS_le (l : List (List UInt8)) (left : Nat) (v : Value) (w : World) (hrow : RowV w v (S l)) (hx : ∀ x ∈ l, x.length ≤ maxLen) (hl : left ≤ 2000000) :
    Calls Try.prog 5 #[v, .int .i64 (left : Int)] w fun e w' => ∃ r : Int, e = .returned (.int .i64 r) ∧ r ≤ left ∧ (0 ≤ r → r + l.length ≤ left ∧ ∀ x ∈ l, x.length ≤ left) ∧ w = w' := by
  obtain ⟨a, cap, rfl, hc1, hc2, hat⟩ := hrow.texts
  clear hrow
  unfold maxLen at hc2 hx
  by_cases hlen : l.length ≤ left
  · have hlen1 : decide ((left : Int) - (l.length : Int) < 0) = false := by simp; omega
    go_enter Try.func5, Try.ntmps5
    go_wp2_with fail
    go_loop [1, 5] (fun q i => ∃ (k : Nat) (r : Int), k ≤ l.length ∧ 0 ≤ r ∧ r + l.length ≤ left ∧ q = .int .i64 r ∧ i = .int .i64 k ∧ Hid (∀ x ∈ l.take k, x.length ≤ left)) (fun _ i => l.length - (intOf i).toNat)
    case atStart => exact ⟨0, (left : Int) - (l.length : Int), Nat.zero_le _, by omega, by omega, rfl, rfl, by simp [Hid]⟩
    case round =>
      obtain ⟨k, r, hk, hr0, hr1, rfl, rfl, HO⟩ := hrel
      by_cases hlt : k < l.length
      · obtain ⟨g, o, rfl, hg, hcell⟩ := hat k hlt
        have hxl := hx l[k] (List.getElem_mem hlt)
        by_cases hy : ((l[k]).length : Int) ≤ r
        · have HS : Hid (∀ x ∈ l.take (k + 1), x.length ≤ left) := by
            intro x hxm
            rw [List.take_succ_eq_append_getElem hlt, List.mem_append, List.mem_singleton] at hxm
            rcases hxm with h | h
            · exact HO.out x h
            · rw [h]; omega
          have hy1 : decide (r - ((l[k]).length : Int) < 0) = false := by simp; omega
          generalize l[k] = x at hcell hxl hy hy1
          clear hat HO hx
          go_wp2_with fail
          go_round
          case rel => exact ⟨k + 1, r - (x.length : Int), by omega, by omega, by omega, rfl, by go_num, HS⟩
          case measure => simp [intOf]; omega
        · have hy1 : decide (r - ((l[k]).length : Int) < 0) = true := by simp; omega
          generalize l[k] = x at hcell hxl hy hy1
          clear hat HO hx
          go_wp2_with fail
          go_ret
          exact ⟨-1, rfl, by omega, fun h => by omega, rfl⟩
      · have HS : Hid (∀ x ∈ l, x.length ≤ left) := by have := HO.out; rw [List.take_of_length_le (by omega)] at this; exact this
        clear hat HO hx
        go_wp2_with fail
        go_ret
        exact ⟨r, rfl, by omega, fun _ => ⟨by omega, HS.out⟩, rfl⟩
  · have hlen1 : decide ((left : Int) - (l.length : Int) < 0) = true := by simp; omega
    clear hat hx
    go_enter Try.func5, Try.ntmps5
    go_wp2_with fail
    go_ret
    exact ⟨-1, rfl, by omega, fun h => by omega, rfl⟩


set_option maxHeartbeats 1000000 in
theorem markIntS_huge (l : List Int) (k : Nat) (B : Nat) (v : Value) (w : World) (hown : w.ownsRow B 3 1 v l.length (I l)) (hl : l.length ≤ 2000000) (hk : k ≤ 8000000) :
    Calls Try.prog 15 #[v, .int .i64 (k : Int)] w (Marked B v k l.length w) := by
  have HW := Lib.hid hown
  obtain ⟨a, cap, rfl⟩ := own_slice hown
  clear hown
  go_enter Try.func15, Try.ntmps15
  go_wp2_with fail
  go_loopw [1, 5] (fun q i wr => ∃ j : Nat, j ≤ l.length ∧ q = .int .i64 ((k : Int) + (j : Int)) ∧ i = .int .i64 j ∧ wr.ownsRow B 3 1 (.slice a l.length cap) l.length (I (marks k j) ++ (I l).drop j) ∧ w.grownBy wr (Value.slice a l.length cap).ownBlock) (fun _ i _ => l.length - (intOf i).toNat)
  case atStart => exact ⟨0, Nat.zero_le _, by simp, rfl, HW.out, grown_refl _ _⟩
  case round =>
    clear HW
    obtain ⟨j, hj, rfl, rfl, hown, hg⟩ := hrel
    by_cases hlt : j < l.length
    · obtain ⟨g, c2, hv⟩ : ∃ g c2, (Value.slice a l.length cap) = .slice (some ⟨g, 0, none⟩) l.length c2 := by
        rcases hown.2 with ⟨_, h0⟩ | ⟨g, c2, cur, hv, _⟩
        · omega
        · exact ⟨g, c2, hv⟩
      injection hv with hv1 hv2 hv3
      subst hv1
      have hfz := hown.frozenAt j
      have hcz : wr.cell? ⟨g, j, none⟩ = some (.int .i64 l[j]) := by rw [hown.cellAt j (by omega), mark_get k l j hlt]
      have hst := hown.stored j (.int .i64 ((k : Int) + (j : Int)))
      rw [mark_set k l j hlt] at hst
      have HN1 := Lib.hid hst.1
      have HG1 := Lib.hid (grown_trans hg hst.2)
      have hc4 : l.length ≤ cap := by
        rcases hown.2 with ⟨_, h0⟩ | ⟨g, c2, cur, hv, _, _, h5, _⟩
        · omega
        · injection hv with _ _ hv3; omega
      clear hown hg hst hv2 hv3
      generalize l[j] = x at hcz
      go_wp2_with fail
      go_roundw
      case rel => exact ⟨j + 1, by omega, by go_num, by go_num, HN1.out, HG1.out⟩
      case measure => simp [intOf]; omega
    · obtain rfl : j = l.length := by omega
      have e : (I l).drop l.length = [] := List.drop_of_length_le (by rw [I_len]; omega)
      rw [e, List.append_nil] at hown
      have HN := Lib.hid hown
      have HG := Lib.hid hg
      clear hown hg e
      go_wp2_with fail
      go_ret
      exact ⟨rfl, HN.out, HG.out⟩


end Go.Proofs.Ytcfhfhpdnjaokaa
