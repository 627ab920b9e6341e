/- Walks: the reference's good files. -/
import Derived.Test.YtoahfhidekmodaaDoorGa
import Derived.Test.YtoahfhidekmodaaDoorHq
namespace Go.Proofs.YtoahfhidekmodaaDoor
open Go.RowKit Pth

theorem name_l {b : Bool} (n : List UInt8) (hn : n.length ≤ maxLen) (h : nameOk n = b) : ∀ w, Calls Tryd.prog 22 #[.string ⟨n.toArray⟩] w (BoolPost b w) := fun w => by
  have := l3Name_any n w hn
  rwa [h] at this
theorem goodF_bad {l : List FileT} {k : Nat} (hk : k < l.length) (h : fileOk l[k] = false) : goodF l = false := by
  have : l.all fileOk = false := by
    rw [List.all_eq_false]
    exact ⟨l[k], List.getElem_mem hk, by rw [h]; simp⟩
  rw [goodF, this]; rfl
theorem goodF_fall {l : List FileT} {k : Nat} (hk : k < l.length) (h0 : 0 < k) (h : ltT l[k - 1].1 l[k].1 = false) : goodF l = false := by
  have : riseN (l.map (·.1)) = false := riseN_fall (k := k) (by simpa using hk) h0 (by simpa using h)
  rw [goodF, this]; simp
theorem take_all_ok {l : List FileT} {k : Nat} (hk : k < l.length) (h0 : (l.take k).all fileOk = true) (h : fileOk l[k] = true) : (l.take (k + 1)).all fileOk = true := by
  rw [List.take_succ_eq_append_getElem hk, List.all_append, h0]; simp [h]
theorem take_rise {l : List FileT} {k : Nat} (hk : k < l.length) (h0 : riseN ((l.map (·.1)).take k) = true) (h : ∀ _ : 0 < k, ltT l[k - 1].1 l[k].1 = true) : riseN ((l.map (·.1)).take (k + 1)) = true :=
  riseN_next (by simpa using hk) h0 (fun h1 => by simpa using h h1)
theorem goodF_end {l : List FileT} {k : Nat} (hk : l.length ≤ k) (h0 : (l.take k).all fileOk = true) (h1 : riseN ((l.map (·.1)).take k) = true) : goodF l = decide (l.length ≤ 12) := by
  rw [List.take_of_length_le hk] at h0
  rw [List.take_of_length_le (by simpa using hk)] at h1
  rw [goodF, h0, h1]; rfl

set_option maxRecDepth 20000 in
set_option maxHeartbeats 4000000 in
theorem specGoodFiles_any (l : List FileT) (v : Value) (w : World) (hrow : RowF w v l) (hx : ∀ f ∈ l, f.1.length ≤ maxLen ∧ f.2.length ≤ maxLen) :
    Calls Tryd.prog 8 #[v] w (BoolPost (goodF l) w) := by
  obtain ⟨a, cap, rfl, hc1, hc2, hat⟩ := hrow.files
  clear hrow
  unfold maxLen at hc2
  go_enter Tryd.func8, Tryd.ntmps8
  go_wp2_with fail
  go_loopw [7] (fun i wr => ∃ k : Nat, k ≤ l.length ∧ i = .int .i64 k ∧ Hid (Below w.heap.size w wr) ∧ Hid ((l.take k).all fileOk = true) ∧ Hid (riseN ((l.map (·.1)).take k) = true)) (fun i _ => l.length - (intOf i).toNat)
  case atStart => exact ⟨0, Nat.zero_le _, rfl, Below.refl _ _, by simp [Hid], by simp [Hid, riseN]⟩
  case round =>
    obtain ⟨k, hk, rfl, HB, HO, HR⟩ := hrel
    have hbs := HB.out.size
    by_cases hlt : k < l.length
    · obtain ⟨g, o, rfl, hg, hcell1, hcell2⟩ := hat k hlt
      have hc1' : wr.cell? ⟨g, o + k * 2, none⟩ = some (.string ⟨(l[k]).1.toArray⟩) := by rw [HB.out.cell (p := ⟨g, o + k * 2, none⟩) hg]; exact hcell1
      have hc2' : wr.cell? ⟨g, o + k * 2 + 1, none⟩ = some (.string ⟨(l[k]).2.toArray⟩) := by rw [HB.out.cell (p := ⟨g, o + k * 2 + 1, none⟩) hg]; exact hcell2
      have hxl := hx l[k] (List.getElem_mem hlt)
      unfold maxLen at hxl
      have HBA := Lib.hid (HB.out.alloc hbs (.cells #[.string ⟨(l[k]).1.toArray⟩, .string ⟨(l[k]).2.toArray⟩] 45))
      have hfr : True := trivial
      by_cases hn : nameOk l[k].1 = true
      · have HC := Lib.hid (name_l _ hxl.1 hn)
        by_cases hy : 40 < l[k].2.length
        · have HT := Lib.hid (goodF_bad hlt (by rw [fileOk, decide_eq_false (by omega : ¬ l[k].2.length ≤ 40)]; simp))
          have hy1 : decide ((l[k].2.length : Int) > 40) = true := decide_eq_true (by omega)
          clear hcell1 hcell2 hat hx HO HR hn
          generalize l[k].1 = x at hc1' HC hxl HBA hfr
          generalize l[k].2 = y at hc2' hxl HBA hfr hy hy1
          go_wp2_with fail
          have hwa : wr.heap.size < (wr.alloc (.cells #[.string ⟨x.toArray⟩, .string ⟨y.toArray⟩] 45)).heap.size := by simp
          have s0 : (wr.alloc (.cells #[.string ⟨x.toArray⟩, .string ⟨y.toArray⟩] 45)).cell? ⟨wr.heap.size, 0, none⟩ = some (.string ⟨x.toArray⟩) ∧ (wr.alloc (.cells #[.string ⟨x.toArray⟩, .string ⟨y.toArray⟩] 45)).cell? ⟨wr.heap.size, 1, none⟩ = some (.string ⟨y.toArray⟩) := ⟨by simp, by simp⟩
          generalize wr.alloc (.cells #[.string ⟨x.toArray⟩, .string ⟨y.toArray⟩] 45) = wa at s0 HBA hwa
          obtain ⟨s0, s1⟩ := s0
          refine wp_region_head_quiet 3 (by kernel_rfl) (by kernel_rfl) (by kernel_rfl) (by kernel_rfl) (by decide) ?_
          simp only [List.take_succ_cons, List.take_zero, List.drop_succ_cons, List.drop_zero]
          go_wp2_with fail
          refine (HC.out _).mono ?_
          rintro e w5 ⟨rfl, hb5⟩
          have q0 := (hb5.cell (p := ⟨wr.heap.size, 0, none⟩) hwa).trans s0
          have q1 := (hb5.cell (p := ⟨wr.heap.size, 1, none⟩) hwa).trans s1
          have HB5 := Lib.hid ((Below.drew HBA.out).trans (hb5.mono HBA.out.size))
          clear hb5 s0 s1
          go_wp2_with fail
          refine then_normal ?_
          repeat (go_big_quiet_step (fail))
          refine wpQuiet_nil ?_
          intro _ hw'
          obtain ⟨nq, hw''⟩ := hw'
          subst hw''
          have HB6 := Lib.hid (below_drewN HB5.out nq)
          go_wp2_with fail
          go_ret
          exact ⟨ret_bool HT.out.symm, HB6.out⟩
        · have hy1 : decide ((l[k].2.length : Int) > 40) = false := decide_eq_false (by omega)
          have hfile : fileOk l[k] = true := by rw [fileOk, hn, decide_eq_true (by omega : l[k].2.length ≤ 40)]; rfl
          have HO2 := Lib.hid (take_all_ok hlt HO.out hfile)
          by_cases h0 : 0 < k
          · have hk0 : decide ((k : Int) > 0) = true := decide_eq_true (by omega)
            obtain ⟨g', o', hA, _, hp1, _⟩ := hat (k - 1) (by omega)
            obtain ⟨rfl, rfl⟩ := addr_inj hA
            have hp : wr.cell? ⟨g, o + (k - 1) * 2, none⟩ = some (.string ⟨(l[k - 1]).1.toArray⟩) := by rw [HB.out.cell (p := ⟨g, o + (k - 1) * 2, none⟩) hg]; exact hp1
            rcases hz : ltT l[k - 1].1 l[k].1 with _ | _
            · have HT := Lib.hid (goodF_fall hlt h0 hz)
              have hz1 : Op.bytesLess l[k - 1].1 l[k].1 = false := hz
              generalize l[k - 1].1 = z at hp hz hz1
              clear hcell1 hcell2 hat hx HO HR hn hp1 hfile HO2 hz hA
              generalize l[k].1 = x at hc1' HC hxl HBA hfr hz1
              generalize l[k].2 = y at hc2' hxl HBA hfr hy hy1
              go_wp2_with fail
              have hwa : wr.heap.size < (wr.alloc (.cells #[.string ⟨x.toArray⟩, .string ⟨y.toArray⟩] 45)).heap.size := by simp
              have s0 : (wr.alloc (.cells #[.string ⟨x.toArray⟩, .string ⟨y.toArray⟩] 45)).cell? ⟨wr.heap.size, 0, none⟩ = some (.string ⟨x.toArray⟩) ∧ (wr.alloc (.cells #[.string ⟨x.toArray⟩, .string ⟨y.toArray⟩] 45)).cell? ⟨wr.heap.size, 1, none⟩ = some (.string ⟨y.toArray⟩) ∧ (wr.alloc (.cells #[.string ⟨x.toArray⟩, .string ⟨y.toArray⟩] 45)).cell? ⟨g, o + (k - 1) * 2, none⟩ = some (.string ⟨z.toArray⟩) := ⟨by simp, by simp, by rw [World.cell?_alloc_lt _ _ _ (by show g < wr.heap.size; omega)]; exact hp⟩
              generalize wr.alloc (.cells #[.string ⟨x.toArray⟩, .string ⟨y.toArray⟩] 45) = wa at s0 HBA hwa
              obtain ⟨s0, s1, s2⟩ := s0
              refine wp_region_head_quiet 3 (by kernel_rfl) (by kernel_rfl) (by kernel_rfl) (by kernel_rfl) (by decide) ?_
              simp only [List.take_succ_cons, List.take_zero, List.drop_succ_cons, List.drop_zero]
              go_wp2_with fail
              refine (HC.out _).mono ?_
              rintro e w5 ⟨rfl, hb5⟩
              have q0 := (hb5.cell (p := ⟨wr.heap.size, 0, none⟩) hwa).trans s0
              have q1 := (hb5.cell (p := ⟨wr.heap.size, 1, none⟩) hwa).trans s1
              have q2 := (hb5.cell (p := ⟨g, o + (k - 1) * 2, none⟩) (by show g < wa.heap.size; omega)).trans s2
              have HB5 := Lib.hid ((Below.drew HBA.out).trans (hb5.mono HBA.out.size))
              clear hb5 s0 s1 s2
              go_wp2_with fail
              refine then_normal ?_
              repeat (go_big_quiet_step (fail))
              refine wpQuiet_nil ?_
              intro _ hw'
              obtain ⟨nq, hw''⟩ := hw'
              subst hw''
              have HB6 := Lib.hid (below_drewN HB5.out nq)
              go_wp2_with fail
              go_ret
              exact ⟨ret_bool HT.out.symm, HB6.out⟩
            · have HR2 := Lib.hid (take_rise hlt HR.out (fun _ => hz))
              have hz1 : Op.bytesLess l[k - 1].1 l[k].1 = true := hz
              generalize l[k - 1].1 = z at hp hz hz1
              clear hcell1 hcell2 hat hx HO HR hn hp1 hfile hz hA
              generalize l[k].1 = x at hc1' HC hxl HBA hfr hz1
              generalize l[k].2 = y at hc2' hxl HBA hfr hy hy1
              go_wp2_with fail
              have hwa : wr.heap.size < (wr.alloc (.cells #[.string ⟨x.toArray⟩, .string ⟨y.toArray⟩] 45)).heap.size := by simp
              have s0 : (wr.alloc (.cells #[.string ⟨x.toArray⟩, .string ⟨y.toArray⟩] 45)).cell? ⟨wr.heap.size, 0, none⟩ = some (.string ⟨x.toArray⟩) ∧ (wr.alloc (.cells #[.string ⟨x.toArray⟩, .string ⟨y.toArray⟩] 45)).cell? ⟨wr.heap.size, 1, none⟩ = some (.string ⟨y.toArray⟩) ∧ (wr.alloc (.cells #[.string ⟨x.toArray⟩, .string ⟨y.toArray⟩] 45)).cell? ⟨g, o + (k - 1) * 2, none⟩ = some (.string ⟨z.toArray⟩) := ⟨by simp, by simp, by rw [World.cell?_alloc_lt _ _ _ (by show g < wr.heap.size; omega)]; exact hp⟩
              generalize wr.alloc (.cells #[.string ⟨x.toArray⟩, .string ⟨y.toArray⟩] 45) = wa at s0 HBA hwa
              obtain ⟨s0, s1, s2⟩ := s0
              refine wp_region_head_quiet 3 (by kernel_rfl) (by kernel_rfl) (by kernel_rfl) (by kernel_rfl) (by decide) ?_
              simp only [List.take_succ_cons, List.take_zero, List.drop_succ_cons, List.drop_zero]
              go_wp2_with fail
              refine (HC.out _).mono ?_
              rintro e w5 ⟨rfl, hb5⟩
              have q0 := (hb5.cell (p := ⟨wr.heap.size, 0, none⟩) hwa).trans s0
              have q1 := (hb5.cell (p := ⟨wr.heap.size, 1, none⟩) hwa).trans s1
              have q2 := (hb5.cell (p := ⟨g, o + (k - 1) * 2, none⟩) (by show g < wa.heap.size; omega)).trans s2
              have HB5 := Lib.hid ((Below.drew HBA.out).trans (hb5.mono HBA.out.size))
              clear hb5 s0 s1 s2
              go_wp2_with fail
              refine then_normal ?_
              repeat (go_big_quiet_step (fail))
              refine wpQuiet_nil ?_
              intro _ hw'
              obtain ⟨nq, hw''⟩ := hw'
              subst hw''
              have HB6 := Lib.hid (below_drewN HB5.out nq)
              go_wp2_with fail
              go_roundw
              case rel => exact ⟨k + 1, by omega, by go_num, HB6, HO2, HR2⟩
              case measure => simp [intOf]; omega
          · have hk0 : decide ((k : Int) > 0) = false := decide_eq_false (by omega)
            have HR2 := Lib.hid (take_rise hlt HR.out (fun h => absurd h h0))
            clear hcell1 hcell2 hat hx HO HR hn hfile
            generalize l[k].1 = x at hc1' HC hxl HBA hfr
            generalize l[k].2 = y at hc2' hxl HBA hfr hy hy1
            go_wp2_with fail
            have hwa : wr.heap.size < (wr.alloc (.cells #[.string ⟨x.toArray⟩, .string ⟨y.toArray⟩] 45)).heap.size := by simp
            have s0 : (wr.alloc (.cells #[.string ⟨x.toArray⟩, .string ⟨y.toArray⟩] 45)).cell? ⟨wr.heap.size, 0, none⟩ = some (.string ⟨x.toArray⟩) ∧ (wr.alloc (.cells #[.string ⟨x.toArray⟩, .string ⟨y.toArray⟩] 45)).cell? ⟨wr.heap.size, 1, none⟩ = some (.string ⟨y.toArray⟩) := ⟨by simp, by simp⟩
            generalize wr.alloc (.cells #[.string ⟨x.toArray⟩, .string ⟨y.toArray⟩] 45) = wa at s0 HBA hwa
            obtain ⟨s0, s1⟩ := s0
            refine wp_region_head_quiet 3 (by kernel_rfl) (by kernel_rfl) (by kernel_rfl) (by kernel_rfl) (by decide) ?_
            simp only [List.take_succ_cons, List.take_zero, List.drop_succ_cons, List.drop_zero]
            go_wp2_with fail
            refine (HC.out _).mono ?_
            rintro e w5 ⟨rfl, hb5⟩
            have q0 := (hb5.cell (p := ⟨wr.heap.size, 0, none⟩) hwa).trans s0
            have q1 := (hb5.cell (p := ⟨wr.heap.size, 1, none⟩) hwa).trans s1
            have HB5 := Lib.hid ((Below.drew HBA.out).trans (hb5.mono HBA.out.size))
            clear hb5 s0 s1
            go_wp2_with fail
            refine then_normal ?_
            repeat (go_big_quiet_step (fail))
            refine wpQuiet_nil ?_
            intro _ hw'
            obtain ⟨nq, hw''⟩ := hw'
            subst hw''
            have HB6 := Lib.hid (below_drewN HB5.out nq)
            go_wp2_with fail
            go_roundw
            case rel => exact ⟨k + 1, by omega, by go_num, HB6, HO2, HR2⟩
            case measure => simp [intOf]; omega
      · have hn' : nameOk l[k].1 = false := by simpa using hn
        have HT := Lib.hid (goodF_bad hlt (by rw [fileOk, hn']; rfl))
        have HC := Lib.hid (name_l _ hxl.1 hn')
        clear hcell1 hcell2 hat hx HO HR hn hn'
        generalize l[k].1 = x at hc1' HC hxl HBA hfr
        generalize l[k].2 = y at hc2' hxl HBA hfr
        go_wp2_with fail
        have hwa : wr.heap.size < (wr.alloc (.cells #[.string ⟨x.toArray⟩, .string ⟨y.toArray⟩] 45)).heap.size := by simp
        have s0 : (wr.alloc (.cells #[.string ⟨x.toArray⟩, .string ⟨y.toArray⟩] 45)).cell? ⟨wr.heap.size, 0, none⟩ = some (.string ⟨x.toArray⟩) := by simp
        generalize wr.alloc (.cells #[.string ⟨x.toArray⟩, .string ⟨y.toArray⟩] 45) = wa at s0 HBA hwa
        refine wp_region_head_quiet 3 (by kernel_rfl) (by kernel_rfl) (by kernel_rfl) (by kernel_rfl) (by decide) ?_
        simp only [List.take_succ_cons, List.take_zero, List.drop_succ_cons, List.drop_zero]
        go_wp2_with fail
        refine (HC.out _).mono ?_
        rintro e w5 ⟨rfl, hb5⟩
        have q0 := (hb5.cell (p := ⟨wr.heap.size, 0, none⟩) hwa).trans s0
        have HB5 := Lib.hid ((Below.drew HBA.out).trans (hb5.mono HBA.out.size))
        clear hb5 s0
        go_wp2_with fail
        refine then_normal ?_
        repeat (go_big_quiet_step (fail))
        refine wpQuiet_nil ?_
        intro _ hw'
        obtain ⟨nq, hw''⟩ := hw'
        subst hw''
        have HB6 := Lib.hid (below_drewN HB5.out nq)
        go_wp2_with fail
        go_ret
        exact ⟨ret_bool HT.out.symm, HB6.out⟩
    · have HT := Lib.hid (goodF_end (by omega) HO.out HR.out)
      clear HO HR hat hx
      go_wp2_with fail
      go_ret
      exact ⟨ret_bool (by rw [HT.out]; go_num), HB.out⟩

end Go.Proofs.YtoahfhidekmodaaDoor
