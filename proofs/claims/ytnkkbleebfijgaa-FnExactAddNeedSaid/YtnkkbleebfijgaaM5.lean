/- Texts of one claim, joined in their order. -/
import Derived.Lib.SlicesCompact
import Derived.Test.YtnkkbleebfijgaaM4
import Derived.Test.YtnkkbleebfijgaaM3
import Derived.Test.YtnkkbleebfijgaaM1

/- Walks: the counts of the program. -/
namespace Go.Proofs.Ytnkkbleebfijgaa
open Go.RowKit Pth

set_option maxRecDepth 20000 in
set_option maxHeartbeats 8000000 in
theorem countsTo_any (ls : List (List Int)) (l : List Int) (t : Nat) (v : Value) (w : World) (hst : GraphV w v ls l) (hG : GoodG ls l) (ht : t < ls.length) :
    Calls Try.prog 92 #[v, .int .i64 (t : Int)] w (IntsPost w.heap.size (countL ls t) w) := by
  have HV := Lib.hid hst
  obtain ⟨nv, ov, rfl, h1, h2⟩ := hst
  obtain ⟨an, cn, rfl, hn1, hn2, hat⟩ := h1.lists
  obtain ⟨ao, co, rfl, ho1, ho2, hao⟩ := h2.ints
  clear h1 h2
  unfold maxLen at hn2 ho2
  have h10 := hG.high
  have hsm := hG.same
  have HIN := Lib.hid (good_in hG)
  have HSM : Hid (∀ k : Nat, k < ls.length → farI ls t k ≤ 10) := fun k hk => far_small hG ⟨by omega, by omega⟩
  have HGG := Lib.hid hG
  have HAT := Lib.hid hat
  have HAO := Lib.hid hao
  obtain ⟨csI, hcI, mI⟩ := make_alloc elemI rfl ls.length (by omega)
  rw [← hsm] at hcI mI
  have HCI := Lib.hid hcI
  have HSL := Lib.hid hsm
  have hl10 : l.length ≤ 10 := by omega
  clear hcI hG hat hao hsm
  obtain ⟨wa, hwa⟩ : ∃ wa, wa = w.alloc (.cells #[.slice an ls.length cn, .slice ao l.length co] 27) := ⟨_, rfl⟩
  have P0 : Hid (Blk2 wa w.heap.size 27 (.slice an ls.length cn) (.slice ao l.length co)) := by rw [hwa]; exact Blk2.new
  have HA : Hid (Below w.heap.size w wa) := by rw [hwa]; exact (Below.refl w.heap.size w).alloc (Nat.le_refl _) _
  have hsa : wa.heap.size = w.heap.size + 1 := by rw [hwa]; simp
  have HSA := Lib.hid hsa
  have HWA := Lib.hid hwa
  have hH := (own_of_heap (w := wa.alloc (.cells csI 3)) (B := wa.heap.size) (heap_alloc_new wa _) (Nat.le_refl _) HCI.out (by simp) (show l.length ≤ maxLen by unfold maxLen; omega))
  rw [HSA.out] at hH
  have HB1 : Hid (Below wa.heap.size wa (wa.alloc (.cells csI 3))) := (Below.refl wa.heap.size wa).alloc (Nat.le_refl _) _
  have htl : t < l.length := by have := HSL.out; omega
  have hfz := hH.frozenAt t
  have hcz : (wa.alloc (.cells csI 3)).cell? ⟨w.heap.size + 1, t, none⟩ = some (.int .i64 0) := by rw [hH.cellAt t (by omega)]; simp [htl]
  have hc1 := (P0.out.below HB1.out (by omega)).cells.2
  have hstA := hH.stored t (.int .i64 1)
  rw [hwa] at hfz hcz hc1
  have e0 : (List.replicate l.length (Value.int .i64 0)).set t (.int .i64 1) = I ((List.replicate l.length 0).set t 1) := by rw [← I_set]; simp [I]
  rw [e0] at hstA
  have HO0 := Lib.hid hstA.1
  have HB0 := Lib.hid (HB1.out.trans (only_below hstA.2 (by omega) HB1.out.size))
  have hC := Cnt.start ht
  rw [← HSL.out] at hC
  have HC := Lib.hid hC
  have ht2 : (t : Int) < (l.length : Int) := by omega
  obtain ⟨w2, hw2⟩ : ∃ w2, w2 = (wa.alloc (.cells csI 3)).setCell ⟨w.heap.size + 1, t, none⟩ (.int .i64 1) := ⟨_, rfl⟩
  rw [← hw2] at HO0 HB0
  rw [World.setCell_alloc_at _ _ _ _ _ (by omega), hwa] at hw2
  have HW2 := Lib.hid hw2
  clear hwa hsa hH hstA e0 hC hw2 HB1
  go_enter Try.func92, Try.ntmps92
  go_wp2_with fail
  rw [← HW2.out]
  clear hfz hcz hc1 mI HW2
  go_loopw [20] (fun i wr => ∃ (k : Nat) (out : List Int), k ≤ l.length ∧ i = .int .i64 (k : Int) ∧ Hid (wr.ownsRow (w.heap.size + 1) 3 1 (.slice (some ⟨w.heap.size + 1, 0, none⟩) l.length l.length) l.length (I out)) ∧ Hid (Cnt ls t (l.take k) out) ∧ Hid (Below wa.heap.size wa wr)) (fun i _ => l.length - (intOf i).toNat)
  case atStart => exact ⟨0, _, Nat.zero_le _, rfl, HO0, HC, HB0⟩
  case round =>
    clear HO0 HC HB0
    obtain ⟨k, out, hk, rfl, HO, HC, HB⟩ := hrel
    by_cases hlt : k < l.length
    · obtain ⟨g, o, hgo, hg, hcell0⟩ := HAO.out k hlt
      subst hgo
      obtain ⟨un, hun⟩ : ∃ un : Nat, l[k] = un := ⟨l[k].toNat, by have := HGG.out.tasks l[k] (List.getElem_mem hlt); omega⟩
      have hul : un < ls.length := by have := HGG.out.tasks l[k] (List.getElem_mem hlt); omega
      have hul2 : (un : Int) < (ls.length : Int) := by omega
      have hcell : wr.cell? ⟨g, o + k, none⟩ = some (.int .i64 (un : Int)) := by rw [(bth HA.out HB.out (by omega)).cell (p := ⟨g, o + k, none⟩) hg, hcell0, hun]
      obtain ⟨d0, d1⟩ := (P0.out.below HB.out (by have := HSA.out; omega)).cells
      obtain ⟨g1, o1, a2, c2, hgn, hg1, hcell1, hrow⟩ := HAT.out un hul
      subst hgn
      have hcn : wr.cell? ⟨g1, o1 + un, none⟩ = some (.slice a2 ls[un].length c2) := ((bth HA.out HB.out (by omega)).cell (p := ⟨g1, o1 + un, none⟩) hg1).trans hcell1
      have HRW : Hid (∀ W, Below w.heap.size w W → RowV W (.slice a2 ls[un].length c2) (I ls[un])) := fun W h => hrow.below h
      have hnl : ls[un].length ≤ c2 ∧ c2 ≤ 2 ^ 63 - 1 := by
        obtain ⟨_, _, h, h', h4, _⟩ := hrow.ints
        unfold maxLen at h4
        injection h with _ _ h3; omega
      obtain ⟨hnl, hc2⟩ := hnl
      have hpk : pos l (un : Int) = k := by rw [← hun]; exact pos_nodup HGG.out.nodup hlt
      have hnd : (un : Int) ∉ l.take k := fun h => by have := (mem_take_pos.1 h).2; omega
      have HI := Lib.hid (HC.out.open hul hnd)
      have HIND : Hid (∀ x ∈ ls[un], x ∈ l.take k) := fun x hx => by
        have he := HGG.out.each un hul
        have hxr := HIN.out un hul x hx
        have hp := he.2.2 x hx
        have hxm : x ∈ l := all_there HGG.out.same HGG.out.nodup (fun y hy => by have := HGG.out.tasks y hy; omega) hxr
        rw [place_mem hxm, place_mem he.2.1] at hp
        exact mem_take_pos.2 ⟨hxm, by omega⟩
      have HTK : Hid (l.take (k + 1) = l.take k ++ [(un : Int)]) := by
        show l.take (k + 1) = _
        rw [List.take_succ_eq_append_getElem hlt, hun]
      clear hcell0 hcell1 hrow hun hpk hnd HC
      generalize l.take k = dn at *
      go_wp2_with fail
      clear hcell hcn d0 d1
      go_loopw [30] (fun i wz => ∃ (m : Nat) (out2 : List Int), m ≤ ls[un].length ∧ i = .int .i64 (m : Int) ∧ Hid (wz.ownsRow (w.heap.size + 1) 3 1 (.slice (some ⟨w.heap.size + 1, 0, none⟩) l.length l.length) l.length (I out2)) ∧ Hid (CntI ls t dn un (ls[un].take m) out2) ∧ Hid (Below wa.heap.size wa wz)) (fun i _ => ls[un].length - (intOf i).toNat)
      case atStart => exact ⟨0, out, Nat.zero_le _, rfl, HO, HI, HB⟩
      case round =>
        clear HO HI HB
        obtain ⟨m, out2, hm, rfl, HO, HI, HB⟩ := hrel
        by_cases hlt2 : m < ls[un].length
        · have hxm := HIN.out un hul ls[un][m] (List.getElem_mem hlt2)
          obtain ⟨kn, hkn⟩ : ∃ kn : Nat, ls[un][m] = kn := ⟨ls[un][m].toNat, by omega⟩
          have hkl : kn < ls.length := by omega
          have hkd : (kn : Int) ∈ dn := by rw [← hkn]; exact HIND.out _ (List.getElem_mem hlt2)
          obtain ⟨gr, or, hra, hcr⟩ : ∃ gr or, a2 = some ⟨gr, or, none⟩ ∧ wr.cell? ⟨gr, or + m, none⟩ = some (.int .i64 (kn : Int)) := by
            obtain ⟨aa, cc, h, _, _, hc⟩ := (HRW.out wr (bth HA.out HB.out (by omega))).ints
            injection h with h1 _ _
            obtain ⟨gr, or, h2, _, h3⟩ := hc m hlt2
            exact ⟨gr, or, by rw [h1, h2], by rw [h3, hkn]⟩
          subst hra
          have hlo := HI.out.len
          have hsl := HSL.out
          have hck : wr.cell? ⟨w.heap.size + 1, kn, none⟩ = some (.int .i64 (at0 out2 (kn : Int))) := by rw [HO.out.cellAt kn (by omega), I_at (by omega), at0_get (by omega)]
          have hcu : wr.cell? ⟨w.heap.size + 1, un, none⟩ = some (.int .i64 (at0 out2 (un : Int))) := by rw [HO.out.cellAt un (by omega), I_at (by omega), at0_get (by omega)]
          have hf2 := HO.out.frozenAt un
          have hkl3 : kn < l.length := by omega
          have hul3 : un < l.length := by omega
          have hkl2 : (kn : Int) < (l.length : Int) := by omega
          have hul4 : (un : Int) < (l.length : Int) := by omega
          have hkf := HI.out.yes kn hkl hkd
          have hka := HSM.out kn hkl
          have hkb := farI_low ls t kn
          have hkr : 0 ≤ at0 out2 (kn : Int) ∧ at0 out2 (kn : Int) ≤ 11 := by omega
          have hwrap : IntKind.i64.wrap (at0 out2 (kn : Int) + 1) = at0 out2 (kn : Int) + 1 := by rw [IntKind.wrap_i64]; omega
          have HT2 : Hid (ls[un].take (m + 1) = ls[un].take m ++ [(kn : Int)]) := by
            show ls[un].take (m + 1) = _
            rw [List.take_succ_eq_append_getElem hlt2, hkn]
          have hst := HO.out.stored un (.int .i64 (at0 out2 (kn : Int) + 1))
          rw [I_set] at hst
          have HOS := Lib.hid hst.1
          have HBS := Lib.hid (HB.out.trans (only_below hst.2 (by have := HSA.out; omega) HB.out.size))
          have HSK := Lib.hid (fun h => (HI.out.skip hkl hkd (u := un) h))
          have HPU := Lib.hid (fun h => (HI.out.put hul hkl hkd (u := un) h))
          have hu0 := HI.out.here.low
          rw [← HT2.out] at HSK HPU
          clear hst hkf hka hkb hlo hsl hkn hxm HI HT2
          have HOD : Hid (∀ n, (wr.drewN n).ownsRow (w.heap.size + 1) 3 1 (.slice (some ⟨w.heap.size + 1, 0, none⟩) l.length l.length) l.length (I out2)) := fun _ => HO.out
          have HBD : Hid (∀ n, Below wa.heap.size wa (wr.drewN n)) := fun n => below_drewN HB.out n
          by_cases hk0 : 0 < at0 out2 (kn : Int)
          · by_cases hu1 : at0 out2 (un : Int) = 0
            · have HI2 := Lib.hid (HPU.out ⟨hk0, .inl hu1⟩)
              clear HSK HPU
              generalize at0 out2 (kn : Int) = ck at *
              rw [hu1] at hcu hu0
              have HOE : Hid (∀ n, ((wr.drewN n).setCell ⟨w.heap.size + 1, un, none⟩ (.int .i64 (ck + 1))).ownsRow (w.heap.size + 1) 3 1 (.slice (some ⟨w.heap.size + 1, 0, none⟩) l.length l.length) l.length (I (out2.set un (ck + 1)))) := fun _ => HOS.out
              have HBE : Hid (∀ n, Below wa.heap.size wa ((wr.drewN n).setCell ⟨w.heap.size + 1, un, none⟩ (.int .i64 (ck + 1)))) := fun n => below_drewN HBS.out n
              go_wp2_with fail
              go_quiet (fail)
              go_wp2_with fail
              go_roundw
              case rel => exact ⟨m + 1, _, by omega, by go_num, HOE.out _, HI2, HBE.out _⟩
              case measure => simp [intOf]; omega
            · have hu2 : (at0 out2 (un : Int) == 0) = false := by simp [hu1]
              by_cases hlt3 : at0 out2 (kn : Int) + 1 < at0 out2 (un : Int)
              · have HI2 := Lib.hid (HPU.out ⟨hk0, .inr hlt3⟩)
                clear HSK HPU hu1
                generalize at0 out2 (kn : Int) = ck at *
                generalize at0 out2 (un : Int) = cu at *
                have HOE : Hid (∀ n, ((wr.drewN n).setCell ⟨w.heap.size + 1, un, none⟩ (.int .i64 (ck + 1))).ownsRow (w.heap.size + 1) 3 1 (.slice (some ⟨w.heap.size + 1, 0, none⟩) l.length l.length) l.length (I (out2.set un (ck + 1)))) := fun _ => HOS.out
                have HBE : Hid (∀ n, Below wa.heap.size wa ((wr.drewN n).setCell ⟨w.heap.size + 1, un, none⟩ (.int .i64 (ck + 1)))) := fun n => below_drewN HBS.out n
                go_wp2_with fail
                go_quiet (fail)
                go_wp2_with fail
                go_roundw
                case rel => exact ⟨m + 1, _, by omega, by go_num, HOE.out _, HI2, HBE.out _⟩
                case measure => simp [intOf]; omega
              · have HI2 := Lib.hid (HSK.out (fun h => by omega))
                clear HSK HPU hu1
                generalize at0 out2 (kn : Int) = ck at *
                generalize at0 out2 (un : Int) = cu at *
                go_wp2_with fail
                go_quiet (fail)
                go_wp2_with fail
                go_roundw
                case rel => exact ⟨m + 1, out2, by omega, by go_num, HOD.out _, HI2, HBD.out _⟩
                case measure => simp [intOf]; omega
          · have HI2 := Lib.hid (HSK.out (fun h => hk0 h.1))
            have hck0 : at0 out2 (kn : Int) = 0 := by omega
            clear HSK HPU
            rw [hck0] at hck
            go_wp2_with fail
            go_quiet (fail)
            go_wp2_with fail
            go_roundw
            case rel => exact ⟨m + 1, out2, by omega, by go_num, HOD.out _, HI2, HBD.out _⟩
            case measure => simp [intOf]; omega
        · rw [List.take_of_length_le (by omega)] at HI
          have HC2 := Lib.hid (HI.out.close hul)
          rw [← HTK.out] at HC2
          clear HI
          go_wp2_with fail
          go_roundw
          case rel => exact ⟨k + 1, out2, by omega, by go_num, HO, HC2, HB⟩
          case measure => simp [intOf]; omega
    · have HE := Lib.hid (HC.out.done (fun j hj => by rw [List.take_of_length_le (by omega)]; exact all_there HGG.out.same HGG.out.nodup (fun y hy => by have := HGG.out.tasks y hy; omega) ⟨by omega, by omega⟩))
      rw [HE.out] at HO
      have HLN : Hid ((countL ls t).length = l.length) := by show _ = _; rw [countL_len, HSL.out]
      clear HC HE
      go_wp2_with fail
      go_ret
      exact ⟨_, rfl, by rw [HLN.out]; exact own_base HO.out (by omega), bth HA.out HB.out (Nat.le_refl _)⟩
end Go.Proofs.Ytnkkbleebfijgaa

/- Walks: the way round, told by the program. -/
namespace Go.Proofs.Ytnkkbleebfijgaa
open Go.RowKit Pth

theorem taskG_of {ls : List (List Int)} {l : List Int} {k : Int} (h : goodG ls l = true) : taskG ls l k = (decide (0 ≤ k) && decide (k < (ls.length : Int))) := by unfold taskG; rw [h]; rfl

set_option maxRecDepth 20000 in
set_option maxHeartbeats 8000000 in
theorem implLoop_any (ls : List (List Int)) (l : List Int) (t x : Int) (v : Value) (w : World) (hst : GraphV w v ls l) :
    Calls Try.prog 55 #[v, .int .i64 t, .int .i64 x] w (ListOk (loopA ls l t x) (decide (0 < (loopA ls l t x).length)) w) := by
  have HV := Lib.hid hst
  obtain ⟨nv, ov, rfl, h1, h2⟩ := hst
  obtain ⟨an, cn, rfl, hn1, hn2, hat⟩ := h1.lists
  obtain ⟨ao, co, rfl, ho1, ho2, _⟩ := h2.ints
  clear h1 h2
  unfold maxLen at hn2 ho2
  have HAT := Lib.hid hat
  clear hat
  obtain ⟨wa, hwa⟩ : ∃ wa, wa = w.alloc (.cells #[.slice an ls.length cn, .slice ao l.length co] 27) := ⟨_, rfl⟩
  have P0 : Hid (Blk2 wa w.heap.size 27 (.slice an ls.length cn) (.slice ao l.length co)) := by rw [hwa]; exact Blk2.new
  have HA : Hid (Below w.heap.size w wa) := by rw [hwa]; exact (Below.refl w.heap.size w).alloc (Nat.le_refl _) _
  have hsz : w.heap.size < wa.heap.size := by rw [hwa]; simp
  have HWA := Lib.hid hwa
  obtain ⟨c0, c1⟩ := P0.out.cells
  have HG := Lib.hid (fun W (h : Below wa.heap.size wa W) => implGood_any ls l _ W (HV.out.below (bth HA.out h (Nat.le_refl _))))
  have HT := Lib.hid (fun W (h : Below wa.heap.size wa W) => isTask_any ls l t _ W (HV.out.below (bth HA.out h (Nat.le_refl _))))
  have HX := Lib.hid (fun W (h : Below wa.heap.size wa W) => isTask_any ls l x _ W (HV.out.below (bth HA.out h (Nat.le_refl _))))
  have HNo : Hid ((goodG ls l && (decide (0 ≤ t) && decide (t < (ls.length : Int))) && (decide (0 ≤ x) && decide (x < (ls.length : Int)))) = false → loopA ls l t x = []) := fun h => loopA_no (by
    rcases hg : goodG ls l with _ | _
    · rw [taskG_good hg]; rfl
    · rw [taskG_of hg, taskG_of hg]; rw [hg] at h; simpa using h)
  have HYes : Hid ((goodG ls l && (decide (0 ≤ t) && decide (t < (ls.length : Int))) && (decide (0 ≤ x) && decide (x < (ls.length : Int)))) = true → loopA ls l t x = loopL ls t x ∧ GoodG ls l ∧ (0 ≤ t ∧ t < (ls.length : Int)) ∧ (0 ≤ x ∧ x < (ls.length : Int))) := fun h => by
    rw [Bool.and_eq_true, Bool.and_eq_true] at h
    have h' : (taskG ls l t && taskG ls l x) = true := by rw [taskG_of h.1.1, taskG_of h.1.1, h.1.2, h.2]; rfl
    have h'' := h'
    rw [Bool.and_eq_true] at h''
    exact ⟨loopA_yes h', (taskG_yes h''.1).1, (taskG_yes h''.1).2, (taskG_yes h''.2).2⟩
  generalize goodG ls l = b0 at *
  generalize (decide (0 ≤ t) && decide (t < (ls.length : Int))) = b1 at *
  generalize (decide (0 ≤ x) && decide (x < (ls.length : Int))) = b2 at *
  generalize loopA ls l t x = R at *
  clear hwa
  go_enter Try.func55, Try.ntmps55
  go_wp2_with fail
  rw [← HWA.out]
  refine (HG.out wa (Below.refl _ _)).mono ?_
  rintro e w1 ⟨rfl, hb1⟩
  have K1 := Lib.hid hb1
  obtain ⟨d0, d1⟩ := (P0.out.below hb1 hsz).cells
  clear hb1 c0 c1
  cases b0 with
  | false =>
    have hR := HNo.out rfl
    subst hR
    clear HNo HYes HT HX
    go_wp2_with fail
    go_ret2
    exact ⟨_, rfl, none_ownZ _ _ _, bth HA.out K1.out (Nat.le_refl _)⟩
  | true =>
    go_wp2_with fail
    refine (HT.out w1 K1.out).mono ?_
    rintro e w2 ⟨rfl, hb2⟩
    have K2 := Lib.hid (bth K1.out hb2 (Nat.le_refl _))
    obtain ⟨e0, e1⟩ := (P0.out.below K2.out hsz).cells
    clear hb2 d0 d1
    cases b1 with
    | false =>
      have hR := HNo.out rfl
      subst hR
      clear HNo HYes HT HX
      go_wp2_with fail
      go_ret2
      exact ⟨_, rfl, none_ownZ _ _ _, bth HA.out K2.out (Nat.le_refl _)⟩
    | true =>
      go_wp2_with fail
      refine (HX.out w2 K2.out).mono ?_
      rintro e w3 ⟨rfl, hb3⟩
      have K3 := Lib.hid (bth K2.out hb3 (Nat.le_refl _))
      obtain ⟨f0, f1⟩ := (P0.out.below K3.out hsz).cells
      clear hb3 e0 e1
      cases b2 with
      | false =>
        have hR := HNo.out rfl
        subst hR
        clear HNo HYes HT HX
        go_wp2_with fail
        go_ret2
        exact ⟨_, rfl, none_ownZ _ _ _, bth HA.out K3.out (Nat.le_refl _)⟩
      | true =>
        obtain ⟨hR, hG, ht, hx⟩ := HYes.out rfl
        obtain ⟨tn, rfl⟩ : ∃ tn : Nat, t = tn := ⟨t.toNat, by omega⟩
        obtain ⟨xn, rfl⟩ : ∃ xn : Nat, x = xn := ⟨x.toNat, by omega⟩
        have htl : tn < ls.length := by omega
        have hxl : xn < ls.length := by omega
        have hxl2 : (xn : Int) < (ls.length : Int) := by omega
        have h10 := hG.high
        have HIN := Lib.hid (good_in hG)
        have HSM : Hid (∀ k : Nat, k < ls.length → farI ls tn k ≤ 10) := fun k hk => far_small hG ⟨by omega, by omega⟩
        have HC := Lib.hid (countsTo_any ls l tn _ w3 (HV.out.below (bth HA.out K3.out (Nat.le_refl _))) hG htl)
        have HR := Lib.hid hR
        have HK := Lib.hid (bth HA.out K3.out (Nat.le_refl _))
        clear HNo HYes HT HX HG hR hG ht hx K1 K2
        go_wp2_with fail
        refine HC.out.mono ?_
        rintro e w4 ⟨v4, rfl, ho4, hb4⟩
        have HB4 := Lib.hid (bth HK.out hb4 (Nat.le_refl _))
        have K4 := Lib.hid (bth K3.out hb4 (Nat.le_refl _))
        have hs4 : w.heap.size < w4.heap.size := by have := K4.out.size; omega
        obtain ⟨g0, g1⟩ := (P0.out.below K4.out hsz).cells
        have hfl := countL_len ls tn
        obtain ⟨gF, cF, hvF, hlF⟩ : ∃ gF cF, v4 = .slice (some ⟨gF, 0, none⟩) ls.length cF ∧ ls.length ≤ cF := by
          rcases ho4.2 with ⟨_, h0⟩ | ⟨gF, cap, cur, hv, _, _, hcap, _⟩
          · rw [hfl] at h0; omega
          · exact ⟨gF, cap, by rw [hv, hfl], by omega⟩
        subst hvF
        have HFC : Hid (∀ W, Below w4.heap.size w4 W → ∀ k : Nat, k < ls.length → W.cell? ⟨gF, k, none⟩ = some (.int .i64 (farI ls tn k + 1))) := by
          intro W hW k hk
          have h1 := own_below ho4 hW
          rw [hfl] at h1
          rw [h1.cellAt k (by omega), I_at (by rw [hfl]; exact hk), countL_get]
        have hcx := HFC.out w4 (Below.refl _ _) xn hxl
        have HLow := Lib.hid (farI_low ls tn xn)
        clear HC ho4 hb4 f0 f1 hfl
        by_cases hneg : farI ls tn xn < 0
        · have h0 : farI ls tn xn = -1 := by have := HLow.out; omega
          have hR : R = [] := by rw [HR.out]; unfold loopL; rw [if_pos hneg]
          subst hR
          rw [h0] at hcx
          clear HR
          go_wp2_with fail
          go_ret2
          exact ⟨_, rfl, none_ownZ _ _ _, HB4.out⟩
        · have HL : Hid (R = wayL ls tn (farI ls tn xn).toNat xn) := by show R = _; rw [HR.out]; unfold loopL; rw [if_neg hneg]
          have HFX : Hid (farI ls tn xn = ((farI ls tn xn).toNat : Int)) := by show _ = _; omega
          have HQ : Hid ((w4.alloc (.cells #[.int .i64 (xn : Int)] 3)).ownsRow w4.heap.size 3 1 (.slice (some ⟨w4.heap.size, 0, none⟩) 1 1) ([] ++ [(xn : Int)]).length (I ([] ++ [(xn : Int)]))) := own_of_heap (heap_alloc_new w4 _) (Nat.le_refl _) rfl rfl (by unfold maxLen; omega)
          have HBQ : Hid (Below w4.heap.size w4 (w4.alloc (.cells #[.int .i64 (xn : Int)] 3))) := (Below.refl _ w4).alloc (Nat.le_refl _) _
          have hxs := HSM.out xn hxl
          have hcx2 := HFC.out _ HBQ.out xn hxl
          generalize hfx : farI ls tn xn = fx at hcx hcx2 hneg HL HFX hxs
          have HXF := Lib.hid hfx
          have hw0 : ((fx + 1) == 0) = false := by simp; omega
          have hw1 : IntKind.i64.wrap (fx + 1 - 1) = fx := by rw [IntKind.wrap_i64]; omega
          clear hfx HR HLow
          go_wp2_with fail
          go_loopw [9, 10] (fun o a wr => ∃ (gk an2 : Nat) (pre : List Int), a = .int .i64 (gk : Int) ∧ an2 < ls.length ∧ Hid (farI ls tn (an2 : Int) = (gk : Int)) ∧ Hid (wr.ownsRow w4.heap.size 3 1 o (pre ++ [(an2 : Int)]).length (I (pre ++ [(an2 : Int)]))) ∧ Hid (wayL ls tn fx.toNat xn = pre ++ wayL ls tn gk (an2 : Int)) ∧ Hid (pre.length ≤ fx.toNat) ∧ Hid (Below w4.heap.size w4 wr)) (fun _ i _ => (intOf i).toNat)
          case atStart => exact ⟨fx.toNat, xn, [], by rw [← HFX.out], hxl, HXF.out.trans HFX.out, HQ, rfl, Nat.zero_le _, HBQ⟩
          case round =>
            clear HQ HBQ hcx hcx2 g0 g1 hw0 hw1
            obtain ⟨gk, an2, pre, rfl, hal, HGK, HO, HW, HP, HB⟩ := hrel
            cases gk with
            | zero =>
              obtain ⟨oa, oc, ho⟩ := own_slice HO.out
              subst ho
              have hR : R = pre ++ [(an2 : Int)] := by rw [HL.out, HW.out]; rfl
              have HT : Hid (decide (0 < R.length) = true) := by show _ = _; rw [hR]; simp
              have HO' : Hid (wr.ownsRow w4.heap.size 3 1 (.slice oa (pre ++ [(an2 : Int)]).length oc) R.length (I R)) := by rw [hR]; exact HO
              clear HW HL HGK hR
              go_wp2_with fail
              go_ret2
              have HS4 : w.heap.size ≤ w4.heap.size := Nat.le_of_lt hs4
              exact ⟨.slice oa (pre ++ [(an2 : Int)]).length oc, by rw [HT.out]; rfl, own_base HO'.out HS4, bth HB4.out HB.out (Nat.le_refl _)⟩
            | succ gm =>
              obtain ⟨np, hnp⟩ : ∃ np, pre.length = np := ⟨_, rfl⟩
              have hwl : (pre ++ [(an2 : Int)]).length = np + 1 := by rw [List.length_append, List.length_singleton, hnp]
              obtain ⟨gw, oc, ho, hoc, hom⟩ : ∃ gw oc, u9 = .slice (some ⟨gw, 0, none⟩) (np + 1) oc ∧ np + 1 ≤ oc ∧ oc ≤ maxLen := by
                rcases HO.out.2 with ⟨_, h0⟩ | ⟨gw, cap, cur, hv, _, _, hcap, hmx, _⟩
                · omega
                · exact ⟨gw, cap, by rw [hv, hwl], by omega, by omega⟩
              subst ho
              have hca : wr.cell? ⟨gw, np, none⟩ = some (.int .i64 (an2 : Int)) := by
                have h0 := HO.out
                rw [hwl] at h0
                rw [h0.cellAt np (by omega), I_at (by rw [hwl]; omega)]
                simp [← hnp]
              obtain ⟨g1, o1, a2, c2, hgn, hg1, hcell, hrow⟩ := HAT.out an2 hal
              subst hgn
              obtain ⟨d0, d1⟩ := (P0.out.below (bth K4.out HB.out (by have := K4.out.size; omega)) hsz).cells
              have hal2 : (an2 : Int) < (ls.length : Int) := by omega
              have hcn : wr.cell? ⟨g1, o1 + an2, none⟩ = some (.slice a2 ls[an2].length c2) := ((bth HB4.out HB.out (by omega)).cell (p := ⟨g1, o1 + an2, none⟩) hg1).trans hcell
              have HRW : Hid (∀ W, Below w.heap.size w W → RowV W (.slice a2 ls[an2].length c2) (I ls[an2])) := fun W h => hrow.below h
              have HNX := Lib.hid (next_far (ls := ls) (t := tn) (k := an2) (m := gm) (by have := HGK.out; push_cast at this; exact this))
              have HNA2 := Lib.hid (needsAt_get hal)
              have hnl : ls[an2].length ≤ c2 ∧ c2 ≤ 2 ^ 63 - 1 := by
                obtain ⟨_, _, h, h', h4, _⟩ := hrow.ints
                unfold maxLen at h4
                injection h with _ _ h3; omega
              obtain ⟨hnl, hc2⟩ := hnl
              have hgm : gm ≤ 10 := by have h1 := HSM.out an2 hal; have h2 := HGK.out; omega
              have hpl : (I (pre ++ [(an2 : Int)])).length ≤ 1000000 := by
                rw [I_len, hwl]
                have h1 := HP.out; have h4 := HFX.out; omega
              have hnp9 : np ≤ 1000000 := by rw [I_len, hwl] at hpl; omega
              have hwn : IntKind.i64.wrap (((np + 1 : Nat) : Int) - 1) = (np : Int) := by rw [IntKind.wrap_i64]; omega
              have HOD : Hid (∀ n, (wr.drewN n).ownsRow w4.heap.size 3 1 (.slice (some ⟨gw, 0, none⟩) (np + 1) oc) (pre ++ [(an2 : Int)]).length (I (pre ++ [(an2 : Int)]))) := fun _ => HO.out
              have HBD : Hid (∀ n, Below w4.heap.size w4 (wr.drewN n)) := fun n => below_drewN HB.out n
              have HNP := Lib.hid hnp
              have HWL := Lib.hid hwl
              clear hcell hrow HO HB hnp hwl
              go_wp2_with fail
              go_quiet (fail)
              go_wp2_with fail
              clear hca d0 d1 hcn
              go_loopw [9, 58] (fun a9 i wz => ∃ j : Nat, a9 = .slice (some ⟨gw, 0, none⟩) (np + 1) oc ∧ j ≤ ls[an2].length ∧ i = .int .i64 (j : Int) ∧ Hid (∀ i (hi : i < j) (hi2 : i < ls[an2].length), farI ls tn ls[an2][i] ≠ gm) ∧ Hid (wz.ownsRow w4.heap.size 3 1 (.slice (some ⟨gw, 0, none⟩) (np + 1) oc) (pre ++ [(an2 : Int)]).length (I (pre ++ [(an2 : Int)]))) ∧ Hid (Below w4.heap.size w4 wz)) (fun _ i _ => ls[an2].length - (intOf i).toNat)
              case atStart => exact ⟨0, rfl, Nat.zero_le _, rfl, fun i hi => by omega, HOD.out _, HBD.out _⟩
              case round =>
                clear HOD HBD
                obtain ⟨j, rfl, hj, rfl, HJ, HO, HB⟩ := hrel
                by_cases hlt : j < ls[an2].length
                · have hxm := HIN.out an2 hal ls[an2][j] (List.getElem_mem hlt)
                  obtain ⟨kn, hkn⟩ : ∃ kn : Nat, ls[an2][j] = kn := ⟨ls[an2][j].toNat, by omega⟩
                  have hkl : kn < ls.length := by omega
                  have hkl2 : (kn : Int) < (ls.length : Int) := by omega
                  obtain ⟨gr, or, hra, hcr⟩ : ∃ gr or, a2 = some ⟨gr, or, none⟩ ∧ wr.cell? ⟨gr, or + j, none⟩ = some (.int .i64 (kn : Int)) := by
                    obtain ⟨aa, cc, h, _, _, hc⟩ := (HRW.out wr (bth HB4.out HB.out (by omega))).ints
                    injection h with h1 _ _
                    obtain ⟨gr, or, h2, _, h3⟩ := hc j hlt
                    exact ⟨gr, or, by rw [h1, h2], by rw [h3, hkn]⟩
                  subst hra
                  have hcf := HFC.out wr HB.out kn hkl
                  by_cases hm : farI ls tn (kn : Int) = gm
                  · rw [hm] at hcf
                    have HN : Hid (nextI ls tn (an2 : Int) = (kn : Int)) := by
                      have h := next_at (ls := ls) (t := tn) (k := an2) (j := j) (by rw [HNA2.out]; exact hlt) (fun i hi => by simp only [HNA2.out]; rw [HGK.out]; have := HJ.out i hi (by omega); omega) (by simp only [HNA2.out]; rw [hkn, HGK.out]; omega)
                      simp only [HNA2.out] at h
                      rw [hkn] at h
                      exact h
                    have HG2 : Hid (farI ls tn (kn : Int) = (gm : Int)) := hm
                    have HW2 : Hid (wayL ls tn fx.toNat xn = (pre ++ [(an2 : Int)]) ++ wayL ls tn gm (kn : Int)) := by show _ = _; rw [HW.out, wayL, HN.out]; simp
                    have HP2 : Hid ((pre ++ [(an2 : Int)]).length ≤ fx.toNat) := by
                      have h := congrArg List.length HW2.out
                      rw [List.length_append, wayL_len, wayL_len] at h
                      show _ ≤ _; omega
                    have HNA := Lib.hid (own_Z HO.out)
                    have hee : ((gm : Int) + 1 == ((gm + 1 : Nat) : Int)) = true := by simp
                    have hwg : IntKind.i64.wrap (((gm + 1 : Nat) : Int) - 1) = (gm : Int) := by rw [IntKind.wrap_i64]; omega
                    clear hkn hxm HJ HNX HNA2 HO HN hm HW HP
                    generalize pre ++ [(an2 : Int)] = pr at *
                    go_wp2_with (at_builtin; refine wpAppOne elemI rfl _ _ rfl w4.heap.size _ (I pr) rfl HNA.out _ rfl rfl rfl hpl HB.out.size ?_; intro v7 w7 hown7 hg7; have HN7 := Lib.hid (own_Z2 hown7); have HB7 := Lib.hid (HB.out.trans (below_own HNA.out hg7 HB.out.size)); clear hown7 hg7)
                    go_roundw
                    case rel => exact ⟨gm, kn, pr, rfl, hkl, HG2, HN7, HW2, HP2, HB7⟩
                    case measure => simp [intOf]
                  · have HJ2 : Hid (∀ i (hi : i < j + 1) (hi2 : i < ls[an2].length), farI ls tn ls[an2][i] ≠ gm) := fun i hi hi2 => by
                      by_cases h : i < j
                      · exact HJ.out i h hi2
                      · obtain rfl : i = j := by omega
                        rw [hkn]; exact hm
                    have hme : (farI ls tn (kn : Int) + 1 == ((gm + 1 : Nat) : Int)) = false := by simp; omega
                    clear hkn hxm HJ HNX HNA2 hm HW HP
                    generalize farI ls tn (kn : Int) + 1 = fk at hme hcf
                    go_wp2_with fail
                    go_roundw
                    case rel => exact ⟨j + 1, rfl, by omega, by go_num, HJ2, HO, HB⟩
                    case measure => simp [intOf]; omega
                · exfalso
                  obtain ⟨h1, h2⟩ := HNX.out
                  rw [HNA2.out] at h2
                  obtain ⟨i, hi, he⟩ := List.getElem_of_mem h2
                  exact HJ.out i (by omega) hi (by rw [he]; exact h1)
end Go.Proofs.Ytnkkbleebfijgaa

/- The way round is short. -/
namespace Go.Proofs.Ytnkkbleebfijgaa
open Go.RowKit Pth

theorem loopA_short (ls : List (List Int)) (l : List Int) (t x : Int) : (loopA ls l t x).length ≤ 1000000 := by
  rcases h : taskG ls l t && taskG ls l x with _ | _
  · rw [loopA_no h]; simp
  · rw [loopA_yes h]
    rw [Bool.and_eq_true] at h
    have h1 := taskG_yes h.1
    have h2 := taskG_yes h.2
    unfold loopL
    by_cases hn : farI ls t x < 0
    · rw [if_pos hn]; simp
    · rw [if_neg hn, wayL_len]
      have := far_small (t := t) h1.1 h2.2
      omega
end Go.Proofs.Ytnkkbleebfijgaa

/- Walks: the marked ones of a stretch. -/
namespace Go.Proofs.Ytnkkbleebfijgaa
open Go.RowKit Pth

def markB (bs : List Bool) (k : Int) : Bool := bs.getD k.toNat false
theorem markB_get {bs : List Bool} {k : Nat} (hk : k < bs.length) : markB bs (k : Int) = bs[k] := by
  unfold markB
  rw [show ((k : Int)).toNat = k by omega, List.getD_eq_getElem?_getD, List.getElem?_eq_getElem hk]; rfl

set_option maxRecDepth 20000 in
set_option maxHeartbeats 4000000 in
theorem markedOf_any (st : List Int) (bs : List Bool) (v u : Value) (w : World) (hrow : RowV w v (I st)) (hpl : RowV w u (Bo bs)) (hin : ∀ x ∈ st, 0 ≤ x ∧ x < (bs.length : Int)) (h10 : st.length ≤ 1000) :
    Calls Try.prog 95 #[v, u] w (IntsPost w.heap.size (st.filter (markB bs)) w) := by
  obtain ⟨a, cap, rfl, hc1, hc2, hat⟩ := hrow.ints
  obtain ⟨a2, cap2, rfl, hd1, hd2, hat2⟩ := hpl.bools
  have HAT := Lib.hid hat
  have HAT2 := Lib.hid hat2
  have HIN := Lib.hid hin
  clear hrow hpl hat hat2 hin
  unfold maxLen at hc2 hd2
  go_enter Try.func95, Try.ntmps95
  go_wp2_with fail
  go_loopw [5, 10] (fun q i wr => ∃ k : Nat, k ≤ st.length ∧ i = .int .i64 k ∧ Hid (Below w.heap.size w wr) ∧ Hid (wr.ownsRow w.heap.size 3 1 q ((st.take k).filter (markB bs)).length (I ((st.take k).filter (markB bs))))) (fun _ i _ => st.length - (intOf i).toNat)
  case atStart => exact ⟨0, Nat.zero_le _, rfl, Below.refl _ _, none_ownZ _ _ _⟩
  case round =>
    obtain ⟨k, hk, rfl, HB, HN⟩ := hrel
    by_cases hlt : k < st.length
    · obtain ⟨g, o, rfl, hg, hc⟩ := HAT.out k hlt
      have hx := HIN.out st[k] (List.getElem_mem hlt)
      obtain ⟨n, hn⟩ : ∃ n : Nat, st[k] = n := ⟨st[k].toNat, by omega⟩
      have hnl : n < bs.length := by omega
      have hnl2 : (n : Int) < (bs.length : Int) := by omega
      obtain ⟨g2, o2, rfl, hg2, hc2'⟩ := HAT2.out n hnl
      have e1 : wr.cell? ⟨g, o + k, none⟩ = some (.int .i64 (n : Int)) := by rw [HB.out.cell (p := ⟨g, o + k, none⟩) hg, hc, hn]
      have e2 : wr.cell? ⟨g2, o2 + n, none⟩ = some (.bool bs[n]) := by rw [HB.out.cell (p := ⟨g2, o2 + n, none⟩) hg2]; exact hc2'
      have HE : Hid ((st.take (k + 1)).filter (markB bs) = (st.take k).filter (markB bs) ++ if bs[n] then [(n : Int)] else []) := by
        show _ = _
        rw [List.take_succ_eq_append_getElem hlt, List.filter_append, hn, List.filter_cons, markB_get hnl]
        rfl
      have hfl : ((st.take k).filter (markB bs)).length ≤ k := by have := List.length_filter_le (markB bs) (st.take k); rw [List.length_take] at this; omega
      clear hc hc2' hx hn
      rcases hb : bs[n] with _ | _
      · rw [hb] at e2 HE
        have HE2 := Lib.hid (HE.out.trans (List.append_nil _))
        clear hb HE hfl
        obtain ⟨qa, qc, hq⟩ := own_slice HN.out
        subst hq
        go_wp2_with fail
        go_roundw
        case rel => exact ⟨k + 1, by omega, by go_num, HB, by rw [HE2.out]; exact HN.out⟩
        case measure => simp [intOf]; omega
      · rw [hb] at e2 HE
        have HE2 : Hid ((st.take (k + 1)).filter (markB bs) = (st.take k).filter (markB bs) ++ [(n : Int)]) := HE.out
        have HNA := Lib.hid (own_Z HN.out)
        have hIl : (I ((st.take k).filter (markB bs))).length ≤ 1000000 := by rw [I_len]; omega
        clear hb HE HN hfl
        generalize (st.take k).filter (markB bs) = m at *
        go_wp2_with (at_builtin; refine wpAppOne elemI rfl _ _ rfl w.heap.size _ (I m) rfl HNA.out _ rfl rfl rfl hIl HB.out.size ?_; intro v7 w7 hown7 hg7; have HN7 := Lib.hid (own_Z2 hown7); have HB7 := Lib.hid (HB.out.trans (below_own HNA.out hg7 HB.out.size)); clear hown7 hg7)
        go_roundw
        case rel => exact ⟨k + 1, by omega, by go_num, HB7, by rw [HE2.out]; exact HN7.out⟩
        case measure => simp [intOf]; omega
    · rw [List.take_of_length_le (by omega)] at HN
      obtain ⟨qa, qc, hq⟩ := own_slice HN.out
      subst hq
      go_wp2_with fail
      go_ret
      exact ⟨_, rfl, HN.out, HB.out⟩
end Go.Proofs.Ytnkkbleebfijgaa

/- Walks: the users in a stretch, marked. -/
namespace Go.Proofs.Ytnkkbleebfijgaa
open Go.RowKit Pth

/-- One user's needs seen. -/
def markOne (u : Nat) (bs : List Bool) (nd : List Int) : List Bool := nd.foldl (fun b x => b.set u (markB b u || markB b x)) bs
def markUs (ls : List (List Int)) (bs : List Bool) (st : List Int) : List Bool := st.foldl (fun b u => markOne u.toNat b (needsAt ls u)) bs
theorem markOne_len (u : Nat) (nd : List Int) : ∀ bs, (markOne u bs nd).length = bs.length := by
  unfold markOne
  induction nd with
  | nil => intro bs; rfl
  | cons x r ih => intro bs; rw [List.foldl_cons, ih, List.length_set]
theorem markOne_snoc (u : Nat) (bs : List Bool) (nd : List Int) (x : Int) : markOne u bs (nd ++ [x]) = (markOne u bs nd).set u (markB (markOne u bs nd) u || markB (markOne u bs nd) x) := by
  unfold markOne; rw [List.foldl_append]; rfl
theorem markUs_len (ls : List (List Int)) (st : List Int) : ∀ bs, (markUs ls bs st).length = bs.length := by
  unfold markUs
  induction st with
  | nil => intro bs; rfl
  | cons x r ih => intro bs; rw [List.foldl_cons, ih, markOne_len]
theorem markUs_snoc (ls : List (List Int)) (bs : List Bool) (st : List Int) (x : Int) : markUs ls bs (st ++ [x]) = markOne x.toNat (markUs ls bs st) (needsAt ls x) := by
  unfold markUs; rw [List.foldl_append]; rfl

set_option maxRecDepth 20000 in
set_option maxHeartbeats 8000000 in
theorem markUsers_any (ls : List (List Int)) (l st : List Int) (t : Nat) (bs : List Bool) (v s : Value) (gm cm : Nat) (w0 w : World) (hst : GraphV w0 v ls l) (hsr : RowV w0 s (I st)) (hb0 : Below w0.heap.size w0 w)
    (hown : w.ownsRow w0.heap.size 4 1 (.slice (some ⟨gm, 0, none⟩) bs.length cm) bs.length (Bo bs)) (hbl : bs.length = ls.length) (h10 : ls.length ≤ 10) (ht : t < ls.length) (hin : ∀ x ∈ st, 0 ≤ x ∧ x < (ls.length : Int)) (hnd : ∀ k (hk : k < ls.length), ∀ x ∈ ls[k], 0 ≤ x ∧ x < (ls.length : Int)) :
    Calls Try.prog 96 #[v, s, .int .i64 (t : Int), .slice (some ⟨gm, 0, none⟩) bs.length cm] w fun e w' => e = .returned (.tuple #[]) ∧ Below w0.heap.size w0 w' ∧ w'.ownsRow w0.heap.size 4 1 (.slice (some ⟨gm, 0, none⟩) bs.length cm) bs.length (Bo (markUs ls (bs.set t true) st)) := by
  have HV := Lib.hid hst
  have HS := Lib.hid hsr
  obtain ⟨B, hBB⟩ : ∃ B, B = w0.heap.size := ⟨_, rfl⟩
  rw [← hBB] at hb0 hown
  rw [← hBB]
  have hB : B ≤ w.heap.size := by have := hb0.size; omega
  have HB00 := Lib.hid hb0
  have HBB := Lib.hid hBB
  obtain ⟨nv, ov, rfl, h1, h2⟩ := hst
  obtain ⟨an, cn, rfl, hn1, hn2, hat⟩ := h1.lists
  obtain ⟨ao, co, rfl, ho1, ho2, _⟩ := h2.ints
  obtain ⟨sa, sc, rfl, hs1, hs2, hsat⟩ := hsr.ints
  clear h1 h2 hsr
  unfold maxLen at hn2 ho2 hs2
  have HAT := Lib.hid hat
  have HSA := Lib.hid hsat
  have HIN := Lib.hid hin
  have HND := Lib.hid hnd
  clear hat hsat hin hnd hb0 hBB
  obtain ⟨wa, hwa⟩ : ∃ wa, wa = w.alloc (.cells #[.slice an ls.length cn, .slice ao l.length co] 27) := ⟨_, rfl⟩
  have P0 : Hid (Blk2 wa w.heap.size 27 (.slice an ls.length cn) (.slice ao l.length co)) := by rw [hwa]; exact Blk2.new
  have HA : Hid (Below B w0 wa) := by rw [hwa]; exact HB00.out.alloc hB _
  have hgl := hown.lt gm rfl
  have hBa : B ≤ wa.heap.size := by rw [hwa]; simp; omega
  have hcm : bs.length ≤ cm ∧ cm ≤ 2 ^ 63 - 1 := by
    rcases hown.2 with ⟨h, _⟩ | ⟨g, cap, cur, hv, _, _, hcap, hmx, _⟩
    · injection h with h _ _; cases h
    · unfold maxLen at hmx; injection hv with _ _ h3; omega
  obtain ⟨hcm1, hcm2⟩ := hcm
  have ho1' := hown.alloc (.cells #[.slice an ls.length cn, .slice ao l.length co] 27)
  have htb : t < bs.length := by omega
  have htb2 : (t : Int) < (bs.length : Int) := by omega
  have hfz := ho1'.frozenAt t
  have hcz : (w.alloc (.cells #[.slice an ls.length cn, .slice ao l.length co] 27)).cell? ⟨gm, t, none⟩ = some (.bool bs[t]) := by rw [ho1'.cellAt t (by omega), Bo_get? htb]
  have hst := ho1'.stored t (.bool true)
  rw [Bo_set] at hst
  obtain ⟨w2, hw2⟩ : ∃ w2, w2 = (w.alloc (.cells #[.slice an ls.length cn, .slice ao l.length co] 27)).setCell ⟨gm, t, none⟩ (.bool true) := ⟨_, rfl⟩
  rw [← hw2, ← hwa] at hst
  have HO0 := Lib.hid hst.1
  have HB0 := Lib.hid (HA.out.trans (only_below hst.2 hgl.1 hBa))
  have HP0 := Lib.hid (P0.out.beside hst.2 (by intro e; have := Option.some.inj e; omega))
  have HW2 := Lib.hid hw2
  have HBL := Lib.hid hbl
  have hg1 : B ≤ gm := hgl.1
  have hg2 : gm < w.heap.size := hgl.2
  have HG2 := Lib.hid hg2
  clear hown ho1' hst hw2 hwa hbl hgl hg2
  go_enter Try.func96, Try.ntmps96
  go_wp2_with fail
  rw [← HW2.out]
  clear hfz hcz HW2
  have HLN := Lib.hid (fun k => markUs_len ls (st.take k) (bs.set t true))
  go_loopw [17] (fun i wr => ∃ k : Nat, k ≤ st.length ∧ i = .int .i64 (k : Int) ∧ Hid (Below B w0 wr) ∧ Hid (Blk2 wr w.heap.size 27 (.slice an ls.length cn) (.slice ao l.length co)) ∧ Hid (wr.ownsRow B 4 1 (.slice (some ⟨gm, 0, none⟩) bs.length cm) bs.length (Bo (markUs ls (bs.set t true) (st.take k))))) (fun i _ => st.length - (intOf i).toNat)
  case atStart => exact ⟨0, Nat.zero_le _, rfl, HB0, HP0, HO0⟩
  case round =>
    clear HB0 HP0 HO0
    obtain ⟨k, hk, rfl, HB, HP, HO⟩ := hrel
    by_cases hlt : k < st.length
    · obtain ⟨un, hun⟩ : ∃ un : Nat, st[k] = un := ⟨st[k].toNat, by have := HIN.out st[k] (List.getElem_mem hlt); omega⟩
      have hul : un < ls.length := by have := HIN.out st[k] (List.getElem_mem hlt); omega
      have hul2 : (un : Int) < (ls.length : Int) := by omega
      obtain ⟨g, o, hgo, hgg, hcell0⟩ := HSA.out k hlt
      subst hgo
      have hcell : wr.cell? ⟨g, o + k, none⟩ = some (.int .i64 (un : Int)) := by rw [HB.out.cell (p := ⟨g, o + k, none⟩) (by rw [HBB.out]; exact hgg), hcell0, hun]
      obtain ⟨d0, d1⟩ := HP.out.cells
      obtain ⟨g1, o1, a2, c2, hgn, hg1', hcell1, hrow⟩ := HAT.out un hul
      have hcn : wr.cell? ⟨g1, o1 + un, none⟩ = some (.slice a2 ls[un].length c2) := by rw [HB.out.cell (p := ⟨g1, o1 + un, none⟩) (by rw [HBB.out]; exact hg1'), hcell1]
      have hnl : ls[un].length ≤ c2 ∧ c2 ≤ 2 ^ 63 - 1 := by
        obtain ⟨_, _, h, h', h4, _⟩ := hrow.ints
        unfold maxLen at h4
        injection h with _ _ h3; omega
      obtain ⟨hnl, hc2⟩ := hnl
      subst hgn
      have HBK : Hid (markUs ls (bs.set t true) (st.take (k + 1)) = markOne un (markUs ls (bs.set t true) (st.take k)) ls[un]) := by
        show _ = _
        rw [List.take_succ_eq_append_getElem hlt, markUs_snoc, hun, needsAt_get hul]
        rfl
      have hbk : (markUs ls (bs.set t true) (st.take k)).length = bs.length := by rw [markUs_len, List.length_set]
      have HRW : Hid (∀ W, Below B w0 W → ∀ m (hm : m < ls[un].length), ∃ gr or, a2 = some ⟨gr, or, none⟩ ∧ W.cell? ⟨gr, or + m, none⟩ = some (.int .i64 ls[un][m])) := by
        intro W hW m hm
        obtain ⟨_, _, h, _, _, hc⟩ := hrow.ints
        injection h with h1 _ _
        obtain ⟨gr, or, h2, h3, h4⟩ := hc m hm
        exact ⟨gr, or, by rw [h1, h2], by rw [hW.cell (p := ⟨gr, or + m, none⟩) (by rw [HBB.out]; exact h3), h4]⟩
      generalize markUs ls (bs.set t true) (st.take k) = bk at *
      have HBKL := Lib.hid hbk
      clear hcell0 hcell1 hrow hun hbk
      go_wp2_with fail
      clear hcell hcn d0 d1
      go_loopw [27] (fun i wz => ∃ m : Nat, m ≤ ls[un].length ∧ i = .int .i64 (m : Int) ∧ Hid (Below B w0 wz) ∧ Hid (Blk2 wz w.heap.size 27 (.slice (some ⟨g1, o1, none⟩) ls.length cn) (.slice ao l.length co)) ∧ Hid (wz.ownsRow B 4 1 (.slice (some ⟨gm, 0, none⟩) bs.length cm) bs.length (Bo (markOne un bk (ls[un].take m))))) (fun i _ => ls[un].length - (intOf i).toNat)
      case atStart => exact ⟨0, Nat.zero_le _, rfl, HB, HP, HO⟩
      case round =>
        clear HB HP HO
        obtain ⟨m, hm, rfl, HB, HP, HO⟩ := hrel
        by_cases hlt2 : m < ls[un].length
        · have hxm := HND.out un hul ls[un][m] (List.getElem_mem hlt2)
          obtain ⟨kn, hkn⟩ : ∃ kn : Nat, ls[un][m] = kn := ⟨ls[un][m].toNat, by omega⟩
          have hkl : kn < bs.length := by have := HBL.out; omega
          have hul3 : un < bs.length := by have := HBL.out; omega
          have hkl2 : (kn : Int) < (bs.length : Int) := by omega
          have hul4 : (un : Int) < (bs.length : Int) := by omega
          obtain ⟨gr, or, hra, hcr⟩ := HRW.out wr HB.out m hlt2
          subst hra
          rw [hkn] at hcr
          have hln : (markOne un bk (ls[un].take m)).length = bs.length := by rw [markOne_len, HBKL.out]
          have HE : Hid (markOne un bk (ls[un].take (m + 1)) = (markOne un bk (ls[un].take m)).set un (markB (markOne un bk (ls[un].take m)) un || markB (markOne un bk (ls[un].take m)) kn)) := by
            show _ = _
            rw [List.take_succ_eq_append_getElem hlt2, markOne_snoc, hkn]
          generalize markOne un bk (ls[un].take m) = bo at *
          have hcu : wr.cell? ⟨gm, un, none⟩ = some (.bool (markB bo un)) := by rw [HO.out.cellAt un (by omega), Bo_get? (by omega), markB_get (by omega)]
          have hck : wr.cell? ⟨gm, kn, none⟩ = some (.bool (markB bo kn)) := by rw [HO.out.cellAt kn (by omega), Bo_get? (by omega), markB_get (by omega)]
          have hf2 := HO.out.frozenAt un
          have hst := HO.out.stored un (.bool (markB bo un || markB bo kn))
          rw [Bo_set, ← HE.out] at hst
          have HO1 := Lib.hid hst.1
          have HB1 := Lib.hid (HB.out.trans (only_below hst.2 hg1 (by rw [HBB.out]; exact HB.out.size)))
          have HP1 := Lib.hid (HP.out.beside hst.2 (by intro e; have := Option.some.inj e; have := HG2.out; omega))
          clear hst HE hln hkn hxm HO HP HB
          generalize markB bo (un : Int) = bu at *
          generalize markB bo (kn : Int) = bn at *
          cases bu with
          | true =>
            go_wp2_with fail
            go_roundw
            case rel => exact ⟨m + 1, by omega, by go_num, HB1, HP1, HO1⟩
            case measure => simp [intOf]; omega
          | false =>
            rw [Bool.false_or] at HO1 HB1 HP1
            go_wp2_with fail
            go_roundw
            case rel => exact ⟨m + 1, by omega, by go_num, HB1, HP1, HO1⟩
            case measure => simp [intOf]; omega
        · rw [List.take_of_length_le (by omega), ← HBK.out] at HO
          go_wp2_with fail
          go_roundw
          case rel => exact ⟨k + 1, by omega, by go_num, HB, HP, HO⟩
          case measure => simp [intOf]; omega
    · rw [List.take_of_length_le (by omega)] at HO
      go_wp2_with fail
      go_end0
      exact ⟨rfl, HB.out, HO.out⟩
end Go.Proofs.Ytnkkbleebfijgaa

/- Plain mathematics of what a change touches: what leads to some tasks and what they lead to; no program. -/
namespace Go.Proofs.Ytnkkbleebfijgaa
namespace Pth

/-- What leads to one of some by needs. -/
inductive Up (ls : List (List Int)) (P : Int → Prop) : Int → Prop
  | base {k : Int} : P k → Up ls P k
  | step {k x : Int} : 0 ≤ k → x ∈ needsAt ls k → Up ls P x → Up ls P k
/-- What some lead to by needs. -/
inductive Dn (ls : List (List Int)) (P : Int → Prop) : Int → Prop
  | base {k : Int} : P k → Dn ls P k
  | step {k u : Int} : 0 ≤ u → k ∈ needsAt ls u → Dn ls P u → Dn ls P k

theorem needs_in {ls : List (List Int)} {k x : Int} (h0 : 0 ≤ k) (h : x ∈ needsAt ls k) : k < (ls.length : Int) := by
  unfold needsAt at h
  rcases Nat.lt_or_ge k.toNat ls.length with h1 | h1
  · omega
  · rw [List.getD_eq_getElem?_getD, List.getElem?_eq_none h1] at h
    simp at h
theorem Up.mono {ls : List (List Int)} {P Q : Int → Prop} (h : ∀ x, P x → Q x) {k : Int} (hk : Up ls P k) : Up ls Q k := by
  induction hk with
  | base hp => exact .base (h _ hp)
  | step h0 hx _ ih => exact .step h0 hx ih
theorem Up.twice {ls : List (List Int)} {P Q : Int → Prop} (h : ∀ x, P x → Up ls Q x) {k : Int} (hk : Up ls P k) : Up ls Q k := by
  induction hk with
  | base hp => exact h _ hp
  | step h0 hx _ ih => exact .step h0 hx ih
theorem Dn.twice {ls : List (List Int)} {P Q : Int → Prop} (h : ∀ x, P x → Dn ls Q x) {k : Int} (hk : Dn ls P k) : Dn ls Q k := by
  induction hk with
  | base hp => exact h _ hp
  | step h0 hx _ ih => exact .step h0 hx ih
theorem Dn.mono {ls : List (List Int)} {P Q : Int → Prop} (h : ∀ x, P x → Q x) {k : Int} (hk : Dn ls P k) : Dn ls Q k := hk.twice (fun x hx => .base (h x hx))
theorem Up.none {ls : List (List Int)} {k : Int} : ¬ Up ls (fun _ => False) k := by
  intro h
  induction h with
  | base h => exact h
  | step _ _ _ ih => exact ih
theorem Dn.none {ls : List (List Int)} {k : Int} : ¬ Dn ls (fun _ => False) k := by
  intro h
  induction h with
  | base h => exact h
  | step _ _ _ ih => exact ih

theorem GoodP.needs_take {ls : List (List Int)} {l : List Int} (h : GoodP ls l) {k : Nat} (hk : k < l.length) {x : Int} (hx : x ∈ needsAt ls l[k]) : x ∈ l.take k := by
  obtain ⟨t, ht, he, _, _, h2⟩ := h.each k hk
  rw [he, needsAt_get ht] at hx
  exact h2 x hx
theorem GoodP.all {ls : List (List Int)} {l : List Int} (h : GoodP ls l) {k : Int} : k ∈ l ↔ 0 ≤ k ∧ k < (ls.length : Int) :=
  ⟨h.range k, fun hk => all_there h.same h.nodup h.range hk⟩
theorem GoodP.self {ls : List (List Int)} {l : List Int} (h : GoodP ls l) {k : Nat} (hk : k < l.length) : l[k] ∉ needsAt ls l[k] := fun hx => nodup_at h.nodup hk (h.needs_take hk hx)
theorem Up.range {ls : List (List Int)} {P : Int → Prop} (hp : ∀ x, P x → 0 ≤ x ∧ x < (ls.length : Int)) {k : Int} (h : Up ls P k) : 0 ≤ k ∧ k < (ls.length : Int) := by
  cases h with
  | base h => exact hp _ h
  | step h0 hx _ => exact ⟨h0, needs_in h0 hx⟩
theorem Dn.range {ls : List (List Int)} {l : List Int} (hg : GoodP ls l) {P : Int → Prop} (hp : ∀ x, P x → 0 ≤ x ∧ x < (ls.length : Int)) {k : Int} (h : Dn ls P k) : 0 ≤ k ∧ k < (ls.length : Int) := by
  cases h with
  | base h => exact hp _ h
  | step h0 hx _ =>
    rename_i u hu
    have hul := hg.all.2 ⟨h0, needs_in h0 hx⟩
    obtain ⟨i, hi, rfl⟩ := List.getElem_of_mem hul
    exact hg.range _ (List.mem_of_mem_take (hg.needs_take hi hx))

/-- Along the order: one is marked where one that it needs is. -/
theorem up_along {ls : List (List Int)} {l : List Int} (hg : GoodP ls l) {P : Int → Prop} {S : Nat → Int → Prop} (h0 : ∀ y ∈ l, S 0 y ↔ P y)
    (hs : ∀ k (hk : k < l.length), ∀ y ∈ l, (S (k + 1) y ↔ S k y ∨ (y = l[k] ∧ ∃ x ∈ needsAt ls l[k], S k x))) :
    ∀ k, k ≤ l.length → ∀ y ∈ l, (S k y ↔ P y ∨ (y ∈ l.take k ∧ Up ls P y)) := by
  intro k
  induction k with
  | zero => intro _ y hy; rw [h0 y hy]; simp
  | succ k ih =>
    intro hk y hy
    have hk' : k < l.length := by omega
    rw [hs k hk' y hy, ih (by omega) y hy]
    have hu0 := (hg.range l[k] (List.getElem_mem hk')).1
    constructor
    · rintro ((h | ⟨h1, h2⟩) | ⟨rfl, x, hx, hxs⟩)
      · exact .inl h
      · exact .inr ⟨List.mem_of_mem_take (i := k) (by rw [List.take_take, Nat.min_eq_left (by omega)]; exact h1), h2⟩
      · have hxl := hg.needs_take hk' hx
        refine .inr ⟨by rw [List.take_succ_eq_append_getElem hk']; exact List.mem_append.2 (.inr (List.mem_singleton.2 rfl)), ?_⟩
        rcases (ih (by omega) x (List.mem_of_mem_take hxl)).1 hxs with h | ⟨_, h⟩
        · exact .step hu0 hx (.base h)
        · exact .step hu0 hx h
    · rintro (h | ⟨h1, h2⟩)
      · exact .inl (.inl h)
      · rw [List.take_succ_eq_append_getElem hk', List.mem_append, List.mem_singleton] at h1
        rcases h1 with h1 | rfl
        · exact .inl (.inr ⟨h1, h2⟩)
        · cases h2 with
          | base h => exact .inl (.inl h)
          | @step _ x _ hx hux =>
            have hxl := hg.needs_take hk' hx
            exact .inr ⟨rfl, x, hx, (ih (by omega) x (List.mem_of_mem_take hxl)).2 (.inr ⟨hxl, hux⟩)⟩
theorem up_whole {ls : List (List Int)} {l : List Int} (hg : GoodP ls l) {P : Int → Prop} {S : Nat → Int → Prop} (h0 : ∀ y ∈ l, S 0 y ↔ P y)
    (hs : ∀ k (hk : k < l.length), ∀ y ∈ l, (S (k + 1) y ↔ S k y ∨ (y = l[k] ∧ ∃ x ∈ needsAt ls l[k], S k x))) :
    ∀ y ∈ l, (S l.length y ↔ Up ls P y) := by
  intro y hy
  rw [up_along hg h0 hs l.length (Nat.le_refl _) y hy, List.take_length]
  constructor
  · rintro (h | ⟨_, h⟩)
    · exact .base h
    · exact h
  · exact fun h => .inr ⟨hy, h⟩

/-- Against the order: what one needs that is marked is marked. -/
theorem dn_along {ls : List (List Int)} {l : List Int} (hg : GoodP ls l) {P : Int → Prop} {S : Nat → Int → Prop} (h0 : ∀ y ∈ l, S 0 y ↔ P y)
    (hs : ∀ k (hk : k < l.length), ∀ y ∈ l, (S (l.length - k) y ↔ S (l.length - (k + 1)) y ∨ (S (l.length - (k + 1)) l[k] ∧ y ∈ needsAt ls l[k]))) :
    ∀ j, j ≤ l.length → ∀ y ∈ l, (S j y ↔ P y ∨ ∃ i, ∃ hi : i < l.length, l.length - j ≤ i ∧ Dn ls P l[i] ∧ y ∈ needsAt ls l[i]) := by
  intro j
  induction j with
  | zero =>
    intro _ y hy
    rw [h0 y hy]
    constructor
    · exact .inl
    · rintro (h | ⟨i, hi, h, _⟩)
      · exact h
      · omega
  | succ j ih =>
    intro hj y hy
    have hk : l.length - (j + 1) < l.length := by omega
    have hst := hs (l.length - (j + 1)) hk y hy
    rw [show l.length - (l.length - (j + 1)) = j + 1 by omega, show l.length - (l.length - (j + 1) + 1) = j by omega] at hst
    have hul := List.getElem_mem hk
    have hu0 := (hg.range _ hul).1
    have hU : S j l[l.length - (j + 1)] ↔ Dn ls P l[l.length - (j + 1)] := by
      rw [ih (by omega) _ hul]
      constructor
      · rintro (h | ⟨i, hi, _, h, hm⟩)
        · exact .base h
        · exact .step (hg.range _ (List.getElem_mem hi)).1 hm h
      · intro h
        cases h with
        | base h => exact .inl h
        | step hv0 hm hv =>
          rename_i v
          obtain ⟨i, hi, rfl⟩ := List.getElem_of_mem (hg.all.2 ⟨hv0, needs_in hv0 hm⟩)
          have h1 := (mem_take_pos.1 (hg.needs_take hi hm)).2
          rw [pos_nodup hg.nodup hk] at h1
          exact .inr ⟨i, hi, by omega, hv, hm⟩
    rw [hst, ih (by omega) y hy, hU]
    constructor
    · rintro ((h | ⟨i, hi, h1, h2, h3⟩) | ⟨h1, h2⟩)
      · exact .inl h
      · exact .inr ⟨i, hi, by omega, h2, h3⟩
      · exact .inr ⟨_, hk, Nat.le_refl _, h1, h2⟩
    · rintro (h | ⟨i, hi, h1, h2, h3⟩)
      · exact .inl (.inl h)
      · rcases Nat.lt_or_ge i (l.length - j) with h4 | h4
        · obtain rfl : i = l.length - (j + 1) := by omega
          exact .inr ⟨h2, h3⟩
        · exact .inl (.inr ⟨i, hi, h4, h2, h3⟩)
theorem dn_whole {ls : List (List Int)} {l : List Int} (hg : GoodP ls l) {P : Int → Prop} {S : Nat → Int → Prop} (h0 : ∀ y ∈ l, S 0 y ↔ P y)
    (hs : ∀ k (hk : k < l.length), ∀ y ∈ l, (S (l.length - k) y ↔ S (l.length - (k + 1)) y ∨ (S (l.length - (k + 1)) l[k] ∧ y ∈ needsAt ls l[k]))) :
    ∀ y ∈ l, (S l.length y ↔ Dn ls P y) := by
  intro y hy
  rw [dn_along hg h0 hs l.length (Nat.le_refl _) y hy]
  constructor
  · rintro (h | ⟨i, hi, _, h, hm⟩)
    · exact .base h
    · exact .step (hg.range _ (List.getElem_mem hi)).1 hm h
  · intro h
    cases h with
    | base h => exact .inl h
    | step hv0 hm hv =>
      obtain ⟨i, hi, rfl⟩ := List.getElem_of_mem (hg.all.2 ⟨hv0, needs_in hv0 hm⟩)
      exact .inr ⟨i, hi, by omega, hv, hm⟩

/-- The reference's list, one task's needs seen. -/
def touch1 (k : Int) (out nd : List Int) : List Int := nd.foldl (fun o x => if hasL o x then putL o k else o) out
def touchL (ls : List (List Int)) (out st : List Int) : List Int := st.foldl (fun o k => touch1 k o (needsAt ls k)) out
theorem touch1_mem {k : Int} {nd : List Int} (hk : k ∉ nd) : ∀ {out : List Int} {y : Int}, y ∈ touch1 k out nd ↔ y ∈ out ∨ (y = k ∧ ∃ x ∈ nd, x ∈ out) := by
  induction nd with
  | nil => intro out y; simp [touch1]
  | cons z r ih =>
    intro out y
    rw [List.mem_cons, not_or] at hk
    show y ∈ touch1 k (if hasL out z then putL out k else out) r ↔ _
    rw [ih hk.2]
    by_cases hz : z ∈ out
    · have : hasL out z = true := by simp [hasL, hz]
      rw [this, if_pos rfl, mem_put]
      constructor
      · rintro ((h | h) | ⟨h1, x, hx, h2⟩)
        · exact .inr ⟨h, z, by simp, hz⟩
        · exact .inl h
        · exact .inr ⟨h1, z, by simp, hz⟩
      · rintro (h | ⟨h1, _⟩)
        · exact .inl (.inr h)
        · exact .inl (.inl h1)
    · have : hasL out z = false := by simp [hasL, hz]
      rw [this, if_neg (by simp)]
      constructor
      · rintro (h | ⟨h1, x, hx, h2⟩)
        · exact .inl h
        · exact .inr ⟨h1, x, by simp [hx], h2⟩
      · rintro (h | ⟨h1, x, hx, h2⟩)
        · exact .inl h
        · rw [List.mem_cons] at hx
          rcases hx with rfl | hx
          · exact absurd h2 hz
          · exact .inr ⟨h1, x, hx, h2⟩
theorem touch1_rise {k : Int} (nd : List Int) : ∀ {out : List Int}, Rise out → Rise (touch1 k out nd) := by
  induction nd with
  | nil => intro out h; exact h
  | cons z r ih =>
    intro out h
    show Rise (touch1 k (if hasL out z then putL out k else out) r)
    apply ih
    split
    · exact put_rise h
    · exact h
theorem touch1_snoc (k : Int) (out nd : List Int) (x : Int) : touch1 k out (nd ++ [x]) = if hasL (touch1 k out nd) x then putL (touch1 k out nd) k else touch1 k out nd := by
  unfold touch1; rw [List.foldl_append]; rfl
theorem touchL_snoc (ls : List (List Int)) (out st : List Int) (k : Int) : touchL ls out (st ++ [k]) = touch1 k (touchL ls out st) (needsAt ls k) := by
  unfold touchL; rw [List.foldl_append]; rfl
theorem touchL_rise (ls : List (List Int)) (st : List Int) : ∀ {out : List Int}, Rise out → Rise (touchL ls out st) := by
  induction st with
  | nil => intro out h; exact h
  | cons z r ih => intro out h; exact ih (touch1_rise _ h)
theorem touchL_mem {ls : List (List Int)} {l : List Int} (hg : GoodP ls l) {cs : List Int} : ∀ y ∈ l, (y ∈ touchL ls cs l ↔ Up ls (· ∈ cs) y) := by
  have := up_whole hg (P := (· ∈ cs)) (S := fun k y => y ∈ touchL ls cs (l.take k)) (fun y _ => by simp [touchL]) (fun k hk y _ => by
    show y ∈ touchL ls cs (l.take (k + 1)) ↔ _
    rw [List.take_succ_eq_append_getElem hk, touchL_snoc, touch1_mem (hg.self hk)])
  simpa using this
theorem touchL_in {ls : List (List Int)} (n : Nat) {st : List Int} (hst : ∀ x ∈ st, 0 ≤ x ∧ x < (n : Int)) : ∀ {out : List Int}, (∀ x ∈ out, 0 ≤ x ∧ x < (n : Int)) → ∀ x ∈ touchL ls out st, 0 ≤ x ∧ x < (n : Int) := by
  induction st with
  | nil => intro out h; exact h
  | cons z r ih =>
    intro out h
    refine ih (fun x hx => hst x (by simp [hx])) (fun x hx => ?_)
    have hx' : x ∈ touch1 z out (needsAt ls z) := hx
    have key : ∀ (nd o : List Int), (∀ x ∈ o, 0 ≤ x ∧ x < (n : Int)) → ∀ x ∈ touch1 z o nd, 0 ≤ x ∧ x < (n : Int) := by
      intro nd
      induction nd with
      | nil => intro o h; exact h
      | cons a b ihb =>
        intro o ho
        refine ihb _ (fun x hx0 => ?_)
        have hx : x ∈ (if hasL o a then putL o z else o) := hx0
        split at hx
        · rcases mem_put.1 hx with rfl | hx
          · exact hst _ (by simp)
          · exact ho x hx
        · exact ho x hx
    exact key _ _ h x hx'

open Classical in
/-- What leads to one of some, rising. -/
noncomputable def touchS (ls : List (List Int)) (cs : List Int) : List Int := (upto ls.length).filter (fun y => decide (Up ls (· ∈ cs) y))
open Classical in
/-- What some lead to, rising. -/
noncomputable def needS (ls : List (List Int)) (cs : List Int) : List Int := (upto ls.length).filter (fun y => decide (Dn ls (· ∈ cs) y))
theorem mem_touchS {ls : List (List Int)} {cs : List Int} {y : Int} : y ∈ touchS ls cs ↔ (0 ≤ y ∧ y < (ls.length : Int)) ∧ Up ls (· ∈ cs) y := by
  unfold touchS; rw [List.mem_filter, mem_upto, @decide_eq_true_iff _ (Classical.propDecidable _)]
theorem mem_needS {ls : List (List Int)} {cs : List Int} {y : Int} : y ∈ needS ls cs ↔ (0 ≤ y ∧ y < (ls.length : Int)) ∧ Dn ls (· ∈ cs) y := by
  unfold needS; rw [List.mem_filter, mem_upto, @decide_eq_true_iff _ (Classical.propDecidable _)]
theorem filter_rise {p : Int → Bool} {l : List Int} (h : Rise l) : Rise (l.filter p) := List.Pairwise.filter p h
theorem touchS_rise (ls : List (List Int)) (cs : List Int) : Rise (touchS ls cs) := filter_rise (upto_rise _)
theorem needS_rise (ls : List (List Int)) (cs : List Int) : Rise (needS ls cs) := filter_rise (upto_rise _)
theorem touchS_len (ls : List (List Int)) (cs : List Int) : (touchS ls cs).length ≤ ls.length := by
  have := List.length_filter_le (fun y => @decide (Up ls (· ∈ cs) y) (Classical.propDecidable _)) (upto ls.length)
  rw [upto_len] at this; exact this
theorem needS_len (ls : List (List Int)) (cs : List Int) : (needS ls cs).length ≤ ls.length := by
  have := List.length_filter_le (fun y => @decide (Dn ls (· ∈ cs) y) (Classical.propDecidable _)) (upto ls.length)
  rw [upto_len] at this; exact this
theorem touchL_is {ls : List (List Int)} {l cs : List Int} (hg : GoodP ls l) (hr : Rise cs) (hc : ∀ x ∈ cs, 0 ≤ x ∧ x < (ls.length : Int)) : touchL ls cs l = touchS ls cs := by
  refine rise_ext (touchL_rise _ _ hr) (touchS_rise _ _) (fun x => ?_)
  rw [mem_touchS]
  constructor
  · intro h
    have hx := touchL_in ls.length hg.range hc x h
    exact ⟨hx, (touchL_mem hg x (hg.all.2 hx)).1 h⟩
  · rintro ⟨hx, h⟩
    exact (touchL_mem hg x (hg.all.2 hx)).2 h

/-- The reference's list of what is needed: one task seen. -/
def need1 (out nd : List Int) : List Int := nd.foldl putL out
theorem need1_mem {nd : List Int} : ∀ {out : List Int} {y : Int}, y ∈ need1 out nd ↔ y ∈ out ∨ y ∈ nd := by
  induction nd with
  | nil => intro out y; simp [need1]
  | cons z r ih =>
    intro out y
    show y ∈ need1 (putL out z) r ↔ _
    rw [ih, mem_put, List.mem_cons]
    constructor
    · rintro ((h | h) | h) <;> simp [h]
    · rintro (h | h | h) <;> simp [h]
theorem need1_rise (nd : List Int) : ∀ {out : List Int}, Rise out → Rise (need1 out nd) := by
  induction nd with
  | nil => intro out h; exact h
  | cons z r ih => intro out h; exact ih (put_rise h)
theorem need1_snoc (out nd : List Int) (x : Int) : need1 out (nd ++ [x]) = putL (need1 out nd) x := by
  unfold need1; rw [List.foldl_append]; rfl
/-- From the place k on to the end, seen from the back. -/
def needF (ls : List (List Int)) (cs : List Int) (st : List Int) : List Int := st.foldr (fun k o => if hasL o k then need1 o (needsAt ls k) else o) cs
theorem needF_rise (ls : List (List Int)) (cs : List Int) (h : Rise cs) (st : List Int) : Rise (needF ls cs st) := by
  induction st with
  | nil => exact h
  | cons z r ih =>
    show Rise (if hasL (needF ls cs r) z then need1 (needF ls cs r) (needsAt ls z) else needF ls cs r)
    split
    · exact need1_rise _ ih
    · exact ih
theorem needF_drop {ls : List (List Int)} {cs l : List Int} {k : Nat} (hk : k < l.length) : needF ls cs (l.drop k) = if hasL (needF ls cs (l.drop (k + 1))) l[k] then need1 (needF ls cs (l.drop (k + 1))) (needsAt ls l[k]) else needF ls cs (l.drop (k + 1)) := by
  rw [List.drop_eq_getElem_cons hk]; rfl
theorem needF_mem {ls : List (List Int)} {l : List Int} (hg : GoodP ls l) {cs : List Int} : ∀ y ∈ l, (y ∈ needF ls cs l ↔ Dn ls (· ∈ cs) y) := by
  have := dn_whole hg (P := (· ∈ cs)) (S := fun j y => y ∈ needF ls cs (l.drop (l.length - j))) (fun y _ => by simp [needF]) (fun k hk y _ => by
    show y ∈ needF ls cs (l.drop (l.length - (l.length - k))) ↔ y ∈ needF ls cs (l.drop (l.length - (l.length - (k + 1)))) ∨ (l[k] ∈ needF ls cs (l.drop (l.length - (l.length - (k + 1)))) ∧ _)
    rw [show l.length - (l.length - k) = k by omega, show l.length - (l.length - (k + 1)) = k + 1 by omega, needF_drop hk]
    by_cases h : l[k] ∈ needF ls cs (l.drop (k + 1))
    · have : hasL (needF ls cs (l.drop (k + 1))) l[k] = true := by simp [hasL, h]
      rw [this, if_pos rfl, need1_mem]
      simp [h]
    · have : hasL (needF ls cs (l.drop (k + 1))) l[k] = false := by simp [hasL, h]
      rw [this, if_neg (by simp)]
      simp [h])
  simpa using this
theorem needF_in {ls : List (List Int)} {n : Nat} {cs : List Int} (hls : ∀ k : Nat, ∀ x ∈ needsAt ls (k : Int), 0 ≤ x ∧ x < (n : Int)) (hc : ∀ x ∈ cs, 0 ≤ x ∧ x < (n : Int)) (st : List Int) (hst : ∀ x ∈ st, 0 ≤ x ∧ x < (n : Int)) : ∀ x ∈ needF ls cs st, 0 ≤ x ∧ x < (n : Int) := by
  induction st with
  | nil => exact hc
  | cons z r ih =>
    intro x hx
    have ih' := ih (fun x hx => hst x (by simp [hx]))
    have hz := hst z (by simp)
    have hx' : x ∈ (if hasL (needF ls cs r) z then need1 (needF ls cs r) (needsAt ls z) else needF ls cs r) := hx
    split at hx'
    · rcases need1_mem.1 hx' with h | h
      · exact ih' x h
      · exact hls z.toNat x (by rw [show ((z.toNat : Nat) : Int) = z by omega]; exact h)
    · exact ih' x hx'
theorem GoodP.needs_range {ls : List (List Int)} {l : List Int} (hg : GoodP ls l) (k : Nat) : ∀ x ∈ needsAt ls (k : Int), 0 ≤ x ∧ x < (ls.length : Int) := by
  intro x hx
  obtain ⟨i, hi, he⟩ := List.getElem_of_mem (hg.all.2 ⟨by omega, needs_in (by omega) hx⟩)
  exact hg.range x (List.mem_of_mem_take (hg.needs_take hi (by rw [he]; exact hx)))
theorem needF_is {ls : List (List Int)} {l cs : List Int} (hg : GoodP ls l) (hr : Rise cs) (hc : ∀ x ∈ cs, 0 ≤ x ∧ x < (ls.length : Int)) : needF ls cs l = needS ls cs := by
  refine rise_ext (needF_rise _ _ hr _) (needS_rise _ _) (fun x => ?_)
  rw [mem_needS]
  constructor
  · intro h
    have hx := needF_in hg.needs_range hc l hg.range x h
    exact ⟨hx, (needF_mem hg x (hg.all.2 hx)).1 h⟩
  · rintro ⟨hx, h⟩
    exact (needF_mem hg x (hg.all.2 hx)).2 h

/-- None that is not among some needs one of them. -/
def Shut (ls : List (List Int)) (cs : List Int) : Prop := ∀ u : Nat, u < ls.length → (u : Int) ∉ cs → ∀ x ∈ needsAt ls u, x ∉ cs
theorem shut_touch {ls : List (List Int)} {cs : List Int} (h : Shut ls cs) (hr : Rise cs) (hc : ∀ x ∈ cs, 0 ≤ x ∧ x < (ls.length : Int)) : touchS ls cs = cs := by
  refine rise_ext (touchS_rise _ _) hr (fun x => ?_)
  rw [mem_touchS]
  constructor
  · rintro ⟨hr0, hu⟩
    clear hr0
    induction hu with
    | base h => exact h
    | @step k x h0 hx _ ih =>
      have hk := needs_in h0 hx
      rcases Classical.em (k ∈ cs) with hm | hm
      · exact hm
      · exact absurd ih (h k.toNat (by omega) (by rw [show ((k.toNat : Nat) : Int) = k by omega]; exact hm) x (by rw [show ((k.toNat : Nat) : Int) = k by omega]; exact hx))
  · exact fun h => ⟨hc x h, .base h⟩
theorem rise_nodup {l : List Int} (h : Rise l) : l.Nodup := List.Pairwise.imp (fun h => by omega) h
theorem touch_shut {ls : List (List Int)} {cs : List Int} (hr : Rise cs) (hc : ∀ x ∈ cs, 0 ≤ x ∧ x < (ls.length : Int)) (h : (touchS ls cs).length = cs.length) : Shut ls cs := by
  intro u hu hn x hx hm
  have hm' : (u : Int) ∈ touchS ls cs := mem_touchS.2 ⟨by omega, .step (by omega) hx (.base hm)⟩
  have := nodup_sub (a := (u : Int) :: cs) (b := touchS ls cs) (List.nodup_cons.2 ⟨hn, rise_nodup hr⟩) (fun y hy => by
    rw [List.mem_cons] at hy
    rcases hy with rfl | hy
    · exact hm'
    · exact mem_touchS.2 ⟨hc y hy, .base hy⟩)
  rw [List.length_cons, h] at this
  omega
open Classical in
noncomputable def shutB (ls : List (List Int)) (cs : List Int) : Bool := decide (Shut ls cs)
theorem shutB_len {ls : List (List Int)} {cs : List Int} (hr : Rise cs) (hc : ∀ x ∈ cs, 0 ≤ x ∧ x < (ls.length : Int)) : decide ((touchS ls cs).length = cs.length) = shutB ls cs := by
  unfold shutB
  rw [Bool.eq_iff_iff, decide_eq_true_iff, @decide_eq_true_iff _ (Classical.propDecidable _)]
  exact ⟨touch_shut hr hc, fun h => by rw [shut_touch h hr hc]⟩
theorem sort_filter {s l : List Int} {n : Nat} {p : Int → Bool} (hn : l.Nodup) (hm : ∀ x, x ∈ l ↔ 0 ≤ x ∧ x < (n : Int)) (hp : s.Perm (l.filter p)) (hs : s.Pairwise (· ≤ ·)) : s = (upto n).filter p := by
  have hd : s.Nodup := hp.nodup_iff.2 (hn.filter p)
  have hr : Rise s := by
    unfold Rise
    have h2 := List.Pairwise.and hs hd
    exact h2.imp (fun h => by omega)
  refine rise_ext hr (filter_rise (upto_rise n)) (fun x => ?_)
  rw [hp.mem_iff, List.mem_filter, List.mem_filter, hm, mem_upto]
end Pth
end Go.Proofs.Ytnkkbleebfijgaa

/- Walks: those that a test picks, in the order and rising; the test is a function value. -/
namespace Go.Proofs.Ytnkkbleebfijgaa
open Go.RowKit Pth

/-- A yes-or-no, and only new memory is written. -/
def BoolB (b : Bool) (w : World) (e : Ending) (w' : World) : Prop := e = .returned (.bool b) ∧ Below w.heap.size w w'
/-- A function value that tells of each number of D whether p holds. -/
def TestV (w0 : World) (fv : Value) (D : Int → Prop) (p : Int → Bool) : Prop :=
  ∃ K cap, fv = .func (.func K) #[] cap ∧ (∀ args w, (callFunc K args).run Try.prog w = .ok (.enter K args) w) ∧ ∀ W, Below w0.heap.size w0 W → ∀ x, D x → Calls Try.prog K (#[.int .i64 x] ++ cap) W (BoolB (p x) W)
theorem TestV.below {w w' : World} {fv : Value} {D : Int → Prop} {p : Int → Bool} (h : TestV w fv D p) (hb : Below w.heap.size w w') : TestV w' fv D p := by
  obtain ⟨K, cap, h1, h2, h3⟩ := h
  exact ⟨K, cap, h1, h2, fun W hW x hx => h3 W (bth hb hW (Nat.le_refl _)) x hx⟩
theorem filter_yes {l : List Int} {p : Int → Bool} {k : Nat} (hk : k < l.length) (h : p l[k] = true) : (l.take (k + 1)).filter p = (l.take k).filter p ++ [l[k]] := by
  rw [List.take_succ_eq_append_getElem hk, List.filter_append, List.filter_cons, h]; rfl
theorem filter_no {l : List Int} {p : Int → Bool} {k : Nat} (hk : k < l.length) (h : p l[k] = false) : (l.take (k + 1)).filter p = (l.take k).filter p := by
  rw [List.take_succ_eq_append_getElem hk, List.filter_append, List.filter_cons, h]; simp

end Go.Proofs.Ytnkkbleebfijgaa

/- Plain mathematics of recipes: ops, one step, a run, what is read, digests, texts; no program. -/
namespace Go.Proofs.Ytnkkbleebfijgaa
namespace Pth

/-- An op: its kind, its number, its text. -/
abbrev OpT := Int × Int × List UInt8

def opOk (ins : Int) (o : OpT) : Bool :=
  if o.1 = 1 then decide (0 ≤ o.2.1) && decide (o.2.1 ≤ ins - 1) && decide (o.2.2 = [])
  else if o.1 = 2 then decide (o.2.1 = 0) && decide (o.2.2.length ≤ 10)
  else if o.1 = 5 then decide (0 ≤ o.2.1) && decide (o.2.1 ≤ 40) && decide (o.2.2 = [])
  else if o.1 = 3 ∨ o.1 = 4 ∨ o.1 = 6 ∨ o.1 = 7 then decide (o.2.1 = 0) && decide (o.2.2 = [])
  else false
def goodR (r : List OpT) (ins : Int) : Bool := decide (0 ≤ ins) && decide (ins ≤ 10) && decide (r.length ≤ 8) && r.all (opOk ins)
def textsL (l : List (List UInt8)) : Bool := l.all (fun x => decide (x.length ≤ 40)) && decide (l.length ≤ 10)

theorem goodR_iff {r : List OpT} {ins : Int} : goodR r ins = true ↔ 0 ≤ ins ∧ ins ≤ 10 ∧ r.length ≤ 8 ∧ r.all (opOk ins) = true := by
  simp only [goodR, Bool.and_eq_true, decide_eq_true_eq, and_assoc]
theorem goodR_ins {r : List OpT} {ins : Int} (h : ¬ (0 ≤ ins ∧ ins ≤ 10)) : goodR r ins = false := by
  rcases hg : goodR r ins with _ | _
  · rfl
  · exact absurd ⟨(goodR_iff.1 hg).1, (goodR_iff.1 hg).2.1⟩ h
theorem goodR_long {r : List OpT} {ins : Int} (h : 8 < r.length) : goodR r ins = false := by
  rcases hg : goodR r ins with _ | _
  · rfl
  · have := (goodR_iff.1 hg).2.2.1; omega
theorem goodR_bad {r : List OpT} {ins : Int} {k : Nat} (hk : k < r.length) (h : opOk ins r[k] = false) : goodR r ins = false := by
  rcases hg : goodR r ins with _ | _
  · rfl
  · have := List.all_eq_true.1 (goodR_iff.1 hg).2.2.2 _ (List.getElem_mem hk)
    rw [h] at this; cases this
theorem goodR_end {r : List OpT} {ins : Int} {k : Nat} (h0 : 0 ≤ ins) (h1 : ins ≤ 10) (h2 : r.length ≤ 8) (hk : r.length ≤ k) (h : (r.take k).all (opOk ins) = true) : goodR r ins = true := by
  rw [List.take_of_length_le hk] at h
  exact goodR_iff.2 ⟨h0, h1, h2, h⟩
theorem all_next {α : Type} {p : α → Bool} {l : List α} {k : Nat} (hk : k < l.length) (h0 : (l.take k).all p = true) (h : p l[k] = true) : (l.take (k + 1)).all p = true := by
  rw [List.take_succ_eq_append_getElem hk, List.all_append, h0]; simp [h]
theorem all_bad {α : Type} {p : α → Bool} {l : List α} {k : Nat} (hk : k < l.length) (h : p l[k] = false) : l.all p = false := by
  rw [List.all_eq_false]; exact ⟨l[k], List.getElem_mem hk, by simp [h]⟩
theorem all_end {α : Type} {p : α → Bool} {l : List α} {k : Nat} (hk : l.length ≤ k) (h : (l.take k).all p = true) : l.all p = true := by
  rwa [List.take_of_length_le hk] at h

/-- One op's kinds. -/
theorem opOk_cat {ins n : Int} {t : List UInt8} : opOk ins (1, n, t) = (decide (0 ≤ n) && decide (n ≤ ins - 1) && decide (t = [])) := by simp [opOk]
theorem opOk_text {ins n : Int} {t : List UInt8} : opOk ins (2, n, t) = (decide (n = 0) && decide (t.length ≤ 10)) := by simp [opOk]
theorem opOk_drop {ins n : Int} {t : List UInt8} : opOk ins (5, n, t) = (decide (0 ≤ n) && decide (n ≤ 40) && decide (t = [])) := by simp [opOk]
theorem opOk_bare {ins k n : Int} {t : List UInt8} (hk : k = 3 ∨ k = 4 ∨ k = 6 ∨ k = 7) : opOk ins (k, n, t) = (decide (n = 0) && decide (t = [])) := by
  rcases hk with rfl | rfl | rfl | rfl <;> simp [opOk]
theorem opOk_none {ins k n : Int} {t : List UInt8} (h1 : k ≠ 1) (h2 : k ≠ 2) (h3 : k ≠ 3) (h4 : k ≠ 4) (h5 : k ≠ 5) (h6 : k ≠ 6) (h7 : k ≠ 7) : opOk ins (k, n, t) = false := by
  simp [opOk, h1, h2, h3, h4, h5, h6, h7]
/-- What a good op is. -/
theorem opOk_cases {ins : Int} {o : OpT} (h : opOk ins o = true) :
    (∃ n : Nat, o = (1, (n : Int), []) ∧ (n : Int) ≤ ins - 1) ∨ (∃ t : List UInt8, o = (2, 0, t) ∧ t.length ≤ 10) ∨ o = (3, 0, []) ∨ o = (4, 0, []) ∨ (∃ n : Nat, o = (5, (n : Int), []) ∧ n ≤ 40) ∨ o = (6, 0, []) ∨ o = (7, 0, []) := by
  obtain ⟨k, n, t⟩ := o
  by_cases h1 : k = 1
  · subst h1
    simp only [opOk_cat, Bool.and_eq_true, decide_eq_true_eq] at h
    obtain ⟨⟨ha, hb⟩, rfl⟩ := h
    exact .inl ⟨n.toNat, by rw [show (n.toNat : Int) = n by omega], by omega⟩
  by_cases h2 : k = 2
  · subst h2
    simp only [opOk_text, Bool.and_eq_true, decide_eq_true_eq] at h
    obtain ⟨rfl, hb⟩ := h
    exact .inr (.inl ⟨t, rfl, hb⟩)
  by_cases h5 : k = 5
  · subst h5
    simp only [opOk_drop, Bool.and_eq_true, decide_eq_true_eq] at h
    obtain ⟨⟨ha, hb⟩, rfl⟩ := h
    exact .inr (.inr (.inr (.inr (.inl ⟨n.toNat, by rw [show (n.toNat : Int) = n by omega], by omega⟩))))
  by_cases h3 : k = 3 ∨ k = 4 ∨ k = 6 ∨ k = 7
  · rw [opOk_bare h3] at h
    simp only [Bool.and_eq_true, decide_eq_true_eq] at h
    obtain ⟨rfl, rfl⟩ := h
    rcases h3 with rfl | rfl | rfl | rfl <;> simp
  · have h3' : k ≠ 3 ∧ k ≠ 4 ∧ k ≠ 6 ∧ k ≠ 7 := by omega
    rw [opOk_none h1 h2 h3'.1 h3'.2.1 h5 h3'.2.2.1 h3'.2.2.2] at h
    cases h

def upB (c : UInt8) : UInt8 := if 97 ≤ c.toNat ∧ c.toNat ≤ 122 then c - 32 else c
def upT (l : List UInt8) : List UInt8 := l.map upB
def sortT (l : List UInt8) : List UInt8 := l.mergeSort (fun a b => decide (a ≤ b))
def Sorted8 (l : List UInt8) : Prop := l.Pairwise (· ≤ ·)
theorem sortT_perm (l : List UInt8) : (sortT l).Perm l := List.mergeSort_perm _ _
theorem le8_total (a b : UInt8) : a ≤ b ∨ b ≤ a := by
  simp only [UInt8.le_iff_toNat_le]; omega
theorem le8_trans {a b c : UInt8} (h : a ≤ b) (k : b ≤ c) : a ≤ c := by
  simp only [UInt8.le_iff_toNat_le] at *; omega
theorem sortT_sorted (l : List UInt8) : Sorted8 (sortT l) := by
  have := List.pairwise_mergeSort (le := fun a b : UInt8 => decide (a ≤ b)) (fun a b c h1 h2 => by simp only [decide_eq_true_eq] at *; exact le8_trans h1 h2) (fun a b => by simpa using le8_total a b) l
  exact this.imp (fun h => by simpa using h)
theorem sort_unique {a b : List UInt8} (hp : a.Perm b) (ha : Sorted8 a) (hb : Sorted8 b) : a = b :=
  hp.eq_of_pairwise (le := fun a b : UInt8 => a ≤ b) (fun a b _ _ h1 h2 => by
    apply UInt8.toNat.inj
    simp only [UInt8.le_iff_toNat_le] at h1 h2
    omega) ha hb
theorem sortT_is {a l : List UInt8} (hp : a.Perm l) (ha : Sorted8 a) : a = sortT l := sort_unique (hp.trans (sortT_perm l).symm) ha (sortT_sorted l)
theorem sortT_len (l : List UInt8) : (sortT l).length = l.length := (sortT_perm l).length_eq
theorem upT_len (l : List UInt8) : (upT l).length = l.length := by simp [upT]

def digB (n : Nat) : UInt8 := UInt8.ofNat (48 + n)
/-- A number below 100 as text. -/
def numT (n : Nat) : List UInt8 := if n < 10 then [digB n] else [digB (n / 10), digB (n % 10)]
theorem numT_len (n : Nat) : (numT n).length ≤ 2 := by unfold numT; split <;> simp

/-- What an op makes of a text, however long that is; none where it fails. -/
def rawT (o : OpT) (ins : List (List UInt8)) (acc : List UInt8) : Option (List UInt8) :=
  if o.1 = 1 then some (acc ++ (ins[o.2.1.toNat]?).getD [])
  else if o.1 = 2 then some (acc ++ o.2.2)
  else if o.1 = 3 then some (upT acc)
  else if o.1 = 4 then some (sortT acc)
  else if o.1 = 5 then some (acc.drop o.2.1.toNat)
  else if o.1 = 6 then some (numT acc.length)
  else none
def capT (x : List UInt8) : Option (List UInt8) := if x.length ≤ 40 then some x else none
def stepT (o : OpT) (ins : List (List UInt8)) (acc : List UInt8) : Option (List UInt8) := (rawT o ins acc).bind capT
def runT (ins : List (List UInt8)) : List OpT → List UInt8 → Option (List UInt8)
  | [], acc => some acc
  | o :: t, acc => (stepT o ins acc).bind (runT ins t)
theorem capT_some {x y : List UInt8} (h : capT x = some y) : y = x ∧ x.length ≤ 40 := by
  unfold capT at h
  split at h
  · simp only [Option.some.injEq] at h; exact ⟨h.symm, by assumption⟩
  · cases h
theorem stepT_len {o : OpT} {ins : List (List UInt8)} {acc y : List UInt8} (h : stepT o ins acc = some y) : y.length ≤ 40 := by
  unfold stepT at h
  rcases hr : rawT o ins acc with _ | x
  · rw [hr] at h; cases h
  · rw [hr] at h
    obtain ⟨rfl, hl⟩ := capT_some h
    exact hl
theorem run_step {ins : List (List UInt8)} {r : List OpT} {k : Nat} (hk : k < r.length) (acc : List UInt8) : runT ins (r.drop k) acc = (stepT r[k] ins acc).bind (runT ins (r.drop (k + 1))) := by
  rw [List.drop_eq_getElem_cons hk]; rfl
theorem runT_len {ins : List (List UInt8)} {r : List OpT} {acc y : List UInt8} (ha : acc.length ≤ 40) (h : runT ins r acc = some y) : y.length ≤ 40 := by
  induction r generalizing acc with
  | nil => simp only [runT, Option.some.injEq] at h; subst h; exact ha
  | cons o t ih =>
    simp only [runT] at h
    rcases hs : stepT o ins acc with _ | x
    · rw [hs] at h; cases h
    · rw [hs] at h
      exact ih (stepT_len hs) h
/-- The text behind, empty where it failed. -/
def txtO (x : Option (List UInt8)) : List UInt8 := x.getD []

/-- StepRecipe, RunRecipe: as told. -/
def stepOk (o : OpT) (ins : List (List UInt8)) (acc : List UInt8) : Bool := textsL ins && opOk ins.length o && decide (acc.length ≤ 40)
def runOk (r : List OpT) (ins : List (List UInt8)) : Bool := textsL ins && goodR r ins.length
def stepA (o : OpT) (ins : List (List UInt8)) (acc : List UInt8) : Option (List UInt8) := if stepOk o ins acc then stepT o ins acc else none
def runA (r : List OpT) (ins : List (List UInt8)) : Option (List UInt8) := if runOk r ins then runT ins r [] else none

/-- What is read. -/
def read1 (out : List Int) (o : OpT) : List Int := if o.1 = 1 then putL out o.2.1 else out
def readsL (r : List OpT) : List Int := r.foldl read1 []
def readsA (r : List OpT) : List Int := if goodR r 10 then readsL r else []
def catsL (r : List OpT) : List Int := r.filterMap (fun o => if o.1 = 1 then some o.2.1 else none)
theorem reads_fold_rise (r : List OpT) {out : List Int} (h : Rise out) : Rise (r.foldl read1 out) := by
  induction r generalizing out with
  | nil => exact h
  | cons o t ih =>
    refine ih ?_
    unfold read1
    split
    · exact put_rise h
    · exact h
theorem reads_rise (r : List OpT) : Rise (readsL r) := reads_fold_rise r .nil
theorem reads_fold_mem (r : List OpT) {out : List Int} {x : Int} : x ∈ r.foldl read1 out ↔ x ∈ out ∨ x ∈ catsL r := by
  induction r generalizing out with
  | nil => simp [catsL]
  | cons o t ih =>
    rw [List.foldl_cons, ih]
    unfold read1 catsL
    by_cases h : o.1 = 1
    · simp only [if_pos h, mem_put, List.filterMap_cons, List.mem_cons]
      constructor
      · rintro ((h | h) | h)
        · exact .inr (.inl h)
        · exact .inl h
        · exact .inr (.inr h)
      · rintro (h | (h | h))
        · exact .inl (.inr h)
        · exact .inl (.inl h)
        · exact .inr h
    · simp only [if_neg h, List.filterMap_cons]
theorem mem_reads {r : List OpT} {x : Int} : x ∈ readsL r ↔ x ∈ catsL r := by
  rw [readsL, reads_fold_mem]; simp
theorem reads_is {r : List OpT} {l : List Int} (hr : Rise l) (h : ∀ x, x ∈ l ↔ x ∈ catsL r) : l = readsL r :=
  rise_ext hr (reads_rise r) (fun x => (h x).trans mem_reads.symm)
theorem reads_next {r : List OpT} {k : Nat} (hk : k < r.length) : (r.take (k + 1)).foldl read1 [] = read1 ((r.take k).foldl read1 []) r[k] := by
  rw [List.take_succ_eq_append_getElem hk, List.foldl_append]; rfl
theorem cats_next {r : List OpT} {k : Nat} (hk : k < r.length) : catsL (r.take (k + 1)) = catsL (r.take k) ++ (if r[k].1 = 1 then [r[k].2.1] else []) := by
  rw [List.take_succ_eq_append_getElem hk]
  unfold catsL
  rw [List.filterMap_append]
  by_cases h : r[k].1 = 1 <;> simp [h]
theorem cats_len (r : List OpT) : (catsL r).length ≤ r.length := List.length_filterMap_le _ _

/-- Digests. -/
def dig1 (d : Int) (c : UInt8) : Int := (31 * d + (c.toNat : Int)) % 1000003
def digL (s : List UInt8) : Int := s.foldl dig1 7
def digA (s : List UInt8) : Int := if s.length ≤ 100 then digL s else 0
theorem dig_bound (s : List UInt8) : 0 ≤ digL s ∧ digL s < 1000003 := by
  have : ∀ (l : List UInt8) (d : Int), 0 ≤ d ∧ d < 1000003 → 0 ≤ l.foldl dig1 d ∧ l.foldl dig1 d < 1000003 := by
    intro l
    induction l with
    | nil => exact fun d h => h
    | cons c t ih => exact fun d _ => ih _ (by unfold dig1; omega)
  exact this s 7 (by omega)
theorem dig_next {s : List UInt8} {k : Nat} (hk : k < s.length) : digL (s.take (k + 1)) = (31 * digL (s.take k) + (s[k].toNat : Int)) % 1000003 := by
  rw [digL, List.take_succ_eq_append_getElem hk, List.foldl_append]; rfl

/-- A recipe as text. -/
def byteI (x : Int) : UInt8 := UInt8.ofNat x.toNat
def text1 (o : OpT) : List UInt8 := [byteI o.1, byteI o.2.1, byteI (o.2.2.length : Int)] ++ o.2.2
def textR (r : List OpT) : List UInt8 := r.flatMap text1
def textA (r : List OpT) : List UInt8 := if goodR r 10 then textR r else []
theorem text_next {r : List OpT} {k : Nat} (hk : k < r.length) : textR (r.take (k + 1)) = textR (r.take k) ++ text1 r[k] := by
  rw [textR, List.take_succ_eq_append_getElem hk, List.flatMap_append]; simp [textR]
theorem byteI_inj {x y : Int} (hx : 0 ≤ x ∧ x ≤ 255) (hy : 0 ≤ y ∧ y ≤ 255) (h : byteI x = byteI y) : x = y := by
  have := congrArg UInt8.toNat h
  simp only [byteI, UInt8.toNat_ofNat'] at this
  omega
def Small1 (o : OpT) : Prop := (1 ≤ o.1 ∧ o.1 ≤ 7) ∧ (0 ≤ o.2.1 ∧ o.2.1 ≤ 40) ∧ o.2.2.length ≤ 10
theorem small_of {ins : Int} {o : OpT} (hi : ins ≤ 10) (h : opOk ins o = true) : Small1 o := by
  unfold Small1
  rcases opOk_cases h with ⟨n, rfl, hn⟩ | ⟨t, rfl, ht⟩ | rfl | rfl | ⟨n, rfl, hn⟩ | rfl | rfl <;> simp <;> omega
theorem text1_inj {a b : OpT} {x y : List UInt8} (ha : Small1 a) (hb : Small1 b) (h : text1 a ++ x = text1 b ++ y) : a = b ∧ x = y := by
  obtain ⟨k, n, t⟩ := a
  obtain ⟨k', n', t'⟩ := b
  simp only [Small1] at ha hb
  simp only [text1, List.cons_append, List.nil_append, List.cons.injEq] at h
  obtain ⟨h1, h2, h3, h4⟩ := h
  have e1 := byteI_inj (by omega) (by omega) h1
  have e2 := byteI_inj (by omega) (by omega) h2
  have e3 : t.length = t'.length := by have := byteI_inj (by omega) (by omega) h3; omega
  obtain ⟨e4, e5⟩ := List.append_inj h4 e3
  exact ⟨by rw [e1, e2, e4], e5⟩
theorem textR_inj : ∀ {r q : List OpT}, (∀ o ∈ r, Small1 o) → (∀ o ∈ q, Small1 o) → textR r = textR q → r = q
  | [], [], _, _, _ => rfl
  | [], b :: q, _, _, h => by simp [textR, text1] at h
  | a :: r, [], _, _, h => by simp [textR, text1] at h
  | a :: r, b :: q, hr, hq, h => by
    simp only [textR, List.flatMap_cons] at h
    obtain ⟨e1, e2⟩ := text1_inj (hr a (by simp)) (hq b (by simp)) h
    have := textR_inj (r := r) (q := q) (fun o ho => hr o (by simp [ho])) (fun o ho => hq o (by simp [ho])) e2
    rw [e1, this]
theorem good_small {r : List OpT} {ins : Int} (h : goodR r ins = true) : ∀ o ∈ r, Small1 o := fun o ho =>
  small_of (goodR_iff.1 h).2.1 (List.all_eq_true.1 (goodR_iff.1 h).2.2.2 o ho)
theorem text_same {r q : List OpT} (hr : goodR r 10 = true) (hq : goodR q 10 = true) : decide (r = q) = decide (textA q = textA r) := by
  rw [textA, textA, if_pos hr, if_pos hq]
  by_cases h : r = q
  · subst h; simp
  · rw [decide_eq_false h, decide_eq_false]
    exact fun e => h (textR_inj (good_small hr) (good_small hq) e.symm)
theorem text1_len {o : OpT} (h : Small1 o) : (text1 o).length ≤ 13 := by
  simp [text1]; exact h.2.2
theorem textR_len {r : List OpT} (h : ∀ o ∈ r, Small1 o) : (textR r).length ≤ 13 * r.length := by
  induction r with
  | nil => simp [textR]
  | cons o t ih =>
    have h1 := text1_len (h o (by simp))
    have h2 := ih (fun o ho => h o (by simp [ho]))
    simp only [textR, List.flatMap_cons, List.length_append, List.length_cons] at h2 ⊢
    omega

/-- What two lists have alike for a recipe. -/
def sameL (r : List OpT) (a b : List (List UInt8)) : Bool := r.all (fun o => decide (o.1 = 1 → (a[o.2.1.toNat]?).getD [] = (b[o.2.1.toNat]?).getD []))
theorem raw_same {o : OpT} {a b : List (List UInt8)} (h : o.1 = 1 → (a[o.2.1.toNat]?).getD [] = (b[o.2.1.toNat]?).getD []) (acc : List UInt8) : rawT o a acc = rawT o b acc := by
  unfold rawT
  by_cases h1 : o.1 = 1
  · rw [if_pos h1, if_pos h1, h h1]
  · rw [if_neg h1, if_neg h1]
theorem run_same {r : List OpT} {a b : List (List UInt8)} (h : sameL r a b = true) (acc : List UInt8) : runT a r acc = runT b r acc := by
  induction r generalizing acc with
  | nil => rfl
  | cons o t ih =>
    simp only [sameL, List.all_cons, Bool.and_eq_true, decide_eq_true_eq] at h
    simp only [runT, stepT, raw_same h.1]
    exact congrArg _ (funext fun x => ih h.2 x)

end Pth
end Go.Proofs.Ytnkkbleebfijgaa

/- Plain mathematics: what is sorted and has no two alike any more; no program. -/
namespace Go.Proofs.Ytnkkbleebfijgaa
namespace Pth
open Go.Lib

def sortI (l : List Int) : List Int := l.mergeSort fun x y => decide (x ≤ y)
theorem sortI_perm (l : List Int) : (sortI l).Perm l := List.mergeSort_perm _ _
theorem sortI_sorted (l : List Int) : (sortI l).Pairwise (· ≤ ·) := by
  have := List.pairwise_mergeSort (le := fun a b : Int => decide (a ≤ b)) (fun a b c h1 h2 => by simp only [decide_eq_true_eq] at *; omega) (fun a b => by simp only [Bool.or_eq_true, decide_eq_true_eq]; omega) l
  exact this.imp (fun h => by simpa using h)
theorem get_bang {l : List Int} {j : Nat} (hj : j < l.length) : l.toArray[j]! = l[j] := by
  simp [hj]
theorem mem_compact {l : List Int} {x : Int} : x ∈ compact l ↔ x ∈ l := by
  unfold compact compactUpTo
  constructor
  · intro h
    obtain ⟨j, hj, rfl⟩ := List.mem_map.1 h
    have hj' := List.mem_range.1 (List.mem_filter.1 hj).1
    rw [get_bang hj']
    exact List.getElem_mem hj'
  · intro h
    have key : ∀ j : Nat, (hj : j < l.length) → l[j] = x → x ∈ ((List.range l.length).filter (keeps l.toArray)).map (l.toArray[·]!) := by
      intro j
      induction j with
      | zero =>
        intro hj hx
        refine List.mem_map.2 ⟨0, List.mem_filter.2 ⟨List.mem_range.2 hj, by simp [keeps]⟩, by rw [get_bang hj]; exact hx⟩
      | succ j ih =>
        intro hj hx
        by_cases he : l[j] = x
        · exact ih (by omega) he
        · refine List.mem_map.2 ⟨j + 1, List.mem_filter.2 ⟨List.mem_range.2 hj, ?_⟩, by rw [get_bang hj]; exact hx⟩
          apply keeps_pos
          rw [get_bang hj, Nat.add_sub_cancel, get_bang (by omega : j < l.length), hx]
          exact fun h => he h.symm
    obtain ⟨j, hj, hx⟩ := List.mem_iff_getElem.1 h
    exact key j hj hx
theorem compact_rise {l : List Int} (h : l.Pairwise (· ≤ ·)) : Rise (compact l) := by
  unfold compact compactUpTo Rise
  rw [List.pairwise_map]
  refine List.Pairwise.imp_of_mem (R := fun a b => a < b) ?_ (List.pairwise_lt_range.filter _)
  intro i j hi hj hlt
  have hi' := List.mem_range.1 (List.mem_filter.1 hi).1
  have hj' := List.mem_range.1 (List.mem_filter.1 hj).1
  have hk := (List.mem_filter.1 hj).2
  rw [get_bang hi', get_bang hj']
  have hne : l[j] ≠ l[j - 1] := by
    simp only [keeps, decide_eq_true_eq] at hk
    rcases hk with h0 | h0
    · omega
    · rwa [get_bang hj', get_bang (by omega : j - 1 < l.length)] at h0
  have h1 : l[j - 1] ≤ l[j] := List.pairwise_iff_getElem.1 h (j - 1) j (by omega) hj' (by omega)
  have h2 : l[i] ≤ l[j - 1] := by
    by_cases e : i = j - 1
    · subst e; exact Int.le_refl _
    · exact List.pairwise_iff_getElem.1 h i (j - 1) hi' (by omega) (by omega)
  omega
theorem compact_reads (r : List OpT) : compact (sortI (catsL r)) = readsL r :=
  reads_is (compact_rise (sortI_sorted _)) (fun x => by rw [mem_compact]; exact (sortI_perm _).mem_iff)

end Pth
end Go.Proofs.Ytnkkbleebfijgaa
