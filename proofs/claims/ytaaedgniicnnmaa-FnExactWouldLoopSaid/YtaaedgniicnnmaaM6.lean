/- Texts of one claim, joined in their order. -/
import Derived.Test.YtaaedgniicnnmaaM5

/- Walks: the counts of the program. -/
namespace Go.Proofs.Ytaaedgniicnnmaa
open Go.RowKit Pth

set_option maxRecDepth 20000 in
set_option maxHeartbeats 8000000 in
theorem countsTo_any (ls : List (List Int)) (l : List Int) (t : Nat) (v : Value) (w : World) (hst : GraphV w v ls l) (hG : GoodG ls l) (ht : t < ls.length) :
    Calls Try.prog 63 #[v, .int .i64 (t : Int)] w (IntsPost w.heap.size (countL ls t) w) := by
  have HV := Lib.hid hst
  obtain ⟨nv, ov, rfl, h1, h2⟩ := hst
  obtain ⟨an, cn, rfl, hn1, hn2, hat⟩ := h1.lists
  obtain ⟨ao, co, rfl, ho1, ho2, hao⟩ := h2.ints
  clear h1 h2
  unfold maxLen at hn2 ho2
  have h10 := hG.high
  have hsm := hG.same
  have HIN := Lib.hid (good_in hG)
  have HSM : Hid (∀ k : Nat, k < ls.length → farI ls t k ≤ 10) := fun k hk => far_small hG ⟨by omega, by omega⟩
  have HGG := Lib.hid hG
  have HAT := Lib.hid hat
  have HAO := Lib.hid hao
  obtain ⟨csI, hcI, mI⟩ := make_alloc elemI rfl ls.length (by omega)
  rw [← hsm] at hcI mI
  have HCI := Lib.hid hcI
  have HSL := Lib.hid hsm
  have hl10 : l.length ≤ 10 := by omega
  clear hcI hG hat hao hsm
  obtain ⟨wa, hwa⟩ : ∃ wa, wa = w.alloc (.cells #[.slice an ls.length cn, .slice ao l.length co] 26) := ⟨_, rfl⟩
  have P0 : Hid (Blk2 wa w.heap.size 26 (.slice an ls.length cn) (.slice ao l.length co)) := by rw [hwa]; exact Blk2.new
  have HA : Hid (Below w.heap.size w wa) := by rw [hwa]; exact (Below.refl w.heap.size w).alloc (Nat.le_refl _) _
  have hsa : wa.heap.size = w.heap.size + 1 := by rw [hwa]; simp
  have HSA := Lib.hid hsa
  have HWA := Lib.hid hwa
  have hH := (own_of_heap (w := wa.alloc (.cells csI 3)) (B := wa.heap.size) (heap_alloc_new wa _) (Nat.le_refl _) HCI.out (by simp) (show l.length ≤ maxLen by unfold maxLen; omega))
  rw [HSA.out] at hH
  have HB1 : Hid (Below wa.heap.size wa (wa.alloc (.cells csI 3))) := (Below.refl wa.heap.size wa).alloc (Nat.le_refl _) _
  have htl : t < l.length := by have := HSL.out; omega
  have hfz := hH.frozenAt t
  have hcz : (wa.alloc (.cells csI 3)).cell? ⟨w.heap.size + 1, t, none⟩ = some (.int .i64 0) := by rw [hH.cellAt t (by omega)]; simp [htl]
  have hc1 := (P0.out.below HB1.out (by omega)).cells.2
  have hstA := hH.stored t (.int .i64 1)
  rw [hwa] at hfz hcz hc1
  have e0 : (List.replicate l.length (Value.int .i64 0)).set t (.int .i64 1) = I ((List.replicate l.length 0).set t 1) := by rw [← I_set]; simp [I]
  rw [e0] at hstA
  have HO0 := Lib.hid hstA.1
  have HB0 := Lib.hid (HB1.out.trans (only_below hstA.2 (by omega) HB1.out.size))
  have hC := Cnt.start ht
  rw [← HSL.out] at hC
  have HC := Lib.hid hC
  have ht2 : (t : Int) < (l.length : Int) := by omega
  obtain ⟨w2, hw2⟩ : ∃ w2, w2 = (wa.alloc (.cells csI 3)).setCell ⟨w.heap.size + 1, t, none⟩ (.int .i64 1) := ⟨_, rfl⟩
  rw [← hw2] at HO0 HB0
  rw [World.setCell_alloc_at _ _ _ _ _ (by omega), hwa] at hw2
  have HW2 := Lib.hid hw2
  clear hwa hsa hH hstA e0 hC hw2 HB1
  go_enter Try.func63, Try.ntmps63
  go_wp2_with fail
  rw [← HW2.out]
  clear hfz hcz hc1 mI HW2
  go_loopw [20] (fun i wr => ∃ (k : Nat) (out : List Int), k ≤ l.length ∧ i = .int .i64 (k : Int) ∧ Hid (wr.ownsRow (w.heap.size + 1) 3 1 (.slice (some ⟨w.heap.size + 1, 0, none⟩) l.length l.length) l.length (I out)) ∧ Hid (Cnt ls t (l.take k) out) ∧ Hid (Below wa.heap.size wa wr)) (fun i _ => l.length - (intOf i).toNat)
  case atStart => exact ⟨0, _, Nat.zero_le _, rfl, HO0, HC, HB0⟩
  case round =>
    clear HO0 HC HB0
    obtain ⟨k, out, hk, rfl, HO, HC, HB⟩ := hrel
    by_cases hlt : k < l.length
    · obtain ⟨g, o, hgo, hg, hcell0⟩ := HAO.out k hlt
      subst hgo
      obtain ⟨un, hun⟩ : ∃ un : Nat, l[k] = un := ⟨l[k].toNat, by have := HGG.out.tasks l[k] (List.getElem_mem hlt); omega⟩
      have hul : un < ls.length := by have := HGG.out.tasks l[k] (List.getElem_mem hlt); omega
      have hul2 : (un : Int) < (ls.length : Int) := by omega
      have hcell : wr.cell? ⟨g, o + k, none⟩ = some (.int .i64 (un : Int)) := by rw [(bth HA.out HB.out (by omega)).cell (p := ⟨g, o + k, none⟩) hg, hcell0, hun]
      obtain ⟨d0, d1⟩ := (P0.out.below HB.out (by have := HSA.out; omega)).cells
      obtain ⟨g1, o1, a2, c2, hgn, hg1, hcell1, hrow⟩ := HAT.out un hul
      subst hgn
      have hcn : wr.cell? ⟨g1, o1 + un, none⟩ = some (.slice a2 ls[un].length c2) := ((bth HA.out HB.out (by omega)).cell (p := ⟨g1, o1 + un, none⟩) hg1).trans hcell1
      have HRW : Hid (∀ W, Below w.heap.size w W → RowV W (.slice a2 ls[un].length c2) (I ls[un])) := fun W h => hrow.below h
      have hnl : ls[un].length ≤ c2 ∧ c2 ≤ 2 ^ 63 - 1 := by
        obtain ⟨_, _, h, h', h4, _⟩ := hrow.ints
        unfold maxLen at h4
        injection h with _ _ h3; omega
      obtain ⟨hnl, hc2⟩ := hnl
      have hpk : pos l (un : Int) = k := by rw [← hun]; exact pos_nodup HGG.out.nodup hlt
      have hnd : (un : Int) ∉ l.take k := fun h => by have := (mem_take_pos.1 h).2; omega
      have HI := Lib.hid (HC.out.open hul hnd)
      have HIND : Hid (∀ x ∈ ls[un], x ∈ l.take k) := fun x hx => by
        have he := HGG.out.each un hul
        have hxr := HIN.out un hul x hx
        have hp := he.2.2 x hx
        have hxm : x ∈ l := all_there HGG.out.same HGG.out.nodup (fun y hy => by have := HGG.out.tasks y hy; omega) hxr
        rw [place_mem hxm, place_mem he.2.1] at hp
        exact mem_take_pos.2 ⟨hxm, by omega⟩
      have HTK : Hid (l.take (k + 1) = l.take k ++ [(un : Int)]) := by
        show l.take (k + 1) = _
        rw [List.take_succ_eq_append_getElem hlt, hun]
      clear hcell0 hcell1 hrow hun hpk hnd HC
      generalize l.take k = dn at *
      go_wp2_with fail
      clear hcell hcn d0 d1
      go_loopw [30] (fun i wz => ∃ (m : Nat) (out2 : List Int), m ≤ ls[un].length ∧ i = .int .i64 (m : Int) ∧ Hid (wz.ownsRow (w.heap.size + 1) 3 1 (.slice (some ⟨w.heap.size + 1, 0, none⟩) l.length l.length) l.length (I out2)) ∧ Hid (CntI ls t dn un (ls[un].take m) out2) ∧ Hid (Below wa.heap.size wa wz)) (fun i _ => ls[un].length - (intOf i).toNat)
      case atStart => exact ⟨0, out, Nat.zero_le _, rfl, HO, HI, HB⟩
      case round =>
        clear HO HI HB
        obtain ⟨m, out2, hm, rfl, HO, HI, HB⟩ := hrel
        by_cases hlt2 : m < ls[un].length
        · have hxm := HIN.out un hul ls[un][m] (List.getElem_mem hlt2)
          obtain ⟨kn, hkn⟩ : ∃ kn : Nat, ls[un][m] = kn := ⟨ls[un][m].toNat, by omega⟩
          have hkl : kn < ls.length := by omega
          have hkd : (kn : Int) ∈ dn := by rw [← hkn]; exact HIND.out _ (List.getElem_mem hlt2)
          obtain ⟨gr, or, hra, hcr⟩ : ∃ gr or, a2 = some ⟨gr, or, none⟩ ∧ wr.cell? ⟨gr, or + m, none⟩ = some (.int .i64 (kn : Int)) := by
            obtain ⟨aa, cc, h, _, _, hc⟩ := (HRW.out wr (bth HA.out HB.out (by omega))).ints
            injection h with h1 _ _
            obtain ⟨gr, or, h2, _, h3⟩ := hc m hlt2
            exact ⟨gr, or, by rw [h1, h2], by rw [h3, hkn]⟩
          subst hra
          have hlo := HI.out.len
          have hsl := HSL.out
          have hck : wr.cell? ⟨w.heap.size + 1, kn, none⟩ = some (.int .i64 (at0 out2 (kn : Int))) := by rw [HO.out.cellAt kn (by omega), I_at (by omega), at0_get (by omega)]
          have hcu : wr.cell? ⟨w.heap.size + 1, un, none⟩ = some (.int .i64 (at0 out2 (un : Int))) := by rw [HO.out.cellAt un (by omega), I_at (by omega), at0_get (by omega)]
          have hf2 := HO.out.frozenAt un
          have hkl3 : kn < l.length := by omega
          have hul3 : un < l.length := by omega
          have hkl2 : (kn : Int) < (l.length : Int) := by omega
          have hul4 : (un : Int) < (l.length : Int) := by omega
          have hkf := HI.out.yes kn hkl hkd
          have hka := HSM.out kn hkl
          have hkb := farI_low ls t kn
          have hkr : 0 ≤ at0 out2 (kn : Int) ∧ at0 out2 (kn : Int) ≤ 11 := by omega
          have hwrap : IntKind.i64.wrap (at0 out2 (kn : Int) + 1) = at0 out2 (kn : Int) + 1 := by rw [IntKind.wrap_i64]; omega
          have HT2 : Hid (ls[un].take (m + 1) = ls[un].take m ++ [(kn : Int)]) := by
            show ls[un].take (m + 1) = _
            rw [List.take_succ_eq_append_getElem hlt2, hkn]
          have hst := HO.out.stored un (.int .i64 (at0 out2 (kn : Int) + 1))
          rw [I_set] at hst
          have HOS := Lib.hid hst.1
          have HBS := Lib.hid (HB.out.trans (only_below hst.2 (by have := HSA.out; omega) HB.out.size))
          have HSK := Lib.hid (fun h => (HI.out.skip hkl hkd (u := un) h))
          have HPU := Lib.hid (fun h => (HI.out.put hul hkl hkd (u := un) h))
          have hu0 := HI.out.here.low
          rw [← HT2.out] at HSK HPU
          clear hst hkf hka hkb hlo hsl hkn hxm HI HT2
          have HOD : Hid (∀ n, (wr.drewN n).ownsRow (w.heap.size + 1) 3 1 (.slice (some ⟨w.heap.size + 1, 0, none⟩) l.length l.length) l.length (I out2)) := fun _ => HO.out
          have HBD : Hid (∀ n, Below wa.heap.size wa (wr.drewN n)) := fun n => below_drewN HB.out n
          by_cases hk0 : 0 < at0 out2 (kn : Int)
          · by_cases hu1 : at0 out2 (un : Int) = 0
            · have HI2 := Lib.hid (HPU.out ⟨hk0, .inl hu1⟩)
              clear HSK HPU
              generalize at0 out2 (kn : Int) = ck at *
              rw [hu1] at hcu hu0
              have HOE : Hid (∀ n, ((wr.drewN n).setCell ⟨w.heap.size + 1, un, none⟩ (.int .i64 (ck + 1))).ownsRow (w.heap.size + 1) 3 1 (.slice (some ⟨w.heap.size + 1, 0, none⟩) l.length l.length) l.length (I (out2.set un (ck + 1)))) := fun _ => HOS.out
              have HBE : Hid (∀ n, Below wa.heap.size wa ((wr.drewN n).setCell ⟨w.heap.size + 1, un, none⟩ (.int .i64 (ck + 1)))) := fun n => below_drewN HBS.out n
              go_wp2_with fail
              go_quiet (fail)
              go_wp2_with fail
              go_roundw
              case rel => exact ⟨m + 1, _, by omega, by go_num, HOE.out _, HI2, HBE.out _⟩
              case measure => simp [intOf]; omega
            · have hu2 : (at0 out2 (un : Int) == 0) = false := by simp [hu1]
              by_cases hlt3 : at0 out2 (kn : Int) + 1 < at0 out2 (un : Int)
              · have HI2 := Lib.hid (HPU.out ⟨hk0, .inr hlt3⟩)
                clear HSK HPU hu1
                generalize at0 out2 (kn : Int) = ck at *
                generalize at0 out2 (un : Int) = cu at *
                have HOE : Hid (∀ n, ((wr.drewN n).setCell ⟨w.heap.size + 1, un, none⟩ (.int .i64 (ck + 1))).ownsRow (w.heap.size + 1) 3 1 (.slice (some ⟨w.heap.size + 1, 0, none⟩) l.length l.length) l.length (I (out2.set un (ck + 1)))) := fun _ => HOS.out
                have HBE : Hid (∀ n, Below wa.heap.size wa ((wr.drewN n).setCell ⟨w.heap.size + 1, un, none⟩ (.int .i64 (ck + 1)))) := fun n => below_drewN HBS.out n
                go_wp2_with fail
                go_quiet (fail)
                go_wp2_with fail
                go_roundw
                case rel => exact ⟨m + 1, _, by omega, by go_num, HOE.out _, HI2, HBE.out _⟩
                case measure => simp [intOf]; omega
              · have HI2 := Lib.hid (HSK.out (fun h => by omega))
                clear HSK HPU hu1
                generalize at0 out2 (kn : Int) = ck at *
                generalize at0 out2 (un : Int) = cu at *
                go_wp2_with fail
                go_quiet (fail)
                go_wp2_with fail
                go_roundw
                case rel => exact ⟨m + 1, out2, by omega, by go_num, HOD.out _, HI2, HBD.out _⟩
                case measure => simp [intOf]; omega
          · have HI2 := Lib.hid (HSK.out (fun h => hk0 h.1))
            have hck0 : at0 out2 (kn : Int) = 0 := by omega
            clear HSK HPU
            rw [hck0] at hck
            go_wp2_with fail
            go_quiet (fail)
            go_wp2_with fail
            go_roundw
            case rel => exact ⟨m + 1, out2, by omega, by go_num, HOD.out _, HI2, HBD.out _⟩
            case measure => simp [intOf]; omega
        · rw [List.take_of_length_le (by omega)] at HI
          have HC2 := Lib.hid (HI.out.close hul)
          rw [← HTK.out] at HC2
          clear HI
          go_wp2_with fail
          go_roundw
          case rel => exact ⟨k + 1, out2, by omega, by go_num, HO, HC2, HB⟩
          case measure => simp [intOf]; omega
    · have HE := Lib.hid (HC.out.done (fun j hj => by rw [List.take_of_length_le (by omega)]; exact all_there HGG.out.same HGG.out.nodup (fun y hy => by have := HGG.out.tasks y hy; omega) ⟨by omega, by omega⟩))
      rw [HE.out] at HO
      have HLN : Hid ((countL ls t).length = l.length) := by show _ = _; rw [countL_len, HSL.out]
      clear HC HE
      go_wp2_with fail
      go_ret
      exact ⟨_, rfl, by rw [HLN.out]; exact own_base HO.out (by omega), bth HA.out HB.out (Nat.le_refl _)⟩
end Go.Proofs.Ytaaedgniicnnmaa

/- Walks: the way round, told by the program. -/
namespace Go.Proofs.Ytaaedgniicnnmaa
open Go.RowKit Pth

theorem taskG_of {ls : List (List Int)} {l : List Int} {k : Int} (h : goodG ls l = true) : taskG ls l k = (decide (0 ≤ k) && decide (k < (ls.length : Int))) := by unfold taskG; rw [h]; rfl

set_option maxRecDepth 20000 in
set_option maxHeartbeats 8000000 in
theorem implLoop_any (ls : List (List Int)) (l : List Int) (t x : Int) (v : Value) (w : World) (hst : GraphV w v ls l) :
    Calls Try.prog 20 #[v, .int .i64 t, .int .i64 x] w (ListOk (loopA ls l t x) (decide (0 < (loopA ls l t x).length)) w) := by
  have HV := Lib.hid hst
  obtain ⟨nv, ov, rfl, h1, h2⟩ := hst
  obtain ⟨an, cn, rfl, hn1, hn2, hat⟩ := h1.lists
  obtain ⟨ao, co, rfl, ho1, ho2, _⟩ := h2.ints
  clear h1 h2
  unfold maxLen at hn2 ho2
  have HAT := Lib.hid hat
  clear hat
  obtain ⟨wa, hwa⟩ : ∃ wa, wa = w.alloc (.cells #[.slice an ls.length cn, .slice ao l.length co] 26) := ⟨_, rfl⟩
  have P0 : Hid (Blk2 wa w.heap.size 26 (.slice an ls.length cn) (.slice ao l.length co)) := by rw [hwa]; exact Blk2.new
  have HA : Hid (Below w.heap.size w wa) := by rw [hwa]; exact (Below.refl w.heap.size w).alloc (Nat.le_refl _) _
  have hsz : w.heap.size < wa.heap.size := by rw [hwa]; simp
  have HWA := Lib.hid hwa
  obtain ⟨c0, c1⟩ := P0.out.cells
  have HG := Lib.hid (fun W (h : Below wa.heap.size wa W) => implGood_any ls l _ W (HV.out.below (bth HA.out h (Nat.le_refl _))))
  have HT := Lib.hid (fun W (h : Below wa.heap.size wa W) => isTask_any ls l t _ W (HV.out.below (bth HA.out h (Nat.le_refl _))))
  have HX := Lib.hid (fun W (h : Below wa.heap.size wa W) => isTask_any ls l x _ W (HV.out.below (bth HA.out h (Nat.le_refl _))))
  have HNo : Hid ((goodG ls l && (decide (0 ≤ t) && decide (t < (ls.length : Int))) && (decide (0 ≤ x) && decide (x < (ls.length : Int)))) = false → loopA ls l t x = []) := fun h => loopA_no (by
    rcases hg : goodG ls l with _ | _
    · rw [taskG_good hg]; rfl
    · rw [taskG_of hg, taskG_of hg]; rw [hg] at h; simpa using h)
  have HYes : Hid ((goodG ls l && (decide (0 ≤ t) && decide (t < (ls.length : Int))) && (decide (0 ≤ x) && decide (x < (ls.length : Int)))) = true → loopA ls l t x = loopL ls t x ∧ GoodG ls l ∧ (0 ≤ t ∧ t < (ls.length : Int)) ∧ (0 ≤ x ∧ x < (ls.length : Int))) := fun h => by
    rw [Bool.and_eq_true, Bool.and_eq_true] at h
    have h' : (taskG ls l t && taskG ls l x) = true := by rw [taskG_of h.1.1, taskG_of h.1.1, h.1.2, h.2]; rfl
    have h'' := h'
    rw [Bool.and_eq_true] at h''
    exact ⟨loopA_yes h', (taskG_yes h''.1).1, (taskG_yes h''.1).2, (taskG_yes h''.2).2⟩
  generalize goodG ls l = b0 at *
  generalize (decide (0 ≤ t) && decide (t < (ls.length : Int))) = b1 at *
  generalize (decide (0 ≤ x) && decide (x < (ls.length : Int))) = b2 at *
  generalize loopA ls l t x = R at *
  clear hwa
  go_enter Try.func20, Try.ntmps20
  go_wp2_with fail
  rw [← HWA.out]
  refine (HG.out wa (Below.refl _ _)).mono ?_
  rintro e w1 ⟨rfl, hb1⟩
  have K1 := Lib.hid hb1
  obtain ⟨d0, d1⟩ := (P0.out.below hb1 hsz).cells
  clear hb1 c0 c1
  cases b0 with
  | false =>
    have hR := HNo.out rfl
    subst hR
    clear HNo HYes HT HX
    go_wp2_with fail
    go_ret2
    exact ⟨_, rfl, none_ownZ _ _ _, bth HA.out K1.out (Nat.le_refl _)⟩
  | true =>
    go_wp2_with fail
    refine (HT.out w1 K1.out).mono ?_
    rintro e w2 ⟨rfl, hb2⟩
    have K2 := Lib.hid (bth K1.out hb2 (Nat.le_refl _))
    obtain ⟨e0, e1⟩ := (P0.out.below K2.out hsz).cells
    clear hb2 d0 d1
    cases b1 with
    | false =>
      have hR := HNo.out rfl
      subst hR
      clear HNo HYes HT HX
      go_wp2_with fail
      go_ret2
      exact ⟨_, rfl, none_ownZ _ _ _, bth HA.out K2.out (Nat.le_refl _)⟩
    | true =>
      go_wp2_with fail
      refine (HX.out w2 K2.out).mono ?_
      rintro e w3 ⟨rfl, hb3⟩
      have K3 := Lib.hid (bth K2.out hb3 (Nat.le_refl _))
      obtain ⟨f0, f1⟩ := (P0.out.below K3.out hsz).cells
      clear hb3 e0 e1
      cases b2 with
      | false =>
        have hR := HNo.out rfl
        subst hR
        clear HNo HYes HT HX
        go_wp2_with fail
        go_ret2
        exact ⟨_, rfl, none_ownZ _ _ _, bth HA.out K3.out (Nat.le_refl _)⟩
      | true =>
        obtain ⟨hR, hG, ht, hx⟩ := HYes.out rfl
        obtain ⟨tn, rfl⟩ : ∃ tn : Nat, t = tn := ⟨t.toNat, by omega⟩
        obtain ⟨xn, rfl⟩ : ∃ xn : Nat, x = xn := ⟨x.toNat, by omega⟩
        have htl : tn < ls.length := by omega
        have hxl : xn < ls.length := by omega
        have hxl2 : (xn : Int) < (ls.length : Int) := by omega
        have h10 := hG.high
        have HIN := Lib.hid (good_in hG)
        have HSM : Hid (∀ k : Nat, k < ls.length → farI ls tn k ≤ 10) := fun k hk => far_small hG ⟨by omega, by omega⟩
        have HC := Lib.hid (countsTo_any ls l tn _ w3 (HV.out.below (bth HA.out K3.out (Nat.le_refl _))) hG htl)
        have HR := Lib.hid hR
        have HK := Lib.hid (bth HA.out K3.out (Nat.le_refl _))
        clear HNo HYes HT HX HG hR hG ht hx K1 K2
        go_wp2_with fail
        refine HC.out.mono ?_
        rintro e w4 ⟨v4, rfl, ho4, hb4⟩
        have HB4 := Lib.hid (bth HK.out hb4 (Nat.le_refl _))
        have K4 := Lib.hid (bth K3.out hb4 (Nat.le_refl _))
        have hs4 : w.heap.size < w4.heap.size := by have := K4.out.size; omega
        obtain ⟨g0, g1⟩ := (P0.out.below K4.out hsz).cells
        have hfl := countL_len ls tn
        obtain ⟨gF, cF, hvF, hlF⟩ : ∃ gF cF, v4 = .slice (some ⟨gF, 0, none⟩) ls.length cF ∧ ls.length ≤ cF := by
          rcases ho4.2 with ⟨_, h0⟩ | ⟨gF, cap, cur, hv, _, _, hcap, _⟩
          · rw [hfl] at h0; omega
          · exact ⟨gF, cap, by rw [hv, hfl], by omega⟩
        subst hvF
        have HFC : Hid (∀ W, Below w4.heap.size w4 W → ∀ k : Nat, k < ls.length → W.cell? ⟨gF, k, none⟩ = some (.int .i64 (farI ls tn k + 1))) := by
          intro W hW k hk
          have h1 := own_below ho4 hW
          rw [hfl] at h1
          rw [h1.cellAt k (by omega), I_at (by rw [hfl]; exact hk), countL_get]
        have hcx := HFC.out w4 (Below.refl _ _) xn hxl
        have HLow := Lib.hid (farI_low ls tn xn)
        clear HC ho4 hb4 f0 f1 hfl
        by_cases hneg : farI ls tn xn < 0
        · have h0 : farI ls tn xn = -1 := by have := HLow.out; omega
          have hR : R = [] := by rw [HR.out]; unfold loopL; rw [if_pos hneg]
          subst hR
          rw [h0] at hcx
          clear HR
          go_wp2_with fail
          go_ret2
          exact ⟨_, rfl, none_ownZ _ _ _, HB4.out⟩
        · have HL : Hid (R = wayL ls tn (farI ls tn xn).toNat xn) := by show R = _; rw [HR.out]; unfold loopL; rw [if_neg hneg]
          have HFX : Hid (farI ls tn xn = ((farI ls tn xn).toNat : Int)) := by show _ = _; omega
          have HQ : Hid ((w4.alloc (.cells #[.int .i64 (xn : Int)] 3)).ownsRow w4.heap.size 3 1 (.slice (some ⟨w4.heap.size, 0, none⟩) 1 1) ([] ++ [(xn : Int)]).length (I ([] ++ [(xn : Int)]))) := own_of_heap (heap_alloc_new w4 _) (Nat.le_refl _) rfl rfl (by unfold maxLen; omega)
          have HBQ : Hid (Below w4.heap.size w4 (w4.alloc (.cells #[.int .i64 (xn : Int)] 3))) := (Below.refl _ w4).alloc (Nat.le_refl _) _
          have hxs := HSM.out xn hxl
          have hcx2 := HFC.out _ HBQ.out xn hxl
          generalize hfx : farI ls tn xn = fx at hcx hcx2 hneg HL HFX hxs
          have HXF := Lib.hid hfx
          have hw0 : ((fx + 1) == 0) = false := by simp; omega
          have hw1 : IntKind.i64.wrap (fx + 1 - 1) = fx := by rw [IntKind.wrap_i64]; omega
          clear hfx HR HLow
          go_wp2_with fail
          go_loopw [9, 10] (fun o a wr => ∃ (gk an2 : Nat) (pre : List Int), a = .int .i64 (gk : Int) ∧ an2 < ls.length ∧ Hid (farI ls tn (an2 : Int) = (gk : Int)) ∧ Hid (wr.ownsRow w4.heap.size 3 1 o (pre ++ [(an2 : Int)]).length (I (pre ++ [(an2 : Int)]))) ∧ Hid (wayL ls tn fx.toNat xn = pre ++ wayL ls tn gk (an2 : Int)) ∧ Hid (pre.length ≤ fx.toNat) ∧ Hid (Below w4.heap.size w4 wr)) (fun _ i _ => (intOf i).toNat)
          case atStart => exact ⟨fx.toNat, xn, [], by rw [← HFX.out], hxl, HXF.out.trans HFX.out, HQ, rfl, Nat.zero_le _, HBQ⟩
          case round =>
            clear HQ HBQ hcx hcx2 g0 g1 hw0 hw1
            obtain ⟨gk, an2, pre, rfl, hal, HGK, HO, HW, HP, HB⟩ := hrel
            cases gk with
            | zero =>
              obtain ⟨oa, oc, ho⟩ := own_slice HO.out
              subst ho
              have hR : R = pre ++ [(an2 : Int)] := by rw [HL.out, HW.out]; rfl
              have HT : Hid (decide (0 < R.length) = true) := by show _ = _; rw [hR]; simp
              have HO' : Hid (wr.ownsRow w4.heap.size 3 1 (.slice oa (pre ++ [(an2 : Int)]).length oc) R.length (I R)) := by rw [hR]; exact HO
              clear HW HL HGK hR
              go_wp2_with fail
              go_ret2
              have HS4 : w.heap.size ≤ w4.heap.size := Nat.le_of_lt hs4
              exact ⟨.slice oa (pre ++ [(an2 : Int)]).length oc, by rw [HT.out]; rfl, own_base HO'.out HS4, bth HB4.out HB.out (Nat.le_refl _)⟩
            | succ gm =>
              obtain ⟨np, hnp⟩ : ∃ np, pre.length = np := ⟨_, rfl⟩
              have hwl : (pre ++ [(an2 : Int)]).length = np + 1 := by rw [List.length_append, List.length_singleton, hnp]
              obtain ⟨gw, oc, ho, hoc, hom⟩ : ∃ gw oc, u9 = .slice (some ⟨gw, 0, none⟩) (np + 1) oc ∧ np + 1 ≤ oc ∧ oc ≤ maxLen := by
                rcases HO.out.2 with ⟨_, h0⟩ | ⟨gw, cap, cur, hv, _, _, hcap, hmx, _⟩
                · omega
                · exact ⟨gw, cap, by rw [hv, hwl], by omega, by omega⟩
              subst ho
              have hca : wr.cell? ⟨gw, np, none⟩ = some (.int .i64 (an2 : Int)) := by
                have h0 := HO.out
                rw [hwl] at h0
                rw [h0.cellAt np (by omega), I_at (by rw [hwl]; omega)]
                simp [← hnp]
              obtain ⟨g1, o1, a2, c2, hgn, hg1, hcell, hrow⟩ := HAT.out an2 hal
              subst hgn
              obtain ⟨d0, d1⟩ := (P0.out.below (bth K4.out HB.out (by have := K4.out.size; omega)) hsz).cells
              have hal2 : (an2 : Int) < (ls.length : Int) := by omega
              have hcn : wr.cell? ⟨g1, o1 + an2, none⟩ = some (.slice a2 ls[an2].length c2) := ((bth HB4.out HB.out (by omega)).cell (p := ⟨g1, o1 + an2, none⟩) hg1).trans hcell
              have HRW : Hid (∀ W, Below w.heap.size w W → RowV W (.slice a2 ls[an2].length c2) (I ls[an2])) := fun W h => hrow.below h
              have HNX := Lib.hid (next_far (ls := ls) (t := tn) (k := an2) (m := gm) (by have := HGK.out; push_cast at this; exact this))
              have HNA2 := Lib.hid (needsAt_get hal)
              have hnl : ls[an2].length ≤ c2 ∧ c2 ≤ 2 ^ 63 - 1 := by
                obtain ⟨_, _, h, h', h4, _⟩ := hrow.ints
                unfold maxLen at h4
                injection h with _ _ h3; omega
              obtain ⟨hnl, hc2⟩ := hnl
              have hgm : gm ≤ 10 := by have h1 := HSM.out an2 hal; have h2 := HGK.out; omega
              have hpl : (I (pre ++ [(an2 : Int)])).length ≤ 1000000 := by
                rw [I_len, hwl]
                have h1 := HP.out; have h4 := HFX.out; omega
              have hnp9 : np ≤ 1000000 := by rw [I_len, hwl] at hpl; omega
              have hwn : IntKind.i64.wrap (((np + 1 : Nat) : Int) - 1) = (np : Int) := by rw [IntKind.wrap_i64]; omega
              have HOD : Hid (∀ n, (wr.drewN n).ownsRow w4.heap.size 3 1 (.slice (some ⟨gw, 0, none⟩) (np + 1) oc) (pre ++ [(an2 : Int)]).length (I (pre ++ [(an2 : Int)]))) := fun _ => HO.out
              have HBD : Hid (∀ n, Below w4.heap.size w4 (wr.drewN n)) := fun n => below_drewN HB.out n
              have HNP := Lib.hid hnp
              have HWL := Lib.hid hwl
              clear hcell hrow HO HB hnp hwl
              go_wp2_with fail
              go_quiet (fail)
              go_wp2_with fail
              clear hca d0 d1 hcn
              go_loopw [9, 58] (fun a9 i wz => ∃ j : Nat, a9 = .slice (some ⟨gw, 0, none⟩) (np + 1) oc ∧ j ≤ ls[an2].length ∧ i = .int .i64 (j : Int) ∧ Hid (∀ i (hi : i < j) (hi2 : i < ls[an2].length), farI ls tn ls[an2][i] ≠ gm) ∧ Hid (wz.ownsRow w4.heap.size 3 1 (.slice (some ⟨gw, 0, none⟩) (np + 1) oc) (pre ++ [(an2 : Int)]).length (I (pre ++ [(an2 : Int)]))) ∧ Hid (Below w4.heap.size w4 wz)) (fun _ i _ => ls[an2].length - (intOf i).toNat)
              case atStart => exact ⟨0, rfl, Nat.zero_le _, rfl, fun i hi => by omega, HOD.out _, HBD.out _⟩
              case round =>
                clear HOD HBD
                obtain ⟨j, rfl, hj, rfl, HJ, HO, HB⟩ := hrel
                by_cases hlt : j < ls[an2].length
                · have hxm := HIN.out an2 hal ls[an2][j] (List.getElem_mem hlt)
                  obtain ⟨kn, hkn⟩ : ∃ kn : Nat, ls[an2][j] = kn := ⟨ls[an2][j].toNat, by omega⟩
                  have hkl : kn < ls.length := by omega
                  have hkl2 : (kn : Int) < (ls.length : Int) := by omega
                  obtain ⟨gr, or, hra, hcr⟩ : ∃ gr or, a2 = some ⟨gr, or, none⟩ ∧ wr.cell? ⟨gr, or + j, none⟩ = some (.int .i64 (kn : Int)) := by
                    obtain ⟨aa, cc, h, _, _, hc⟩ := (HRW.out wr (bth HB4.out HB.out (by omega))).ints
                    injection h with h1 _ _
                    obtain ⟨gr, or, h2, _, h3⟩ := hc j hlt
                    exact ⟨gr, or, by rw [h1, h2], by rw [h3, hkn]⟩
                  subst hra
                  have hcf := HFC.out wr HB.out kn hkl
                  by_cases hm : farI ls tn (kn : Int) = gm
                  · rw [hm] at hcf
                    have HN : Hid (nextI ls tn (an2 : Int) = (kn : Int)) := by
                      have h := next_at (ls := ls) (t := tn) (k := an2) (j := j) (by rw [HNA2.out]; exact hlt) (fun i hi => by simp only [HNA2.out]; rw [HGK.out]; have := HJ.out i hi (by omega); omega) (by simp only [HNA2.out]; rw [hkn, HGK.out]; omega)
                      simp only [HNA2.out] at h
                      rw [hkn] at h
                      exact h
                    have HG2 : Hid (farI ls tn (kn : Int) = (gm : Int)) := hm
                    have HW2 : Hid (wayL ls tn fx.toNat xn = (pre ++ [(an2 : Int)]) ++ wayL ls tn gm (kn : Int)) := by show _ = _; rw [HW.out, wayL, HN.out]; simp
                    have HP2 : Hid ((pre ++ [(an2 : Int)]).length ≤ fx.toNat) := by
                      have h := congrArg List.length HW2.out
                      rw [List.length_append, wayL_len, wayL_len] at h
                      show _ ≤ _; omega
                    have HNA := Lib.hid (own_Z HO.out)
                    have hee : ((gm : Int) + 1 == ((gm + 1 : Nat) : Int)) = true := by simp
                    have hwg : IntKind.i64.wrap (((gm + 1 : Nat) : Int) - 1) = (gm : Int) := by rw [IntKind.wrap_i64]; omega
                    clear hkn hxm HJ HNX HNA2 HO HN hm HW HP
                    generalize pre ++ [(an2 : Int)] = pr at *
                    go_wp2_with (at_builtin; refine wpAppOne elemI rfl _ _ rfl w4.heap.size _ (I pr) rfl HNA.out _ rfl rfl rfl hpl HB.out.size ?_; intro v7 w7 hown7 hg7; have HN7 := Lib.hid (own_Z2 hown7); have HB7 := Lib.hid (HB.out.trans (below_own HNA.out hg7 HB.out.size)); clear hown7 hg7)
                    go_roundw
                    case rel => exact ⟨gm, kn, pr, rfl, hkl, HG2, HN7, HW2, HP2, HB7⟩
                    case measure => simp [intOf]
                  · have HJ2 : Hid (∀ i (hi : i < j + 1) (hi2 : i < ls[an2].length), farI ls tn ls[an2][i] ≠ gm) := fun i hi hi2 => by
                      by_cases h : i < j
                      · exact HJ.out i h hi2
                      · obtain rfl : i = j := by omega
                        rw [hkn]; exact hm
                    have hme : (farI ls tn (kn : Int) + 1 == ((gm + 1 : Nat) : Int)) = false := by simp; omega
                    clear hkn hxm HJ HNX HNA2 hm HW HP
                    generalize farI ls tn (kn : Int) + 1 = fk at hme hcf
                    go_wp2_with fail
                    go_roundw
                    case rel => exact ⟨j + 1, rfl, by omega, by go_num, HJ2, HO, HB⟩
                    case measure => simp [intOf]; omega
                · exfalso
                  obtain ⟨h1, h2⟩ := HNX.out
                  rw [HNA2.out] at h2
                  obtain ⟨i, hi, he⟩ := List.getElem_of_mem h2
                  exact HJ.out i (by omega) hi (by rw [he]; exact h1)
end Go.Proofs.Ytaaedgniicnnmaa

/- The way round is short. -/
namespace Go.Proofs.Ytaaedgniicnnmaa
open Go.RowKit Pth

theorem loopA_short (ls : List (List Int)) (l : List Int) (t x : Int) : (loopA ls l t x).length ≤ 1000000 := by
  rcases h : taskG ls l t && taskG ls l x with _ | _
  · rw [loopA_no h]; simp
  · rw [loopA_yes h]
    rw [Bool.and_eq_true] at h
    have h1 := taskG_yes h.1
    have h2 := taskG_yes h.2
    unfold loopL
    by_cases hn : farI ls t x < 0
    · rw [if_pos hn]; simp
    · rw [if_neg hn, wayL_len]
      have := far_small (t := t) h1.1 h2.2
      omega
end Go.Proofs.Ytaaedgniicnnmaa
