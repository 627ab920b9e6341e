/- Texts of one claim, joined in their order. -/
import Derived.Test.YtcfhfhpdnjaokaaGreatDoorM13
import Derived.Test.YtcfhfhpdnjaokaaGreatDoorM7
import Derived.Test.YtcfhfhpdnjaokaaGreatDoorM4

/- Walks: the way round, as the reference has it. -/
namespace Go.Proofs.YtcfhfhpdnjaokaaGreatDoor
open Go.RowKit Pth

/-- The way that is told. -/
noncomputable def loopL (ls : List (List Int)) (t x : Int) : List Int := if farI ls t x < 0 then [] else wayL ls t (farI ls t x).toNat x
theorem far_bound {ls : List (List Int)} {l : List Int} (hG : GoodG ls l) {t : Int} {m : Nat} : ∀ {k : Int}, Pth.Way ls t m k → ∀ (_hk : 0 ≤ k ∧ k < (ls.length : Int)), m ≤ pos l k := by
  induction m with
  | zero => intro k _ _; omega
  | succ m ih =>
    intro k h hk
    obtain ⟨x, hx, hw⟩ := h
    obtain ⟨kn, rfl⟩ : ∃ kn : Nat, k = kn := ⟨k.toNat, by omega⟩
    have hkl : kn < ls.length := by omega
    rw [needsAt_get hkl] at hx
    have he := (hG.each kn hkl)
    have hxr := good_in hG kn hkl x hx
    have hp := he.2.2 x hx
    have hxm : x ∈ l := all_there hG.same hG.nodup (fun y hy => by have := hG.tasks y hy; omega) hxr
    rw [place_mem hxm, place_mem he.2.1] at hp
    have := ih hw hxr
    omega
theorem far_small {ls : List (List Int)} {l : List Int} (hG : GoodG ls l) {t k : Int} (hk : 0 ≤ k ∧ k < (ls.length : Int)) : farI ls t k ≤ 10 := by
  by_cases h : farI ls t k < 0
  · omega
  · have h1 := far_bound hG (farI_way (t := t) (k := k) (by omega)) hk
    have hm : k ∈ l := all_there hG.same hG.nodup (fun y hy => by have := hG.tasks y hy; omega) hk
    have h2 := pos_lt hm
    have h3 := hG.same
    have h4 := hG.high
    omega

set_option maxRecDepth 20000 in
set_option maxHeartbeats 8000000 in
theorem l5Loop_any (ls : List (List Int)) (l : List Int) (t x : Nat) (v : Value) (w : World) (hst : GraphV w v ls l) (hG : GoodG ls l) (ht : t < ls.length) (hx : x < ls.length) :
    Calls Tryz.prog 197 #[v, .int .i64 (t : Int), .int .i64 (x : Int)] w (IntsPost w.heap.size (loopL ls t x) w) := by
  have HV := Lib.hid hst
  obtain ⟨nv, ov, rfl, h1, h2⟩ := hst
  obtain ⟨an, cn, rfl, hn1, hn2, hat⟩ := h1.lists
  obtain ⟨ao, co, rfl, ho1, ho2, -⟩ := h2.ints
  clear h1 h2
  unfold maxLen at hn2 ho2
  have h10 := hG.high
  have HIN := Lib.hid (good_in hG)
  have HSM : Hid (∀ k : Nat, k < ls.length → farI ls t k ≤ 10) := fun k hk => far_small hG ⟨by omega, by omega⟩
  obtain ⟨wa, hwa⟩ : ∃ wa, wa = w.alloc (.cells #[.slice an ls.length cn, .slice ao l.length co] 26) := ⟨_, rfl⟩
  have P0 : Hid (Blk2 wa w.heap.size 26 (.slice an ls.length cn) (.slice ao l.length co)) := by rw [hwa]; exact Blk2.new
  have HA : Hid (Below w.heap.size w wa) := by rw [hwa]; exact (Below.refl w.heap.size w).alloc (Nat.le_refl _) _
  have hsa : wa.heap.size = w.heap.size + 1 := by rw [hwa]; simp
  have HSA := Lib.hid hsa
  have HWA := Lib.hid hwa
  have HC := Lib.hid (l5Far_any ls l t _ wa (HV.out.below HA.out) hG ht)
  obtain ⟨c0, c1⟩ := P0.out.cells
  clear hwa hsa hG
  go_enter Tryz.func197, Tryz.ntmps197
  go_wp2_with fail
  rw [← HWA.out]
  refine HC.out.mono ?_
  rintro e w1 ⟨v1, rfl, ho1', hb1⟩
  have HF := Lib.hid ho1'
  have HB1 := Lib.hid (bth HA.out hb1 (Nat.le_refl _))
  have P1 := Lib.hid (P0.out.below hb1 (by have := HSA.out; omega))
  have hs1 : w.heap.size + 1 ≤ w1.heap.size := by have := hb1.size; have := HSA.out; omega
  have hfl := far_len ls t
  obtain ⟨gF, cF, hvF, hlF⟩ : ∃ gF cF, v1 = .slice (some ⟨gF, 0, none⟩) ls.length cF ∧ ls.length ≤ cF := by
    rcases ho1'.2 with ⟨_, h0⟩ | ⟨gF, cap, cur, hv, _, _, hcap, _⟩
    · rw [hfl] at h0; omega
    · exact ⟨gF, cap, by rw [hv, hfl], by omega⟩
  subst hvF
  have HFC : Hid (∀ W, Below w1.heap.size w1 W → ∀ k : Nat, k < ls.length → W.cell? ⟨gF, k, none⟩ = some (.int .i64 (farI ls t k))) := by
    intro W hW k hk
    have h1 := own_below HF.out hW
    rw [hfl] at h1
    rw [h1.cellAt k (by omega), I_at (by rw [hfl]; exact hk)]
    simp [upto_get]
  have hcx := HFC.out w1 (Below.refl _ _) x hx
  have hx2 : (x : Int) < (ls.length : Int) := by omega
  clear ho1' hb1 c0 c1 HC
  by_cases hneg : farI ls t x < 0
  · have HL : Hid (loopL ls t x = []) := by unfold loopL; rw [if_pos hneg]; rfl
    generalize farI ls t x = fx at *
    go_wp2_with fail
    go_ret
    exact ⟨_, rfl, by rw [HL.out]; exact none_ownZ _ _ _, HB1.out⟩
  · have HL : Hid (loopL ls t x = wayL ls t (farI ls t x).toNat x) := by unfold loopL; rw [if_neg hneg]; rfl
    have HFX : Hid (farI ls t x = ((farI ls t x).toNat : Int)) := by show _ = _; omega
    have HQ : Hid ((w1.alloc (.cells #[.int .i64 (x : Int)] 3)).ownsRow w1.heap.size 3 1 (.slice (some ⟨w1.heap.size, 0, none⟩) 1 1) ([] ++ [(x : Int)]).length (I ([] ++ [(x : Int)]))) := own_of_heap (heap_alloc_new w1 _) (Nat.le_refl _) rfl rfl (by unfold maxLen; omega)
    have HBQ : Hid (Below w1.heap.size w1 (w1.alloc (.cells #[.int .i64 (x : Int)] 3))) := (Below.refl _ w1).alloc (Nat.le_refl _) _
    obtain ⟨d0, d1⟩ := P1.out.cells
    generalize hfx : farI ls t x = fx at hcx hneg HL HFX
    have HX := Lib.hid hfx
    clear hfx
    go_wp2_with fail
    go_loopg [8, 9] fx.toNat (fun gk o a wr => ∃ (an2 : Nat) (pre : List Int), a = .int .i64 (an2 : Int) ∧ an2 < ls.length ∧ Hid (farI ls t (an2 : Int) = (gk : Int)) ∧ Hid (wr.ownsRow w1.heap.size 3 1 o (pre ++ [(an2 : Int)]).length (I (pre ++ [(an2 : Int)]))) ∧ Hid (wayL ls t fx.toNat x = pre ++ wayL ls t gk (an2 : Int)) ∧ Hid (pre.length ≤ fx.toNat) ∧ Hid (Below w1.heap.size w1 wr))
    case atStart => exact ⟨x, [], rfl, hx, HX.out.trans HFX.out, HQ, rfl, Nat.zero_le _, HBQ⟩
    case round =>
      clear HQ HBQ d0 d1 hcx
      obtain ⟨an2, pre, rfl, hal, HG, HO, HW, HP, HB⟩ := hrel
      obtain ⟨oa, oc, ho⟩ := own_slice HO.out
      subst ho
      by_cases hat2 : an2 = t
      · have hz : gk = 0 := by have h := HG.out; rw [hat2, farI_self] at h; omega
        rw [hz] at HW
        have HE : Hid (loopL ls t x = pre ++ [(an2 : Int)]) := by show _ = _; rw [HL.out, HW.out]; rfl
        have hat3 : ((an2 : Int) != (t : Int)) = false := by simp [hat2]
        go_wp2_with fail
        go_ret
        exact ⟨_, rfl, by rw [HE.out]; exact own_base HO.out (by omega), bth HB1.out HB.out (by omega)⟩
      · have hat3 : ((an2 : Int) != (t : Int)) = true := by simp; omega
        obtain ⟨g1, o1, a2, c2, hgn, hg1, hcell, hrow⟩ := hat an2 hal
        subst hgn
        obtain ⟨d0, d1⟩ := (P1.out.below HB.out (by omega)).cells
        have hal2 : (an2 : Int) < (ls.length : Int) := by omega
        have hcn : wr.cell? ⟨g1, o1 + an2, none⟩ = some (.slice a2 ls[an2].length c2) := ((bth HB1.out HB.out (by omega)).cell (p := ⟨g1, o1 + an2, none⟩) hg1).trans hcell
        have HRW : Hid (∀ W, Below w.heap.size w W → RowV W (.slice a2 ls[an2].length c2) (I ls[an2])) := fun W h => hrow.below h
        have hgp : ∃ m, gk = m + 1 := by
          cases gk with
          | zero => exact absurd (farI_zero HG.out) (by omega)
          | succ m => exact ⟨m, rfl⟩
        obtain ⟨gm, rfl⟩ := hgp
        have HNX := Lib.hid (next_far (ls := ls) (t := t) (k := an2) (m := gm) (by have := HG.out; push_cast at this; exact this))
        have HNA2 := Lib.hid (needsAt_get hal)
        have hnl : ls[an2].length ≤ c2 ∧ c2 ≤ 2 ^ 63 - 1 := by
          obtain ⟨_, _, h, h', h4, _⟩ := hrow.ints
          unfold maxLen at h4
          injection h with _ _ h3; omega
        obtain ⟨hnl, hc2⟩ := hnl
        have hgm : gm ≤ 10 := by have h1 := HSM.out an2 hal; have h2 := HG.out; omega
        clear hat hcell
        go_wp2_with fail
        go_loopw [9, 32] (fun a9 i wz => ∃ j : Nat, a9 = .int .i64 (an2 : Int) ∧ j ≤ ls[an2].length ∧ i = .int .i64 (j : Int) ∧ Hid (∀ i (hi : i < j) (hi2 : i < ls[an2].length), farI ls t ls[an2][i] ≠ gm) ∧ Hid (wz.ownsRow w1.heap.size 3 1 (.slice oa (pre ++ [(an2 : Int)]).length oc) (pre ++ [(an2 : Int)]).length (I (pre ++ [(an2 : Int)]))) ∧ Hid (Below w1.heap.size w1 wz)) (fun _ i _ => ls[an2].length - (intOf i).toNat)
        case atStart => exact ⟨0, rfl, Nat.zero_le _, rfl, fun i hi => by omega, HO, HB⟩
        case round =>
          clear HO HB d0 d1 hcn
          obtain ⟨j, rfl, hj, rfl, HJ, HO, HB⟩ := hrel
          by_cases hlt : j < ls[an2].length
          · have hxm := HIN.out an2 hal ls[an2][j] (List.getElem_mem hlt)
            obtain ⟨kn, hkn⟩ : ∃ kn : Nat, ls[an2][j] = kn := ⟨ls[an2][j].toNat, by omega⟩
            have hkl : kn < ls.length := by omega
            have hkl2 : (kn : Int) < (ls.length : Int) := by omega
            obtain ⟨gr, or, hra, hcr⟩ : ∃ gr or, a2 = some ⟨gr, or, none⟩ ∧ wr.cell? ⟨gr, or + j, none⟩ = some (.int .i64 (kn : Int)) := by
              obtain ⟨aa, cc, h, _, _, hc⟩ := (HRW.out wr (bth HB1.out HB.out (by omega))).ints
              injection h with h1 _ _
              obtain ⟨gr, or, h2, _, h3⟩ := hc j hlt
              exact ⟨gr, or, by rw [h1, h2], by rw [h3, hkn]⟩
            subst hra
            have hcf := HFC.out wr HB.out kn hkl
            have hca := HFC.out wr HB.out an2 hal
            rw [HG.out] at hca
            have hwr : IntKind.i64.wrap (((gm + 1 : Nat) : Int) - 1) = (gm : Int) := by rw [IntKind.wrap_i64]; omega
            by_cases hm : farI ls t (kn : Int) = gm
            · rw [hm] at hcf
              have HN : Hid (nextI ls t (an2 : Int) = (kn : Int)) := by
                have h := next_at (ls := ls) (t := t) (k := an2) (j := j) (by rw [HNA2.out]; exact hlt) (fun i hi => by simp only [HNA2.out]; rw [HG.out]; have := HJ.out i hi (by omega); omega) (by simp only [HNA2.out]; rw [hkn, HG.out]; omega)
                simp only [HNA2.out] at h
                rw [hkn] at h
                exact h
              have HG2 : Hid (farI ls t (kn : Int) = (gm : Int)) := hm
              have HW2 : Hid (wayL ls t fx.toNat x = (pre ++ [(an2 : Int)]) ++ wayL ls t gm (kn : Int)) := by show _ = _; rw [HW.out, wayL, HN.out]; simp
              have HP2 : Hid ((pre ++ [(an2 : Int)]).length ≤ fx.toNat) := by
                have h := congrArg List.length HW2.out
                rw [List.length_append, wayL_len, wayL_len] at h
                show _ ≤ _; omega
              have hpl : (I (pre ++ [(an2 : Int)])).length ≤ 1000000 := by
                rw [I_len]
                have h1 := HP2.out; have h2 := HSM.out x hx; have h3 := HX.out; have h4 := HFX.out; omega
              have HNA := Lib.hid (own_Z HO.out)
              clear hkn hxm HJ HNX HNA2 HO HN hm HW HP
              generalize pre ++ [(an2 : Int)] = pr at *
              go_wp2_with fail
              go_quiet (fail)
              have HNB : Hid (∀ n, (wr.drewN n).ownsRow w1.heap.size 3 1 (.slice oa pr.length oc) (I pr).length (I pr)) := fun _ => HNA.out
              have HBB : Hid (∀ n, Below w1.heap.size w1 (wr.drewN n)) := fun n => below_drewN HB.out n
              go_wp2_with (at_builtin; refine wpAppOne elemI rfl _ _ rfl w1.heap.size _ (I pr) rfl (HNB.out _) _ rfl rfl rfl hpl (HBB.out _).size ?_; intro v7 w7 hown7 hg7; have HN7 := Lib.hid (own_Z2 hown7); have HB7 := Lib.hid ((HBB.out _).trans (below_own (HNB.out _) hg7 (HBB.out _).size)); clear hown7 hg7)
              go_roundg gm
              case measure => omega
              case rel => exact ⟨kn, pr, rfl, hkl, HG2, HN7, HW2, HP2, HB7⟩
            · have HJ2 : Hid (∀ i (hi : i < j + 1) (hi2 : i < ls[an2].length), farI ls t ls[an2][i] ≠ gm) := fun i hi hi2 => by
                by_cases h : i < j
                · exact HJ.out i h hi2
                · obtain rfl : i = j := by omega
                  rw [hkn]; exact hm
              have hme : (farI ls t (kn : Int) == (gm : Int)) = false := by simp [hm]
              have HNB : Hid (∀ n, (wr.drewN n).ownsRow w1.heap.size 3 1 (.slice oa (pre ++ [(an2 : Int)]).length oc) (pre ++ [(an2 : Int)]).length (I (pre ++ [(an2 : Int)]))) := fun _ => HO.out
              have HBB : Hid (∀ n, Below w1.heap.size w1 (wr.drewN n)) := fun n => below_drewN HB.out n
              clear hkn hxm HJ HNX HNA2 HO hm HW HP
              generalize farI ls t (kn : Int) = fk at hme hcf
              go_wp2_with fail
              go_quiet (fail)
              go_wp2_with fail
              go_roundw
              case rel => exact ⟨j + 1, rfl, by omega, by go_num, HJ2, HNB.out _, HBB.out _⟩
              case measure => simp [intOf]; omega
          · exfalso
            obtain ⟨h1, h2⟩ := HNX.out
            rw [HNA2.out] at h2
            obtain ⟨i, hi, he⟩ := List.getElem_of_mem h2
            exact HJ.out i (by omega) hi (by rw [he]; exact h1)
end Go.Proofs.YtcfhfhpdnjaokaaGreatDoor

/- Walks: the way round, told by the reference. -/
namespace Go.Proofs.YtcfhfhpdnjaokaaGreatDoor
open Go.RowKit Pth

noncomputable def loopA (ls : List (List Int)) (l : List Int) (t x : Int) : List Int := if taskG ls l t && taskG ls l x then loopL ls t x else []
theorem loopA_no {ls : List (List Int)} {l : List Int} {t x : Int} (h : (taskG ls l t && taskG ls l x) = false) : loopA ls l t x = [] := by unfold loopA; rw [h]; rfl
theorem loopA_yes {ls : List (List Int)} {l : List Int} {t x : Int} (h : (taskG ls l t && taskG ls l x) = true) : loopA ls l t x = loopL ls t x := by unfold loopA; rw [h]; rfl

end Go.Proofs.YtcfhfhpdnjaokaaGreatDoor

/- Counts along the order, as mathematics. -/
namespace Go.Proofs.YtcfhfhpdnjaokaaGreatDoor
open Go.RowKit Pth

structure Best (ls : List (List Int)) (t : Int) (u : Nat) (nd : List Int) (c : Int) : Prop where
  low : 0 ≤ c
  self : (u : Int) = t → c = 1
  least : ∀ x ∈ nd, 0 ≤ farI ls t x → 0 < c ∧ c ≤ farI ls t x + 2
  some : 0 < c → (u : Int) = t ∨ ∃ x ∈ nd, farI ls t x = c - 2 ∧ 0 ≤ farI ls t x
theorem Best.done {ls : List (List Int)} {t : Int} {u : Nat} {c : Int} (hu : u < ls.length) (h : Best ls t u ls[u] c) : c = farI ls t u + 1 := by
  by_cases he : (u : Int) = t
  · rw [h.self he, he, farI_self]; rfl
  · have hn := needsAt_get hu
    have hl := farI_low ls t u
    by_cases hc : 0 < c
    · rcases h.some hc with h1 | ⟨x, hx, hf, h0⟩
      · exact absurd h1 he
      · have h2 := far_edge (ls := ls) (t := t) (k := (u : Int)) (x := x) (by rw [hn]; exact hx) h0
        obtain ⟨m, hm⟩ : ∃ m : Nat, farI ls t u = (m : Int) + 1 := by
          refine ⟨(farI ls t u).toNat - 1, ?_⟩
          have : farI ls t u ≠ 0 := fun h => he (farI_zero h)
          omega
        obtain ⟨y, hy, hyf⟩ := far_next hm
        rw [hn] at hy
        have := h.least y hy (by omega)
        omega
    · have h0 : c = 0 := by have := h.low; omega
      by_cases hf : farI ls t u < 0
      · omega
      · obtain ⟨m, hm⟩ : ∃ m : Nat, farI ls t u = (m : Int) + 1 := by
          refine ⟨(farI ls t u).toNat - 1, ?_⟩
          have : farI ls t u ≠ 0 := fun h => he (farI_zero h)
          omega
        obtain ⟨y, hy, hyf⟩ := far_next hm
        rw [hn] at hy
        have := h.least y hy (by omega)
        omega

def at0 (out : List Int) (k : Int) : Int := out.getD k.toNat 0
theorem at0_get {out : List Int} {k : Nat} (hk : k < out.length) : at0 out (k : Int) = out[k] := by
  unfold at0
  rw [show ((k : Int)).toNat = k by omega, List.getD_eq_getElem?_getD, List.getElem?_eq_getElem hk]; rfl
theorem at0_set {out : List Int} {k j : Nat} {e : Int} (hk : k < out.length) : at0 (out.set k e) (j : Int) = if j = k then e else at0 out (j : Int) := by
  unfold at0
  rw [show ((j : Int)).toNat = j by omega, List.getD_eq_getElem?_getD, List.getD_eq_getElem?_getD, List.getElem?_set]
  by_cases h : j = k
  · subst h; simp [hk]
  · rw [if_neg h, if_neg (by omega)]

structure Cnt (ls : List (List Int)) (t : Int) (done out : List Int) : Prop where
  len : out.length = ls.length
  yes : ∀ j : Nat, j < ls.length → (j : Int) ∈ done → at0 out j = farI ls t j + 1
  no : ∀ j : Nat, j < ls.length → (j : Int) ∉ done → at0 out j = if (j : Int) = t then 1 else 0
structure CntI (ls : List (List Int)) (t : Int) (done : List Int) (u : Nat) (nd out : List Int) : Prop where
  len : out.length = ls.length
  yes : ∀ j : Nat, j < ls.length → (j : Int) ∈ done → at0 out j = farI ls t j + 1
  no : ∀ j : Nat, j < ls.length → (j : Int) ∉ done → j ≠ u → at0 out j = if (j : Int) = t then 1 else 0
  here : Best ls t u nd (at0 out u)
  un : (u : Int) ∉ done
theorem Cnt.start {ls : List (List Int)} {t : Nat} (ht : t < ls.length) : Cnt ls t [] ((List.replicate ls.length 0).set t 1) := by
  refine ⟨by simp, fun j hj h => by simp at h, fun j hj _ => ?_⟩
  rw [at0_set (by simpa using ht)]
  by_cases h : j = t
  · rw [if_pos h, if_pos (by omega)]
  · rw [if_neg h, if_neg (by omega), at0_get (by simpa using hj), List.getElem_replicate]
theorem Cnt.open {ls : List (List Int)} {t : Int} {done out : List Int} {u : Nat} (h : Cnt ls t done out) (hu : u < ls.length) (hn : (u : Int) ∉ done) : CntI ls t done u [] out := by
  refine ⟨h.len, h.yes, fun j hj hd _ => h.no j hj hd, ?_, hn⟩
  rw [h.no u hu hn]
  by_cases he : (u : Int) = t
  · rw [if_pos he]; exact ⟨by omega, fun _ => rfl, fun x hx => by simp at hx, fun _ => .inl he⟩
  · rw [if_neg he]; exact ⟨by omega, fun h => absurd h he, fun x hx => by simp at hx, fun h => by omega⟩
theorem CntI.close {ls : List (List Int)} {t : Int} {done out : List Int} {u : Nat} (hu : u < ls.length) (h : CntI ls t done u ls[u] out) : Cnt ls t (done ++ [(u : Int)]) out := by
  refine ⟨h.len, fun j hj hd => ?_, fun j hj hd => ?_⟩
  · rw [List.mem_append, List.mem_singleton] at hd
    rcases hd with hd | hd
    · exact h.yes j hj hd
    · obtain rfl : j = u := by omega
      exact h.here.done hu
  · rw [List.mem_append, List.mem_singleton, not_or] at hd
    exact h.no j hj hd.1 (by omega)
/-- One need seen: not better. -/
theorem CntI.skip {ls : List (List Int)} {t : Int} {done nd out : List Int} {u k : Nat} (h : CntI ls t done u nd out) (hk : k < ls.length) (hd : (k : Int) ∈ done) (hs : ¬ (0 < at0 out k ∧ (at0 out u = 0 ∨ at0 out k + 1 < at0 out u))) : CntI ls t done u (nd ++ [(k : Int)]) out := by
  have hf := h.yes k hk hd
  have hl := h.here.low
  refine ⟨h.len, h.yes, h.no, ⟨hl, h.here.self, fun x hx h0 => ?_, fun hc => ?_⟩, h.un⟩
  · rw [List.mem_append, List.mem_singleton] at hx
    rcases hx with hx | hx
    · exact h.here.least x hx h0
    · subst hx
      omega
  · rcases h.here.some hc with h1 | ⟨x, hx, h2⟩
    · exact .inl h1
    · exact .inr ⟨x, by simp [hx], h2⟩
/-- One need seen: better. -/
theorem CntI.put {ls : List (List Int)} {t : Int} {done nd out : List Int} {u k : Nat} (h : CntI ls t done u nd out) (hu : u < ls.length) (hk : k < ls.length) (hd : (k : Int) ∈ done) (hs : 0 < at0 out k ∧ (at0 out u = 0 ∨ at0 out k + 1 < at0 out u)) : CntI ls t done u (nd ++ [(k : Int)]) (out.set u (at0 out k + 1)) := by
  have hf := h.yes k hk hd
  have hl := h.here.low
  have hul : u < out.length := by rw [h.len]; exact hu
  refine ⟨by rw [List.length_set]; exact h.len, fun j hj hd' => ?_, fun j hj hd' hne => ?_, ?_, h.un⟩
  · rw [at0_set hul, if_neg (fun e => h.un (by rw [← e]; exact hd'))]
    exact h.yes j hj hd'
  · rw [at0_set hul, if_neg hne]
    exact h.no j hj hd' hne
  · rw [at0_set hul, if_pos rfl]
    refine ⟨by omega, fun he => ?_, fun x hx h0 => ?_, fun _ => ?_⟩
    · have := h.here.self he; omega
    · rw [List.mem_append, List.mem_singleton] at hx
      rcases hx with hx | hx
      · have := h.here.least x hx h0; omega
      · subst hx; omega
    · exact .inr ⟨k, by simp, by omega, by omega⟩
/-- The counts. -/
noncomputable def countL (ls : List (List Int)) (t : Int) : List Int := (upto ls.length).map (fun k => farI ls t k + 1)
theorem countL_len (ls : List (List Int)) (t : Int) : (countL ls t).length = ls.length := by unfold countL; rw [List.length_map, upto_len]
theorem countL_get {ls : List (List Int)} {t : Int} {j : Nat} (h : j < (countL ls t).length) : (countL ls t)[j] = farI ls t j + 1 := by
  have : ∀ (m : List Int) (h : j < m.length), m = (upto ls.length).map (fun k => farI ls t k + 1) → m[j] = farI ls t j + 1 := by
    intro m h e
    subst e
    simp [upto_get]
  exact this _ h rfl
theorem Cnt.done {ls : List (List Int)} {t : Int} {done out : List Int} (h : Cnt ls t done out) (ha : ∀ j : Nat, j < ls.length → (j : Int) ∈ done) : out = countL ls t := by
  refine List.ext_getElem (by rw [h.len, countL_len]) (fun j h1 h2 => ?_)
  have hj : j < ls.length := by rw [← h.len]; exact h1
  have := h.yes j hj (ha j hj)
  rw [at0_get h1] at this
  rw [this, countL_get]
end Go.Proofs.YtcfhfhpdnjaokaaGreatDoor

/- Walks: the counts of the program. -/
namespace Go.Proofs.YtcfhfhpdnjaokaaGreatDoor
open Go.RowKit Pth

end Go.Proofs.YtcfhfhpdnjaokaaGreatDoor

/- Walks: the way round, told by the program. -/
namespace Go.Proofs.YtcfhfhpdnjaokaaGreatDoor
open Go.RowKit Pth

theorem taskG_of {ls : List (List Int)} {l : List Int} {k : Int} (h : goodG ls l = true) : taskG ls l k = (decide (0 ≤ k) && decide (k < (ls.length : Int))) := by unfold taskG; rw [h]; rfl

end Go.Proofs.YtcfhfhpdnjaokaaGreatDoor

/- The way round is short. -/
namespace Go.Proofs.YtcfhfhpdnjaokaaGreatDoor
open Go.RowKit Pth

theorem loopA_short (ls : List (List Int)) (l : List Int) (t x : Int) : (loopA ls l t x).length ≤ 1000000 := by
  rcases h : taskG ls l t && taskG ls l x with _ | _
  · rw [loopA_no h]; simp
  · rw [loopA_yes h]
    rw [Bool.and_eq_true] at h
    have h1 := taskG_yes h.1
    have h2 := taskG_yes h.2
    unfold loopL
    by_cases hn : farI ls t x < 0
    · rw [if_pos hn]; simp
    · rw [if_neg hn, wayL_len]
      have := far_small (t := t) h1.1 h2.2
      omega
end Go.Proofs.YtcfhfhpdnjaokaaGreatDoor

/- Walks: the marked ones of a stretch. -/
namespace Go.Proofs.YtcfhfhpdnjaokaaGreatDoor
open Go.RowKit Pth

def markB (bs : List Bool) (k : Int) : Bool := bs.getD k.toNat false
theorem markB_get {bs : List Bool} {k : Nat} (hk : k < bs.length) : markB bs (k : Int) = bs[k] := by
  unfold markB
  rw [show ((k : Int)).toNat = k by omega, List.getD_eq_getElem?_getD, List.getElem?_eq_getElem hk]; rfl

end Go.Proofs.YtcfhfhpdnjaokaaGreatDoor

/- Walks: the users in a stretch, marked. -/
namespace Go.Proofs.YtcfhfhpdnjaokaaGreatDoor
open Go.RowKit Pth

/-- One user's needs seen. -/
def markOne (u : Nat) (bs : List Bool) (nd : List Int) : List Bool := nd.foldl (fun b x => b.set u (markB b u || markB b x)) bs
def markUs (ls : List (List Int)) (bs : List Bool) (st : List Int) : List Bool := st.foldl (fun b u => markOne u.toNat b (needsAt ls u)) bs
theorem markOne_len (u : Nat) (nd : List Int) : ∀ bs, (markOne u bs nd).length = bs.length := by
  unfold markOne
  induction nd with
  | nil => intro bs; rfl
  | cons x r ih => intro bs; rw [List.foldl_cons, ih, List.length_set]
theorem markOne_snoc (u : Nat) (bs : List Bool) (nd : List Int) (x : Int) : markOne u bs (nd ++ [x]) = (markOne u bs nd).set u (markB (markOne u bs nd) u || markB (markOne u bs nd) x) := by
  unfold markOne; rw [List.foldl_append]; rfl
theorem markUs_len (ls : List (List Int)) (st : List Int) : ∀ bs, (markUs ls bs st).length = bs.length := by
  unfold markUs
  induction st with
  | nil => intro bs; rfl
  | cons x r ih => intro bs; rw [List.foldl_cons, ih, markOne_len]
theorem markUs_snoc (ls : List (List Int)) (bs : List Bool) (st : List Int) (x : Int) : markUs ls bs (st ++ [x]) = markOne x.toNat (markUs ls bs st) (needsAt ls x) := by
  unfold markUs; rw [List.foldl_append]; rfl

set_option maxRecDepth 20000 in
set_option maxHeartbeats 8000000 in
theorem markUsers_any (ls : List (List Int)) (l st : List Int) (t : Nat) (bs : List Bool) (v s : Value) (gm cm : Nat) (w0 w : World) (hst : GraphV w0 v ls l) (hsr : RowV w0 s (I st)) (hb0 : Below w0.heap.size w0 w)
    (hown : w.ownsRow w0.heap.size 4 1 (.slice (some ⟨gm, 0, none⟩) bs.length cm) bs.length (Bo bs)) (hbl : bs.length = ls.length) (_h10 : ls.length ≤ 10) (ht : t < ls.length) (hin : ∀ x ∈ st, 0 ≤ x ∧ x < (ls.length : Int)) (hnd : ∀ k (hk : k < ls.length), ∀ x ∈ ls[k], 0 ≤ x ∧ x < (ls.length : Int)) :
    Calls Tryz.prog 159 #[v, s, .int .i64 (t : Int), .slice (some ⟨gm, 0, none⟩) bs.length cm] w fun e w' => e = .returned (.tuple #[]) ∧ Below w0.heap.size w0 w' ∧ w'.ownsRow w0.heap.size 4 1 (.slice (some ⟨gm, 0, none⟩) bs.length cm) bs.length (Bo (markUs ls (bs.set t true) st)) := by
  have HV := Lib.hid hst
  have HS := Lib.hid hsr
  obtain ⟨B, hBB⟩ : ∃ B, B = w0.heap.size := ⟨_, rfl⟩
  rw [← hBB] at hb0 hown
  rw [← hBB]
  have hB : B ≤ w.heap.size := by have := hb0.size; omega
  have HB00 := Lib.hid hb0
  have HBB := Lib.hid hBB
  obtain ⟨nv, ov, rfl, h1, h2⟩ := hst
  obtain ⟨an, cn, rfl, hn1, hn2, hat⟩ := h1.lists
  obtain ⟨ao, co, rfl, ho1, ho2, _⟩ := h2.ints
  obtain ⟨sa, sc, rfl, hs1, hs2, hsat⟩ := hsr.ints
  clear h1 h2 hsr
  unfold maxLen at hn2 ho2 hs2
  have HAT := Lib.hid hat
  have HSA := Lib.hid hsat
  have HIN := Lib.hid hin
  have HND := Lib.hid hnd
  clear hat hsat hin hnd hb0 hBB
  obtain ⟨wa, hwa⟩ : ∃ wa, wa = w.alloc (.cells #[.slice an ls.length cn, .slice ao l.length co] 26) := ⟨_, rfl⟩
  have P0 : Hid (Blk2 wa w.heap.size 26 (.slice an ls.length cn) (.slice ao l.length co)) := by rw [hwa]; exact Blk2.new
  have HA : Hid (Below B w0 wa) := by rw [hwa]; exact HB00.out.alloc hB _
  have hgl := hown.lt gm rfl
  have hBa : B ≤ wa.heap.size := by rw [hwa]; simp; omega
  have hcm : bs.length ≤ cm ∧ cm ≤ 2 ^ 63 - 1 := by
    rcases hown.2 with ⟨h, _⟩ | ⟨g, cap, cur, hv, _, _, hcap, hmx, _⟩
    · injection h with h _ _; cases h
    · unfold maxLen at hmx; injection hv with _ _ h3; omega
  obtain ⟨hcm1, hcm2⟩ := hcm
  have ho1' := hown.alloc (.cells #[.slice an ls.length cn, .slice ao l.length co] 26)
  have htb : t < bs.length := by omega
  have htb2 : (t : Int) < (bs.length : Int) := by omega
  have hfz := ho1'.frozenAt t
  have hcz : (w.alloc (.cells #[.slice an ls.length cn, .slice ao l.length co] 26)).cell? ⟨gm, t, none⟩ = some (.bool bs[t]) := by rw [ho1'.cellAt t (by omega), Bo_get? htb]
  have hst := ho1'.stored t (.bool true)
  rw [Bo_set] at hst
  obtain ⟨w2, hw2⟩ : ∃ w2, w2 = (w.alloc (.cells #[.slice an ls.length cn, .slice ao l.length co] 26)).setCell ⟨gm, t, none⟩ (.bool true) := ⟨_, rfl⟩
  rw [← hw2, ← hwa] at hst
  have HO0 := Lib.hid hst.1
  have HB0 := Lib.hid (HA.out.trans (only_below hst.2 hgl.1 hBa))
  have HP0 := Lib.hid (P0.out.beside hst.2 (by intro e; have := Option.some.inj e; omega))
  have HW2 := Lib.hid hw2
  have HBL := Lib.hid hbl
  have hg1 : B ≤ gm := hgl.1
  have hg2 : gm < w.heap.size := hgl.2
  have HG2 := Lib.hid hg2
  clear hown ho1' hst hw2 hwa hbl hgl hg2
  go_enter Tryz.func159, Tryz.ntmps159
  go_wp2_with fail
  rw [← HW2.out]
  clear hfz hcz HW2
  have HLN := Lib.hid (fun k => markUs_len ls (st.take k) (bs.set t true))
  go_loopw [17] (fun i wr => ∃ k : Nat, k ≤ st.length ∧ i = .int .i64 (k : Int) ∧ Hid (Below B w0 wr) ∧ Hid (Blk2 wr w.heap.size 26 (.slice an ls.length cn) (.slice ao l.length co)) ∧ Hid (wr.ownsRow B 4 1 (.slice (some ⟨gm, 0, none⟩) bs.length cm) bs.length (Bo (markUs ls (bs.set t true) (st.take k))))) (fun i _ => st.length - (intOf i).toNat)
  case atStart => exact ⟨0, Nat.zero_le _, rfl, HB0, HP0, HO0⟩
  case round =>
    clear HB0 HP0 HO0
    obtain ⟨k, hk, rfl, HB, HP, HO⟩ := hrel
    by_cases hlt : k < st.length
    · obtain ⟨un, hun⟩ : ∃ un : Nat, st[k] = un := ⟨st[k].toNat, by have := HIN.out st[k] (List.getElem_mem hlt); omega⟩
      have hul : un < ls.length := by have := HIN.out st[k] (List.getElem_mem hlt); omega
      have hul2 : (un : Int) < (ls.length : Int) := by omega
      obtain ⟨g, o, hgo, hgg, hcell0⟩ := HSA.out k hlt
      subst hgo
      have hcell : wr.cell? ⟨g, o + k, none⟩ = some (.int .i64 (un : Int)) := by rw [HB.out.cell (p := ⟨g, o + k, none⟩) (by rw [HBB.out]; exact hgg), hcell0, hun]
      obtain ⟨d0, d1⟩ := HP.out.cells
      obtain ⟨g1, o1, a2, c2, hgn, hg1', hcell1, hrow⟩ := HAT.out un hul
      have hcn : wr.cell? ⟨g1, o1 + un, none⟩ = some (.slice a2 ls[un].length c2) := by rw [HB.out.cell (p := ⟨g1, o1 + un, none⟩) (by rw [HBB.out]; exact hg1'), hcell1]
      have hnl : ls[un].length ≤ c2 ∧ c2 ≤ 2 ^ 63 - 1 := by
        obtain ⟨_, _, h, h', h4, _⟩ := hrow.ints
        unfold maxLen at h4
        injection h with _ _ h3; omega
      obtain ⟨hnl, hc2⟩ := hnl
      subst hgn
      have HBK : Hid (markUs ls (bs.set t true) (st.take (k + 1)) = markOne un (markUs ls (bs.set t true) (st.take k)) ls[un]) := by
        show _ = _
        rw [List.take_succ_eq_append_getElem hlt, markUs_snoc, hun, needsAt_get hul]
        rfl
      have hbk : (markUs ls (bs.set t true) (st.take k)).length = bs.length := by rw [markUs_len, List.length_set]
      have HRW : Hid (∀ W, Below B w0 W → ∀ m (hm : m < ls[un].length), ∃ gr or, a2 = some ⟨gr, or, none⟩ ∧ W.cell? ⟨gr, or + m, none⟩ = some (.int .i64 ls[un][m])) := by
        intro W hW m hm
        obtain ⟨_, _, h, _, _, hc⟩ := hrow.ints
        injection h with h1 _ _
        obtain ⟨gr, or, h2, h3, h4⟩ := hc m hm
        exact ⟨gr, or, by rw [h1, h2], by rw [hW.cell (p := ⟨gr, or + m, none⟩) (by rw [HBB.out]; exact h3), h4]⟩
      generalize markUs ls (bs.set t true) (st.take k) = bk at *
      have HBKL := Lib.hid hbk
      clear hcell0 hcell1 hrow hun hbk
      go_wp2_with fail
      clear hcell hcn d0 d1
      go_loopw [27] (fun i wz => ∃ m : Nat, m ≤ ls[un].length ∧ i = .int .i64 (m : Int) ∧ Hid (Below B w0 wz) ∧ Hid (Blk2 wz w.heap.size 26 (.slice (some ⟨g1, o1, none⟩) ls.length cn) (.slice ao l.length co)) ∧ Hid (wz.ownsRow B 4 1 (.slice (some ⟨gm, 0, none⟩) bs.length cm) bs.length (Bo (markOne un bk (ls[un].take m))))) (fun i _ => ls[un].length - (intOf i).toNat)
      case atStart => exact ⟨0, Nat.zero_le _, rfl, HB, HP, HO⟩
      case round =>
        clear HB HP HO
        obtain ⟨m, hm, rfl, HB, HP, HO⟩ := hrel
        by_cases hlt2 : m < ls[un].length
        · have hxm := HND.out un hul ls[un][m] (List.getElem_mem hlt2)
          obtain ⟨kn, hkn⟩ : ∃ kn : Nat, ls[un][m] = kn := ⟨ls[un][m].toNat, by omega⟩
          have hkl : kn < bs.length := by have := HBL.out; omega
          have hul3 : un < bs.length := by have := HBL.out; omega
          have hkl2 : (kn : Int) < (bs.length : Int) := by omega
          have hul4 : (un : Int) < (bs.length : Int) := by omega
          obtain ⟨gr, or, hra, hcr⟩ := HRW.out wr HB.out m hlt2
          subst hra
          rw [hkn] at hcr
          have hln : (markOne un bk (ls[un].take m)).length = bs.length := by rw [markOne_len, HBKL.out]
          have HE : Hid (markOne un bk (ls[un].take (m + 1)) = (markOne un bk (ls[un].take m)).set un (markB (markOne un bk (ls[un].take m)) un || markB (markOne un bk (ls[un].take m)) kn)) := by
            show _ = _
            rw [List.take_succ_eq_append_getElem hlt2, markOne_snoc, hkn]
          generalize markOne un bk (ls[un].take m) = bo at *
          have hcu : wr.cell? ⟨gm, un, none⟩ = some (.bool (markB bo un)) := by rw [HO.out.cellAt un (by omega), Bo_get? (by omega), markB_get (by omega)]
          have hck : wr.cell? ⟨gm, kn, none⟩ = some (.bool (markB bo kn)) := by rw [HO.out.cellAt kn (by omega), Bo_get? (by omega), markB_get (by omega)]
          have hf2 := HO.out.frozenAt un
          have hst := HO.out.stored un (.bool (markB bo un || markB bo kn))
          rw [Bo_set, ← HE.out] at hst
          have HO1 := Lib.hid hst.1
          have HB1 := Lib.hid (HB.out.trans (only_below hst.2 hg1 (by rw [HBB.out]; exact HB.out.size)))
          have HP1 := Lib.hid (HP.out.beside hst.2 (by intro e; have := Option.some.inj e; have := HG2.out; omega))
          clear hst HE hln hkn hxm HO HP HB
          generalize markB bo (un : Int) = bu at *
          generalize markB bo (kn : Int) = bn at *
          cases bu with
          | true =>
            go_wp2_with fail
            go_roundw
            case rel => exact ⟨m + 1, by omega, by go_num, HB1, HP1, HO1⟩
            case measure => simp [intOf]; omega
          | false =>
            rw [Bool.false_or] at HO1 HB1 HP1
            go_wp2_with fail
            go_roundw
            case rel => exact ⟨m + 1, by omega, by go_num, HB1, HP1, HO1⟩
            case measure => simp [intOf]; omega
        · rw [List.take_of_length_le (by omega), ← HBK.out] at HO
          go_wp2_with fail
          go_roundw
          case rel => exact ⟨k + 1, by omega, by go_num, HB, HP, HO⟩
          case measure => simp [intOf]; omega
    · rw [List.take_of_length_le (by omega)] at HO
      go_wp2_with fail
      go_end0
      exact ⟨rfl, HB.out, HO.out⟩
end Go.Proofs.YtcfhfhpdnjaokaaGreatDoor

/- Plain mathematics of what a change touches: what leads to some tasks and what they lead to; no program. -/
namespace Go.Proofs.YtcfhfhpdnjaokaaGreatDoor
namespace Pth

/-- What leads to one of some by needs. -/
inductive Up (ls : List (List Int)) (P : Int → Prop) : Int → Prop
  | base {k : Int} : P k → Up ls P k
  | step {k x : Int} : 0 ≤ k → x ∈ needsAt ls k → Up ls P x → Up ls P k
/-- What some lead to by needs. -/
inductive Dn (ls : List (List Int)) (P : Int → Prop) : Int → Prop
  | base {k : Int} : P k → Dn ls P k
  | step {k u : Int} : 0 ≤ u → k ∈ needsAt ls u → Dn ls P u → Dn ls P k

theorem needs_in {ls : List (List Int)} {k x : Int} (h0 : 0 ≤ k) (h : x ∈ needsAt ls k) : k < (ls.length : Int) := by
  unfold needsAt at h
  rcases Nat.lt_or_ge k.toNat ls.length with h1 | h1
  · omega
  · rw [List.getD_eq_getElem?_getD, List.getElem?_eq_none h1] at h
    simp at h
theorem Up.mono {ls : List (List Int)} {P Q : Int → Prop} (h : ∀ x, P x → Q x) {k : Int} (hk : Up ls P k) : Up ls Q k := by
  induction hk with
  | base hp => exact .base (h _ hp)
  | step h0 hx _ ih => exact .step h0 hx ih
theorem Up.twice {ls : List (List Int)} {P Q : Int → Prop} (h : ∀ x, P x → Up ls Q x) {k : Int} (hk : Up ls P k) : Up ls Q k := by
  induction hk with
  | base hp => exact h _ hp
  | step h0 hx _ ih => exact .step h0 hx ih
theorem Dn.twice {ls : List (List Int)} {P Q : Int → Prop} (h : ∀ x, P x → Dn ls Q x) {k : Int} (hk : Dn ls P k) : Dn ls Q k := by
  induction hk with
  | base hp => exact h _ hp
  | step h0 hx _ ih => exact .step h0 hx ih
theorem Dn.mono {ls : List (List Int)} {P Q : Int → Prop} (h : ∀ x, P x → Q x) {k : Int} (hk : Dn ls P k) : Dn ls Q k := hk.twice (fun x hx => .base (h x hx))
theorem Up.none {ls : List (List Int)} {k : Int} : ¬ Up ls (fun _ => False) k := by
  intro h
  induction h with
  | base h => exact h
  | step _ _ _ ih => exact ih
theorem Dn.none {ls : List (List Int)} {k : Int} : ¬ Dn ls (fun _ => False) k := by
  intro h
  induction h with
  | base h => exact h
  | step _ _ _ ih => exact ih

theorem GoodP.needs_take {ls : List (List Int)} {l : List Int} (h : GoodP ls l) {k : Nat} (hk : k < l.length) {x : Int} (hx : x ∈ needsAt ls l[k]) : x ∈ l.take k := by
  obtain ⟨t, ht, he, _, _, h2⟩ := h.each k hk
  rw [he, needsAt_get ht] at hx
  exact h2 x hx
theorem GoodP.all {ls : List (List Int)} {l : List Int} (h : GoodP ls l) {k : Int} : k ∈ l ↔ 0 ≤ k ∧ k < (ls.length : Int) :=
  ⟨h.range k, fun hk => all_there h.same h.nodup h.range hk⟩
theorem GoodP.self {ls : List (List Int)} {l : List Int} (h : GoodP ls l) {k : Nat} (hk : k < l.length) : l[k] ∉ needsAt ls l[k] := fun hx => nodup_at h.nodup hk (h.needs_take hk hx)
theorem Up.range {ls : List (List Int)} {P : Int → Prop} (hp : ∀ x, P x → 0 ≤ x ∧ x < (ls.length : Int)) {k : Int} (h : Up ls P k) : 0 ≤ k ∧ k < (ls.length : Int) := by
  cases h with
  | base h => exact hp _ h
  | step h0 hx _ => exact ⟨h0, needs_in h0 hx⟩
theorem Dn.range {ls : List (List Int)} {l : List Int} (hg : GoodP ls l) {P : Int → Prop} (hp : ∀ x, P x → 0 ≤ x ∧ x < (ls.length : Int)) {k : Int} (h : Dn ls P k) : 0 ≤ k ∧ k < (ls.length : Int) := by
  cases h with
  | base h => exact hp _ h
  | step h0 hx _ =>
    rename_i u hu
    have hul := hg.all.2 ⟨h0, needs_in h0 hx⟩
    obtain ⟨i, hi, rfl⟩ := List.getElem_of_mem hul
    exact hg.range _ (List.mem_of_mem_take (hg.needs_take hi hx))

/-- Along the order: one is marked where one that it needs is. -/
theorem up_along {ls : List (List Int)} {l : List Int} (hg : GoodP ls l) {P : Int → Prop} {S : Nat → Int → Prop} (h0 : ∀ y ∈ l, S 0 y ↔ P y)
    (hs : ∀ k (hk : k < l.length), ∀ y ∈ l, (S (k + 1) y ↔ S k y ∨ (y = l[k] ∧ ∃ x ∈ needsAt ls l[k], S k x))) :
    ∀ k, k ≤ l.length → ∀ y ∈ l, (S k y ↔ P y ∨ (y ∈ l.take k ∧ Up ls P y)) := by
  intro k
  induction k with
  | zero => intro _ y hy; rw [h0 y hy]; simp
  | succ k ih =>
    intro hk y hy
    have hk' : k < l.length := by omega
    rw [hs k hk' y hy, ih (by omega) y hy]
    have hu0 := (hg.range l[k] (List.getElem_mem hk')).1
    constructor
    · rintro ((h | ⟨h1, h2⟩) | ⟨rfl, x, hx, hxs⟩)
      · exact .inl h
      · exact .inr ⟨List.mem_of_mem_take (i := k) (by rw [List.take_take, Nat.min_eq_left (by omega)]; exact h1), h2⟩
      · have hxl := hg.needs_take hk' hx
        refine .inr ⟨by rw [List.take_succ_eq_append_getElem hk']; exact List.mem_append.2 (.inr (List.mem_singleton.2 rfl)), ?_⟩
        rcases (ih (by omega) x (List.mem_of_mem_take hxl)).1 hxs with h | ⟨_, h⟩
        · exact .step hu0 hx (.base h)
        · exact .step hu0 hx h
    · rintro (h | ⟨h1, h2⟩)
      · exact .inl (.inl h)
      · rw [List.take_succ_eq_append_getElem hk', List.mem_append, List.mem_singleton] at h1
        rcases h1 with h1 | rfl
        · exact .inl (.inr ⟨h1, h2⟩)
        · cases h2 with
          | base h => exact .inl (.inl h)
          | @step _ x _ hx hux =>
            have hxl := hg.needs_take hk' hx
            exact .inr ⟨rfl, x, hx, (ih (by omega) x (List.mem_of_mem_take hxl)).2 (.inr ⟨hxl, hux⟩)⟩
theorem up_whole {ls : List (List Int)} {l : List Int} (hg : GoodP ls l) {P : Int → Prop} {S : Nat → Int → Prop} (h0 : ∀ y ∈ l, S 0 y ↔ P y)
    (hs : ∀ k (hk : k < l.length), ∀ y ∈ l, (S (k + 1) y ↔ S k y ∨ (y = l[k] ∧ ∃ x ∈ needsAt ls l[k], S k x))) :
    ∀ y ∈ l, (S l.length y ↔ Up ls P y) := by
  intro y hy
  rw [up_along hg h0 hs l.length (Nat.le_refl _) y hy, List.take_length]
  constructor
  · rintro (h | ⟨_, h⟩)
    · exact .base h
    · exact h
  · exact fun h => .inr ⟨hy, h⟩

/-- Against the order: what one needs that is marked is marked. -/
theorem dn_along {ls : List (List Int)} {l : List Int} (hg : GoodP ls l) {P : Int → Prop} {S : Nat → Int → Prop} (h0 : ∀ y ∈ l, S 0 y ↔ P y)
    (hs : ∀ k (hk : k < l.length), ∀ y ∈ l, (S (l.length - k) y ↔ S (l.length - (k + 1)) y ∨ (S (l.length - (k + 1)) l[k] ∧ y ∈ needsAt ls l[k]))) :
    ∀ j, j ≤ l.length → ∀ y ∈ l, (S j y ↔ P y ∨ ∃ i, ∃ hi : i < l.length, l.length - j ≤ i ∧ Dn ls P l[i] ∧ y ∈ needsAt ls l[i]) := by
  intro j
  induction j with
  | zero =>
    intro _ y hy
    rw [h0 y hy]
    constructor
    · exact .inl
    · rintro (h | ⟨i, hi, h, _⟩)
      · exact h
      · omega
  | succ j ih =>
    intro hj y hy
    have hk : l.length - (j + 1) < l.length := by omega
    have hst := hs (l.length - (j + 1)) hk y hy
    rw [show l.length - (l.length - (j + 1)) = j + 1 by omega, show l.length - (l.length - (j + 1) + 1) = j by omega] at hst
    have hul := List.getElem_mem hk
    have hu0 := (hg.range _ hul).1
    have hU : S j l[l.length - (j + 1)] ↔ Dn ls P l[l.length - (j + 1)] := by
      rw [ih (by omega) _ hul]
      constructor
      · rintro (h | ⟨i, hi, _, h, hm⟩)
        · exact .base h
        · exact .step (hg.range _ (List.getElem_mem hi)).1 hm h
      · intro h
        cases h with
        | base h => exact .inl h
        | step hv0 hm hv =>
          rename_i v
          obtain ⟨i, hi, rfl⟩ := List.getElem_of_mem (hg.all.2 ⟨hv0, needs_in hv0 hm⟩)
          have h1 := (mem_take_pos.1 (hg.needs_take hi hm)).2
          rw [pos_nodup hg.nodup hk] at h1
          exact .inr ⟨i, hi, by omega, hv, hm⟩
    rw [hst, ih (by omega) y hy, hU]
    constructor
    · rintro ((h | ⟨i, hi, h1, h2, h3⟩) | ⟨h1, h2⟩)
      · exact .inl h
      · exact .inr ⟨i, hi, by omega, h2, h3⟩
      · exact .inr ⟨_, hk, Nat.le_refl _, h1, h2⟩
    · rintro (h | ⟨i, hi, h1, h2, h3⟩)
      · exact .inl (.inl h)
      · rcases Nat.lt_or_ge i (l.length - j) with h4 | h4
        · obtain rfl : i = l.length - (j + 1) := by omega
          exact .inr ⟨h2, h3⟩
        · exact .inl (.inr ⟨i, hi, h4, h2, h3⟩)
theorem dn_whole {ls : List (List Int)} {l : List Int} (hg : GoodP ls l) {P : Int → Prop} {S : Nat → Int → Prop} (h0 : ∀ y ∈ l, S 0 y ↔ P y)
    (hs : ∀ k (hk : k < l.length), ∀ y ∈ l, (S (l.length - k) y ↔ S (l.length - (k + 1)) y ∨ (S (l.length - (k + 1)) l[k] ∧ y ∈ needsAt ls l[k]))) :
    ∀ y ∈ l, (S l.length y ↔ Dn ls P y) := by
  intro y hy
  rw [dn_along hg h0 hs l.length (Nat.le_refl _) y hy]
  constructor
  · rintro (h | ⟨i, hi, _, h, hm⟩)
    · exact .base h
    · exact .step (hg.range _ (List.getElem_mem hi)).1 hm h
  · intro h
    cases h with
    | base h => exact .inl h
    | step hv0 hm hv =>
      obtain ⟨i, hi, rfl⟩ := List.getElem_of_mem (hg.all.2 ⟨hv0, needs_in hv0 hm⟩)
      exact .inr ⟨i, hi, by omega, hv, hm⟩

/-- The reference's list, one task's needs seen. -/
def touch1 (k : Int) (out nd : List Int) : List Int := nd.foldl (fun o x => if hasL o x then putL o k else o) out
def touchL (ls : List (List Int)) (out st : List Int) : List Int := st.foldl (fun o k => touch1 k o (needsAt ls k)) out
theorem touch1_mem {k : Int} {nd : List Int} (hk : k ∉ nd) : ∀ {out : List Int} {y : Int}, y ∈ touch1 k out nd ↔ y ∈ out ∨ (y = k ∧ ∃ x ∈ nd, x ∈ out) := by
  induction nd with
  | nil => intro out y; simp [touch1]
  | cons z r ih =>
    intro out y
    rw [List.mem_cons, not_or] at hk
    show y ∈ touch1 k (if hasL out z then putL out k else out) r ↔ _
    rw [ih hk.2]
    by_cases hz : z ∈ out
    · have : hasL out z = true := by simp [hasL, hz]
      rw [this, if_pos rfl, mem_put]
      constructor
      · rintro ((h | h) | ⟨h1, x, hx, h2⟩)
        · exact .inr ⟨h, z, by simp, hz⟩
        · exact .inl h
        · exact .inr ⟨h1, z, by simp, hz⟩
      · rintro (h | ⟨h1, _⟩)
        · exact .inl (.inr h)
        · exact .inl (.inl h1)
    · have : hasL out z = false := by simp [hasL, hz]
      rw [this, if_neg (by simp)]
      constructor
      · rintro (h | ⟨h1, x, hx, h2⟩)
        · exact .inl h
        · exact .inr ⟨h1, x, by simp [hx], h2⟩
      · rintro (h | ⟨h1, x, hx, h2⟩)
        · exact .inl h
        · rw [List.mem_cons] at hx
          rcases hx with rfl | hx
          · exact absurd h2 hz
          · exact .inr ⟨h1, x, hx, h2⟩
theorem touch1_rise {k : Int} (nd : List Int) : ∀ {out : List Int}, Rise out → Rise (touch1 k out nd) := by
  induction nd with
  | nil => intro out h; exact h
  | cons z r ih =>
    intro out h
    show Rise (touch1 k (if hasL out z then putL out k else out) r)
    apply ih
    split
    · exact put_rise h
    · exact h
theorem touch1_snoc (k : Int) (out nd : List Int) (x : Int) : touch1 k out (nd ++ [x]) = if hasL (touch1 k out nd) x then putL (touch1 k out nd) k else touch1 k out nd := by
  unfold touch1; rw [List.foldl_append]; rfl
theorem touchL_snoc (ls : List (List Int)) (out st : List Int) (k : Int) : touchL ls out (st ++ [k]) = touch1 k (touchL ls out st) (needsAt ls k) := by
  unfold touchL; rw [List.foldl_append]; rfl
theorem touchL_rise (ls : List (List Int)) (st : List Int) : ∀ {out : List Int}, Rise out → Rise (touchL ls out st) := by
  induction st with
  | nil => intro out h; exact h
  | cons z r ih => intro out h; exact ih (touch1_rise _ h)
theorem touchL_mem {ls : List (List Int)} {l : List Int} (hg : GoodP ls l) {cs : List Int} : ∀ y ∈ l, (y ∈ touchL ls cs l ↔ Up ls (· ∈ cs) y) := by
  have := up_whole hg (P := (· ∈ cs)) (S := fun k y => y ∈ touchL ls cs (l.take k)) (fun y _ => by simp [touchL]) (fun k hk y _ => by
    show y ∈ touchL ls cs (l.take (k + 1)) ↔ _
    rw [List.take_succ_eq_append_getElem hk, touchL_snoc, touch1_mem (hg.self hk)])
  simpa using this
theorem touchL_in {ls : List (List Int)} (n : Nat) {st : List Int} (hst : ∀ x ∈ st, 0 ≤ x ∧ x < (n : Int)) : ∀ {out : List Int}, (∀ x ∈ out, 0 ≤ x ∧ x < (n : Int)) → ∀ x ∈ touchL ls out st, 0 ≤ x ∧ x < (n : Int) := by
  induction st with
  | nil => intro out h; exact h
  | cons z r ih =>
    intro out h
    refine ih (fun x hx => hst x (by simp [hx])) (fun x hx => ?_)
    have hx' : x ∈ touch1 z out (needsAt ls z) := hx
    have key : ∀ (nd o : List Int), (∀ x ∈ o, 0 ≤ x ∧ x < (n : Int)) → ∀ x ∈ touch1 z o nd, 0 ≤ x ∧ x < (n : Int) := by
      intro nd
      induction nd with
      | nil => intro o h; exact h
      | cons a b ihb =>
        intro o ho
        refine ihb _ (fun x hx0 => ?_)
        have hx : x ∈ (if hasL o a then putL o z else o) := hx0
        split at hx
        · rcases mem_put.1 hx with rfl | hx
          · exact hst _ (by simp)
          · exact ho x hx
        · exact ho x hx
    exact key _ _ h x hx'

open Classical in
/-- What leads to one of some, rising. -/
noncomputable def touchS (ls : List (List Int)) (cs : List Int) : List Int := (upto ls.length).filter (fun y => decide (Up ls (· ∈ cs) y))
open Classical in
/-- What some lead to, rising. -/
noncomputable def needS (ls : List (List Int)) (cs : List Int) : List Int := (upto ls.length).filter (fun y => decide (Dn ls (· ∈ cs) y))
theorem mem_touchS {ls : List (List Int)} {cs : List Int} {y : Int} : y ∈ touchS ls cs ↔ (0 ≤ y ∧ y < (ls.length : Int)) ∧ Up ls (· ∈ cs) y := by
  unfold touchS; rw [List.mem_filter, mem_upto, @decide_eq_true_iff _ (Classical.propDecidable _)]
theorem mem_needS {ls : List (List Int)} {cs : List Int} {y : Int} : y ∈ needS ls cs ↔ (0 ≤ y ∧ y < (ls.length : Int)) ∧ Dn ls (· ∈ cs) y := by
  unfold needS; rw [List.mem_filter, mem_upto, @decide_eq_true_iff _ (Classical.propDecidable _)]
theorem filter_rise {p : Int → Bool} {l : List Int} (h : Rise l) : Rise (l.filter p) := List.Pairwise.filter p h
theorem touchS_rise (ls : List (List Int)) (cs : List Int) : Rise (touchS ls cs) := filter_rise (upto_rise _)
theorem needS_rise (ls : List (List Int)) (cs : List Int) : Rise (needS ls cs) := filter_rise (upto_rise _)
theorem touchS_len (ls : List (List Int)) (cs : List Int) : (touchS ls cs).length ≤ ls.length := by
  have := List.length_filter_le (fun y => @decide (Up ls (· ∈ cs) y) (Classical.propDecidable _)) (upto ls.length)
  rw [upto_len] at this; exact this
theorem needS_len (ls : List (List Int)) (cs : List Int) : (needS ls cs).length ≤ ls.length := by
  have := List.length_filter_le (fun y => @decide (Dn ls (· ∈ cs) y) (Classical.propDecidable _)) (upto ls.length)
  rw [upto_len] at this; exact this
theorem touchL_is {ls : List (List Int)} {l cs : List Int} (hg : GoodP ls l) (hr : Rise cs) (hc : ∀ x ∈ cs, 0 ≤ x ∧ x < (ls.length : Int)) : touchL ls cs l = touchS ls cs := by
  refine rise_ext (touchL_rise _ _ hr) (touchS_rise _ _) (fun x => ?_)
  rw [mem_touchS]
  constructor
  · intro h
    have hx := touchL_in ls.length hg.range hc x h
    exact ⟨hx, (touchL_mem hg x (hg.all.2 hx)).1 h⟩
  · rintro ⟨hx, h⟩
    exact (touchL_mem hg x (hg.all.2 hx)).2 h

/-- The reference's list of what is needed: one task seen. -/
def need1 (out nd : List Int) : List Int := nd.foldl putL out
theorem need1_mem {nd : List Int} : ∀ {out : List Int} {y : Int}, y ∈ need1 out nd ↔ y ∈ out ∨ y ∈ nd := by
  induction nd with
  | nil => intro out y; simp [need1]
  | cons z r ih =>
    intro out y
    show y ∈ need1 (putL out z) r ↔ _
    rw [ih, mem_put, List.mem_cons]
    constructor
    · rintro ((h | h) | h) <;> simp [h]
    · rintro (h | h | h) <;> simp [h]
theorem need1_rise (nd : List Int) : ∀ {out : List Int}, Rise out → Rise (need1 out nd) := by
  induction nd with
  | nil => intro out h; exact h
  | cons z r ih => intro out h; exact ih (put_rise h)
theorem need1_snoc (out nd : List Int) (x : Int) : need1 out (nd ++ [x]) = putL (need1 out nd) x := by
  unfold need1; rw [List.foldl_append]; rfl
/-- From the place k on to the end, seen from the back. -/
def needF (ls : List (List Int)) (cs : List Int) (st : List Int) : List Int := st.foldr (fun k o => if hasL o k then need1 o (needsAt ls k) else o) cs
theorem needF_rise (ls : List (List Int)) (cs : List Int) (h : Rise cs) (st : List Int) : Rise (needF ls cs st) := by
  induction st with
  | nil => exact h
  | cons z r ih =>
    show Rise (if hasL (needF ls cs r) z then need1 (needF ls cs r) (needsAt ls z) else needF ls cs r)
    split
    · exact need1_rise _ ih
    · exact ih
theorem needF_drop {ls : List (List Int)} {cs l : List Int} {k : Nat} (hk : k < l.length) : needF ls cs (l.drop k) = if hasL (needF ls cs (l.drop (k + 1))) l[k] then need1 (needF ls cs (l.drop (k + 1))) (needsAt ls l[k]) else needF ls cs (l.drop (k + 1)) := by
  rw [List.drop_eq_getElem_cons hk]; rfl
theorem needF_mem {ls : List (List Int)} {l : List Int} (hg : GoodP ls l) {cs : List Int} : ∀ y ∈ l, (y ∈ needF ls cs l ↔ Dn ls (· ∈ cs) y) := by
  have := dn_whole hg (P := (· ∈ cs)) (S := fun j y => y ∈ needF ls cs (l.drop (l.length - j))) (fun y _ => by simp [needF]) (fun k hk y _ => by
    show y ∈ needF ls cs (l.drop (l.length - (l.length - k))) ↔ y ∈ needF ls cs (l.drop (l.length - (l.length - (k + 1)))) ∨ (l[k] ∈ needF ls cs (l.drop (l.length - (l.length - (k + 1)))) ∧ _)
    rw [show l.length - (l.length - k) = k by omega, show l.length - (l.length - (k + 1)) = k + 1 by omega, needF_drop hk]
    by_cases h : l[k] ∈ needF ls cs (l.drop (k + 1))
    · have : hasL (needF ls cs (l.drop (k + 1))) l[k] = true := by simp [hasL, h]
      rw [this, if_pos rfl, need1_mem]
      simp [h]
    · have : hasL (needF ls cs (l.drop (k + 1))) l[k] = false := by simp [hasL, h]
      rw [this, if_neg (by simp)]
      simp [h])
  simpa using this
theorem needF_in {ls : List (List Int)} {n : Nat} {cs : List Int} (hls : ∀ k : Nat, ∀ x ∈ needsAt ls (k : Int), 0 ≤ x ∧ x < (n : Int)) (hc : ∀ x ∈ cs, 0 ≤ x ∧ x < (n : Int)) (st : List Int) (hst : ∀ x ∈ st, 0 ≤ x ∧ x < (n : Int)) : ∀ x ∈ needF ls cs st, 0 ≤ x ∧ x < (n : Int) := by
  induction st with
  | nil => exact hc
  | cons z r ih =>
    intro x hx
    have ih' := ih (fun x hx => hst x (by simp [hx]))
    have hz := hst z (by simp)
    have hx' : x ∈ (if hasL (needF ls cs r) z then need1 (needF ls cs r) (needsAt ls z) else needF ls cs r) := hx
    split at hx'
    · rcases need1_mem.1 hx' with h | h
      · exact ih' x h
      · exact hls z.toNat x (by rw [show ((z.toNat : Nat) : Int) = z by omega]; exact h)
    · exact ih' x hx'
theorem GoodP.needs_range {ls : List (List Int)} {l : List Int} (hg : GoodP ls l) (k : Nat) : ∀ x ∈ needsAt ls (k : Int), 0 ≤ x ∧ x < (ls.length : Int) := by
  intro x hx
  obtain ⟨i, hi, he⟩ := List.getElem_of_mem (hg.all.2 ⟨by omega, needs_in (by omega) hx⟩)
  exact hg.range x (List.mem_of_mem_take (hg.needs_take hi (by rw [he]; exact hx)))
theorem needF_is {ls : List (List Int)} {l cs : List Int} (hg : GoodP ls l) (hr : Rise cs) (hc : ∀ x ∈ cs, 0 ≤ x ∧ x < (ls.length : Int)) : needF ls cs l = needS ls cs := by
  refine rise_ext (needF_rise _ _ hr _) (needS_rise _ _) (fun x => ?_)
  rw [mem_needS]
  constructor
  · intro h
    have hx := needF_in hg.needs_range hc l hg.range x h
    exact ⟨hx, (needF_mem hg x (hg.all.2 hx)).1 h⟩
  · rintro ⟨hx, h⟩
    exact (needF_mem hg x (hg.all.2 hx)).2 h

/-- None that is not among some needs one of them. -/
def Shut (ls : List (List Int)) (cs : List Int) : Prop := ∀ u : Nat, u < ls.length → (u : Int) ∉ cs → ∀ x ∈ needsAt ls u, x ∉ cs
theorem shut_touch {ls : List (List Int)} {cs : List Int} (h : Shut ls cs) (hr : Rise cs) (hc : ∀ x ∈ cs, 0 ≤ x ∧ x < (ls.length : Int)) : touchS ls cs = cs := by
  refine rise_ext (touchS_rise _ _) hr (fun x => ?_)
  rw [mem_touchS]
  constructor
  · rintro ⟨hr0, hu⟩
    clear hr0
    induction hu with
    | base h => exact h
    | @step k x h0 hx _ ih =>
      have hk := needs_in h0 hx
      rcases Classical.em (k ∈ cs) with hm | hm
      · exact hm
      · exact absurd ih (h k.toNat (by omega) (by rw [show ((k.toNat : Nat) : Int) = k by omega]; exact hm) x (by rw [show ((k.toNat : Nat) : Int) = k by omega]; exact hx))
  · exact fun h => ⟨hc x h, .base h⟩
theorem rise_nodup {l : List Int} (h : Rise l) : l.Nodup := List.Pairwise.imp (fun h => by omega) h
theorem touch_shut {ls : List (List Int)} {cs : List Int} (hr : Rise cs) (hc : ∀ x ∈ cs, 0 ≤ x ∧ x < (ls.length : Int)) (h : (touchS ls cs).length = cs.length) : Shut ls cs := by
  intro u hu hn x hx hm
  have hm' : (u : Int) ∈ touchS ls cs := mem_touchS.2 ⟨by omega, .step (by omega) hx (.base hm)⟩
  have := nodup_sub (a := (u : Int) :: cs) (b := touchS ls cs) (List.nodup_cons.2 ⟨hn, rise_nodup hr⟩) (fun y hy => by
    rw [List.mem_cons] at hy
    rcases hy with rfl | hy
    · exact hm'
    · exact mem_touchS.2 ⟨hc y hy, .base hy⟩)
  rw [List.length_cons, h] at this
  omega
open Classical in
noncomputable def shutB (ls : List (List Int)) (cs : List Int) : Bool := decide (Shut ls cs)
theorem shutB_len {ls : List (List Int)} {cs : List Int} (hr : Rise cs) (hc : ∀ x ∈ cs, 0 ≤ x ∧ x < (ls.length : Int)) : decide ((touchS ls cs).length = cs.length) = shutB ls cs := by
  unfold shutB
  rw [Bool.eq_iff_iff, decide_eq_true_iff, @decide_eq_true_iff _ (Classical.propDecidable _)]
  exact ⟨touch_shut hr hc, fun h => by rw [shut_touch h hr hc]⟩
theorem sort_filter {s l : List Int} {n : Nat} {p : Int → Bool} (hn : l.Nodup) (hm : ∀ x, x ∈ l ↔ 0 ≤ x ∧ x < (n : Int)) (hp : s.Perm (l.filter p)) (hs : s.Pairwise (· ≤ ·)) : s = (upto n).filter p := by
  have hd : s.Nodup := hp.nodup_iff.2 (hn.filter p)
  have hr : Rise s := by
    unfold Rise
    have h2 := List.Pairwise.and hs hd
    exact h2.imp (fun h => by omega)
  refine rise_ext hr (filter_rise (upto_rise n)) (fun x => ?_)
  rw [hp.mem_iff, List.mem_filter, List.mem_filter, hm, mem_upto]
end Pth
end Go.Proofs.YtcfhfhpdnjaokaaGreatDoor

/- Walks: those that a test picks, in the order and rising; the test is a function value. -/
namespace Go.Proofs.YtcfhfhpdnjaokaaGreatDoor
open Go.RowKit Pth

/-- A yes-or-no, and only new memory is written. -/
def BoolB (b : Bool) (w : World) (e : Ending) (w' : World) : Prop := e = .returned (.bool b) ∧ Below w.heap.size w w'
/-- A function value that tells of each number of D whether p holds. -/
def TestV (w0 : World) (fv : Value) (D : Int → Prop) (p : Int → Bool) : Prop :=
  ∃ K cap, fv = .func (.func K) #[] cap ∧ (∀ args w, (callFunc K args).run Tryz.prog w = .ok (.enter K args) w) ∧ ∀ W, Below w0.heap.size w0 W → ∀ x, D x → Calls Tryz.prog K (#[.int .i64 x] ++ cap) W (BoolB (p x) W)
theorem TestV.below {w w' : World} {fv : Value} {D : Int → Prop} {p : Int → Bool} (h : TestV w fv D p) (hb : Below w.heap.size w w') : TestV w' fv D p := by
  obtain ⟨K, cap, h1, h2, h3⟩ := h
  exact ⟨K, cap, h1, h2, fun W hW x hx => h3 W (bth hb hW (Nat.le_refl _)) x hx⟩
theorem filter_yes {l : List Int} {p : Int → Bool} {k : Nat} (hk : k < l.length) (h : p l[k] = true) : (l.take (k + 1)).filter p = (l.take k).filter p ++ [l[k]] := by
  rw [List.take_succ_eq_append_getElem hk, List.filter_append, List.filter_cons, h]; rfl
theorem filter_no {l : List Int} {p : Int → Bool} {k : Nat} (hk : k < l.length) (h : p l[k] = false) : (l.take (k + 1)).filter p = (l.take k).filter p := by
  rw [List.take_succ_eq_append_getElem hk, List.filter_append, List.filter_cons, h]; simp

set_option maxRecDepth 20000 in
set_option maxHeartbeats 4000000 in
theorem ordered_any (ls : List (List Int)) (l : List Int) (p : Int → Bool) (v fv : Value) (w : World) (hst : GraphV w v ls l) (ht : TestV w fv (· ∈ l) p) (h10 : l.length ≤ 1000) :
    Calls Tryz.prog 152 #[v, fv] w (IntsPost w.heap.size (l.filter p) w) := by
  obtain ⟨nv, ov, rfl, h1, h2⟩ := hst
  obtain ⟨an, cn, rfl, hn1, hn2, _⟩ := h1.lists
  obtain ⟨ao, co, rfl, ho1, ho2, hao⟩ := h2.ints
  clear h1 h2
  unfold maxLen at hn2 ho2
  obtain ⟨K, cap, rfl, hent, ht⟩ := ht
  have HT := Lib.hid ht
  have HAO := Lib.hid hao
  clear hao ht
  obtain ⟨wa, hwa⟩ : ∃ wa, wa = w.alloc (.cells #[.slice an ls.length cn, .slice ao l.length co] 26) := ⟨_, rfl⟩
  have HA : Hid (Below w.heap.size w wa) := by rw [hwa]; exact (Below.refl w.heap.size w).alloc (Nat.le_refl _) _
  have HWA := Lib.hid hwa
  clear hwa
  go_enter Tryz.func152, Tryz.ntmps152
  go_wp2_with fail
  rw [← HWA.out]
  go_loopw [5, 11] (fun q i wr => ∃ k : Nat, k ≤ l.length ∧ i = .int .i64 k ∧ Hid (Below w.heap.size w wr) ∧ Hid (wr.ownsRow w.heap.size 3 1 q ((l.take k).filter p).length (I ((l.take k).filter p)))) (fun _ i _ => l.length - (intOf i).toNat)
  case atStart => exact ⟨0, Nat.zero_le _, rfl, HA, none_ownZ _ _ _⟩
  case round =>
    obtain ⟨k, hk, rfl, HB, HN⟩ := hrel
    by_cases hlt : k < l.length
    · obtain ⟨g, o, rfl, hg, hc⟩ := HAO.out k hlt
      have hc1 : wr.cell? ⟨g, o + k, none⟩ = some (.int .i64 l[k]) := by rw [HB.out.cell (p := ⟨g, o + k, none⟩) hg, hc]
      have HC := HT.out wr HB.out l[k] (List.getElem_mem hlt)
      have hfl : ((l.take k).filter p).length ≤ k := by have := List.length_filter_le p (l.take k); rw [List.length_take] at this; omega
      rcases hb : p l[k] with _ | _
      · have HE := Lib.hid (filter_no hlt hb)
        rw [hb] at HC
        have HCC := Lib.hid HC
        obtain ⟨qa, qc, hq⟩ := own_slice HN.out
        subst hq
        clear hc hb HC hfl
        generalize l[k] = x at *
        go_wp2_with fail
        refine HCC.out.mono ?_
        rintro e w2 ⟨rfl, hb2⟩
        have HB2 := Lib.hid (bth HB.out hb2 (Nat.le_refl _))
        have HN2 := Lib.hid (own_below HN.out hb2)
        clear hb2
        go_wp2_with fail
        go_roundw
        case rel => exact ⟨k + 1, by omega, by go_num, HB2, by rw [HE.out]; exact HN2.out⟩
        case measure => simp [intOf]; omega
      · have HE := Lib.hid (filter_yes hlt hb)
        rw [hb] at HC
        have HCC := Lib.hid HC
        have hIl : (I ((l.take k).filter p)).length ≤ 1000000 := by rw [I_len]; omega
        clear hc hb HC hfl
        generalize l[k] = x at *
        generalize (l.take k).filter p = m at *
        go_wp2_with fail
        refine HCC.out.mono ?_
        rintro e w2 ⟨rfl, hb2⟩
        have HB2 := Lib.hid (bth HB.out hb2 (Nat.le_refl _))
        have HNA := Lib.hid (own_Z (own_below HN.out hb2))
        clear hb2 HN
        go_wp2_with (at_builtin; refine wpAppOne elemI rfl _ _ rfl w.heap.size _ (I m) rfl HNA.out _ rfl rfl rfl hIl HB2.out.size ?_; intro v7 w7 hown7 hg7; have HN7 := Lib.hid (own_Z2 hown7); have HB7 := Lib.hid (HB2.out.trans (below_own HNA.out hg7 HB2.out.size)); clear hown7 hg7)
        go_roundw
        case rel => exact ⟨k + 1, by omega, by go_num, HB7, by rw [HE.out]; exact HN7.out⟩
        case measure => simp [intOf]; omega
    · rw [List.take_of_length_le (by omega)] at HN
      obtain ⟨qa, qc, hq⟩ := own_slice HN.out
      subst hq
      go_wp2_with fail
      go_ret
      exact ⟨_, rfl, HN.out, HB.out⟩
end Go.Proofs.YtcfhfhpdnjaokaaGreatDoor

/- Walks: risingWhere, areTasks, slices.ContainsFunc at a function value, the test whether a number is among some. -/
namespace Go.Proofs.YtcfhfhpdnjaokaaGreatDoor
open Go.RowKit Pth

theorem rising_is {ls : List (List Int)} {l : List Int} (hg : GoodP ls l) (p : Int → Bool) : sortI (l.filter p) = (upto ls.length).filter p :=
  sort_filter hg.nodup (fun _ => hg.all) (sortI_perm _) (sortI_sorted _)

set_option maxRecDepth 20000 in
set_option maxHeartbeats 2000000 in
theorem rising_any (ls : List (List Int)) (l : List Int) (p : Int → Bool) (v fv : Value) (w : World) (hst : GraphV w v ls l) (ht : TestV w fv (· ∈ l) p) (hg : GoodP ls l) :
    Calls Tryz.prog 98 #[v, fv] w (IntsPost w.heap.size ((upto ls.length).filter p) w) := by
  have HV := Lib.hid hst
  have HT := Lib.hid ht
  have HE := Lib.hid (rising_is hg p)
  have h10 : l.length ≤ 10 := by have := hg.same; have := hg.high; omega
  obtain ⟨nv, ov, rfl, h1, h2⟩ := hst
  obtain ⟨an, cn, rfl, hn1, hn2, _⟩ := h1.lists
  obtain ⟨ao, co, rfl, ho1, ho2, _⟩ := h2.ints
  clear h1 h2 ht hg
  unfold maxLen at hn2 ho2
  obtain ⟨wa, hwa⟩ : ∃ wa, wa = w.alloc (.cells #[.slice an ls.length cn, .slice ao l.length co] 26) := ⟨_, rfl⟩
  have P0 : Hid (Blk2 wa w.heap.size 26 (.slice an ls.length cn) (.slice ao l.length co)) := by rw [hwa]; exact Blk2.new
  have HA : Hid (Below w.heap.size w wa) := by rw [hwa]; exact (Below.refl w.heap.size w).alloc (Nat.le_refl _) _
  have HWA := Lib.hid hwa
  have c0 := P0.out.cells.1
  have c1 := P0.out.cells.2
  have HC := Lib.hid (ordered_any ls l p _ fv wa (HV.out.below HA.out) (HT.out.below HA.out) (by omega))
  have hfl : (l.filter p).length ≤ 10 := by have := List.length_filter_le p l; omega
  have HS := Lib.hid (fun u B W ho hB => sortInts_any (l.filter p) u B W ho (by omega) hB)
  clear hwa hfl
  generalize l.filter p = m at *
  go_enter Tryz.func98, Tryz.ntmps98
  go_wp2_with fail
  rw [← HWA.out]
  refine HC.out.mono ?_
  rintro e w1 ⟨v1, rfl, ho1', hb1⟩
  have HB1 := Lib.hid (bth HA.out hb1 (Nat.le_refl _))
  have HO1 := Lib.hid ho1'
  obtain ⟨qa, qc, hq⟩ := own_slice ho1'
  subst hq
  have hs1 := hb1.size
  clear ho1' hb1 c0 c1 HC
  go_wp2_with fail
  refine (HS.out _ wa.heap.size w1 HO1.out hs1).mono ?_
  rintro e w2 ⟨rfl, ho2', hb2⟩
  have HO2 := Lib.hid ho2'
  rw [HE.out] at HO2
  have HB2 := Lib.hid (HB1.out.trans (hb2.mono HA.out.size))
  clear ho2' hb2
  go_wp2_with fail
  go_ret
  exact ⟨_, rfl, own_base HO2.out HA.out.size, HB2.out⟩

set_option maxRecDepth 20000 in
set_option maxHeartbeats 4000000 in
theorem areTasks_any (ls : List (List Int)) (l cs : List Int) (v u : Value) (w : World) (hst : GraphV w v ls l) (hrow : RowV w u (I cs)) :
    Calls Tryz.prog 105 #[v, u] w (BoolB (riseB 0 ((ls.length : Int) - 1) cs) w) := by
  have HV := Lib.hid hst
  obtain ⟨nv, ov, rfl, h1, h2⟩ := hst
  obtain ⟨an, cn, rfl, hn1, hn2, _⟩ := h1.lists
  obtain ⟨ao, co, rfl, ho1, ho2, _⟩ := h2.ints
  obtain ⟨a, cap, rfl, hc1, hc2, hat⟩ := hrow.ints
  clear h1 h2 hrow
  unfold maxLen at hn2 ho2 hc2
  have HAT := Lib.hid hat
  obtain ⟨wa, hwa⟩ : ∃ wa, wa = w.alloc (.cells #[.slice an ls.length cn, .slice ao l.length co] 26) := ⟨_, rfl⟩
  have P0 : Hid (Blk2 wa w.heap.size 26 (.slice an ls.length cn) (.slice ao l.length co)) := by rw [hwa]; exact Blk2.new
  have HA : Hid (Below w.heap.size w wa) := by rw [hwa]; exact (Below.refl w.heap.size w).alloc (Nat.le_refl _) _
  have hsz : w.heap.size < wa.heap.size := by rw [hwa]; simp
  have HWA := Lib.hid hwa
  clear hwa hat
  go_enter Tryz.func105, Tryz.ntmps105
  go_wp2_with fail
  rw [← HWA.out]
  go_loopw [9] (fun i wr => ∃ k : Nat, k ≤ cs.length ∧ i = .int .i64 k ∧ Hid (Rise (cs.take k) ∧ Within 0 ((ls.length : Int) - 1) (cs.take k)) ∧ Hid (Below wa.heap.size wa wr)) (fun i _ => cs.length - (intOf i).toNat)
  case atStart => exact ⟨0, Nat.zero_le _, rfl, by simp [Rise, Hid, Within], Below.refl _ _⟩
  case round =>
    obtain ⟨k, hk, rfl, HO, HB⟩ := hrel
    have HBW := Lib.hid (bth HA.out HB.out (Nat.le_refl _))
    by_cases hlt : k < cs.length
    · obtain ⟨g, o, rfl, hg, hcell0⟩ := HAT.out k hlt
      have hcell : wr.cell? ⟨g, o + k, none⟩ = some (.int .i64 cs[k]) := by rw [HBW.out.cell (p := ⟨g, o + k, none⟩) hg]; exact hcell0
      obtain ⟨d0, d1⟩ := (P0.out.below HB.out hsz).cells
      clear hcell0
      by_cases hr : 0 ≤ cs[k] ∧ cs[k] < (ls.length : Int)
      · have CT := Lib.hid (isTask_b (HV.out.below HBW.out) (show (decide (0 ≤ cs[k]) && decide (cs[k] < (ls.length : Int))) = true by simp [hr]))
        by_cases h0 : 0 < k
        · obtain ⟨g', o', hA, hg', hcell1⟩ := HAT.out (k - 1) (by omega)
          obtain ⟨rfl, rfl⟩ := addr_inj hA
          clear hA
          have hk0 : decide ((k : Int) > 0) = true := by simp; omega
          have HPR : Hid (∀ W, Below wr.heap.size wr W → W.cell? ⟨g, o + (k - 1), none⟩ = some (.int .i64 cs[k - 1])) := fun W hW => by
            rw [(bth HBW.out hW (Nat.le_refl _)).cell (p := ⟨g, o + (k - 1), none⟩) hg']; exact hcell1
          clear hcell1
          by_cases hy : cs[k - 1] < cs[k]
          · have HR : Hid (Rise (cs.take (k + 1)) ∧ Within 0 ((ls.length : Int) - 1) (cs.take (k + 1))) := rise_next hlt HO.out hr.1 (by omega) (fun _ => hy)
            have hy1 : decide (cs[k - 1] ≥ cs[k]) = false := by simp; omega
            clear HO hr hy
            generalize cs[k] = x at *
            generalize cs[k - 1] = y at *
            go_wp2_with fail
            refine CT.out.mono ?_
            rintro e w1 ⟨rfl, hb1⟩
            have HB1 := Lib.hid (bth HB.out hb1 (Nat.le_refl _))
            have hc3 := HPR.out w1 hb1
            clear hb1 d0 d1 hcell
            go_wp2_with fail
            go_roundw
            case rel => exact ⟨k + 1, by omega, by go_num, HR, HB1⟩
            case measure => simp [intOf]; omega
          · have HR : Hid (riseB 0 ((ls.length : Int) - 1) cs = false) := rise_fall hlt h0 (by omega)
            have hy1 : decide (cs[k - 1] ≥ cs[k]) = true := by simp; omega
            clear HO hr hy
            generalize cs[k] = x at *
            generalize cs[k - 1] = y at *
            go_wp2_with fail
            refine CT.out.mono ?_
            rintro e w1 ⟨rfl, hb1⟩
            have HB1 := Lib.hid (bth HBW.out hb1 (Nat.le_refl _))
            have hc3 := HPR.out w1 hb1
            clear hb1 d0 d1 hcell
            go_wp2_with fail
            go_ret
            exact ⟨ret_bool HR.out.symm, HB1.out⟩
        · have HR : Hid (Rise (cs.take (k + 1)) ∧ Within 0 ((ls.length : Int) - 1) (cs.take (k + 1))) := rise_next hlt HO.out hr.1 (by omega) (fun h => absurd h h0)
          have hk0 : decide ((k : Int) > 0) = false := by simp; omega
          clear HO hr
          generalize cs[k] = x at *
          go_wp2_with fail
          refine CT.out.mono ?_
          rintro e w1 ⟨rfl, hb1⟩
          have HB1 := Lib.hid (bth HB.out hb1 (Nat.le_refl _))
          clear hb1 d0 d1 hcell
          go_wp2_with fail
          go_roundw
          case rel => exact ⟨k + 1, by omega, by go_num, HR, HB1⟩
          case measure => simp [intOf]; omega
      · have HR : Hid (riseB 0 ((ls.length : Int) - 1) cs = false) := rise_out hlt (by omega)
        have CT := Lib.hid (isTask_b (HV.out.below HBW.out) (show (decide (0 ≤ cs[k]) && decide (cs[k] < (ls.length : Int))) = false by rw [Bool.eq_false_iff]; intro h; rw [Bool.and_eq_true, decide_eq_true_iff, decide_eq_true_iff] at h; exact hr h))
        clear HO hr
        generalize cs[k] = x at *
        go_wp2_with fail
        refine CT.out.mono ?_
        rintro e w1 ⟨rfl, hb1⟩
        have HB1 := Lib.hid (bth HBW.out hb1 (Nat.le_refl _))
        clear hb1 d0 d1 hcell
        go_wp2_with fail
        go_ret
        exact ⟨ret_bool HR.out.symm, HB1.out⟩
    · have HR : Hid (riseB 0 ((ls.length : Int) - 1) cs = true) := by have := HO.out; rw [List.take_of_length_le (by omega)] at this; exact riseB_iff.2 this
      clear HO
      go_wp2_with fail
      go_ret
      exact ⟨ret_bool HR.out.symm, HBW.out⟩

/-- A place, or a number below 0 where there is none. -/
def PlaceB (b : Bool) (w : World) (e : Ending) (w' : World) : Prop := ∃ i : Int, e = .returned (.int .i64 i) ∧ (0 ≤ i ↔ b = true) ∧ Below w.heap.size w w'

set_option maxRecDepth 20000 in
set_option maxHeartbeats 2000000 in
theorem indexFunc_any (l : List Int) (p : Int → Bool) (D : Int → Prop) (v fv : Value) (w : World) (hrow : RowV w v (I l)) (ht : TestV w fv D p) (hD : ∀ x ∈ l, D x) :
    Calls Tryz.prog 185 #[v, fv] w (PlaceB (l.any p) w) := by
  obtain ⟨a, cap0, rfl, hc1, hc2, hat⟩ := hrow.ints
  obtain ⟨K, cap, rfl, hent, ht⟩ := ht
  have HT := Lib.hid ht
  have HAT := Lib.hid hat
  have HD := Lib.hid hD
  clear hrow hat ht hD
  unfold maxLen at hc2
  go_enter Tryz.func185, Tryz.ntmps185
  go_wp2_with fail
  go_loopw [8] (fun i wr => ∃ k : Nat, k ≤ l.length ∧ i = .int .i64 k ∧ Hid ((l.take k).any p = false) ∧ Hid (Below w.heap.size w wr)) (fun i _ => l.length - (intOf i).toNat)
  case atStart => exact ⟨0, Nat.zero_le _, by go_num, by simp [Hid], Below.refl _ _⟩
  case round =>
    obtain ⟨k, hk, rfl, HO, HB⟩ := hrel
    by_cases hlt : k < l.length
    · obtain ⟨g, o, rfl, hg, hcell0⟩ := HAT.out k hlt
      have hcell : wr.cell? ⟨g, o + k, none⟩ = some (.int .i64 l[k]) := by rw [HB.out.cell (p := ⟨g, o + k, none⟩) hg]; exact hcell0
      have hltz : (k : Int) < (l.length : Int) := by omega
      have HC := HT.out wr HB.out l[k] (HD.out _ (List.getElem_mem hlt))
      clear hcell0
      rcases hb : p l[k] with _ | _
      · have HS : Hid ((l.take (k + 1)).any p = false) := by
          show _ = _
          rw [List.take_succ_eq_append_getElem hlt, List.any_append, HO.out]
          simp [hb]
        rw [hb] at HC
        have HCC := Lib.hid HC
        clear HC hb HO
        generalize l[k] = x at *
        go_wp2_with fail
        refine HCC.out.mono ?_
        rintro e w1 ⟨rfl, hb1⟩
        have HB1 := Lib.hid (bth HB.out hb1 (Nat.le_refl _))
        clear hb1
        go_wp2_with fail
        go_roundw
        case rel => exact ⟨k + 1, by omega, by go_num, HS, HB1⟩
        case measure => simp [intOf]; omega
      · have HS : Hid (l.any p = true) := by
          show _ = _
          rw [List.any_eq_true]
          exact ⟨l[k], List.getElem_mem hlt, hb⟩
        rw [hb] at HC
        have HCC := Lib.hid HC
        clear HC hb HO
        generalize l[k] = x at *
        go_wp2_with fail
        refine HCC.out.mono ?_
        rintro e w1 ⟨rfl, hb1⟩
        have HB1 := Lib.hid (bth HB.out hb1 (Nat.le_refl _))
        clear hb1
        go_wp2_with fail
        go_ret
        exact ⟨(k : Int), rfl, by rw [HS.out]; simp, HB1.out⟩
    · have HS : Hid (l.any p = false) := by
        show _ = _
        have := HO.out
        rwa [List.take_of_length_le (by omega)] at this
      have hltz : ¬ ((k : Int) < (l.length : Int)) := by omega
      clear HO
      go_wp2_with fail
      go_ret
      exact ⟨-1, rfl, by rw [HS.out]; simp, HB.out⟩

set_option maxRecDepth 20000 in
set_option maxHeartbeats 1000000 in
theorem containsFunc_any (l : List Int) (p : Int → Bool) (D : Int → Prop) (v fv : Value) (w : World) (hrow : RowV w v (I l)) (ht : TestV w fv D p) (hD : ∀ x ∈ l, D x) :
    Calls Tryz.prog 156 #[v, fv] w (BoolB (l.any p) w) := by
  have HC := Lib.hid (indexFunc_any l p D v fv w hrow ht hD)
  clear hrow ht hD
  go_enter Tryz.func156, Tryz.ntmps156
  go_wp2_with fail
  refine HC.out.mono ?_
  rintro e w1 ⟨i, rfl, hi, hb⟩
  have HI := Lib.hid hi
  have HB := Lib.hid hb
  clear hi hb HC
  go_wp2_with fail
  go_ret
  refine ⟨?_, HB.out⟩
  show Ending.returned (.bool (decide (0 ≤ i))) = _
  congr 2
  rw [Bool.eq_iff_iff, decide_eq_true_eq]
  exact HI.out

/-- A block of one cell. -/
def Blk1 (w : World) (b t : Nat) (x : Value) : Prop := w.heap[b]? = some (.cells #[x] t (0, 0))
theorem Blk1.cell {w : World} {b t : Nat} {x : Value} (h : Blk1 w b t x) : w.cell? ⟨b, 0, none⟩ = some x := by rw [cell_of_row w b _ _ t (0, 0) h]; rfl
theorem Blk1.below {w w' : World} {B b t : Nat} {x : Value} (h : Blk1 w b t x) (hb : Below B w w') (hlt : b < B) : Blk1 w' b t x := (hb.block b hlt).trans h
theorem Blk1.new {w : World} {t : Nat} {x : Value} : Blk1 (w.alloc (.cells #[x] t)) w.heap.size t x := heap_alloc_new w _

/-- A function value is handed back that tells whether p. -/
def TestPost (D : Int → Prop) (p : Int → Bool) (w : World) (e : Ending) (w' : World) : Prop := ∃ fv, e = .returned fv ∧ TestV w' fv D p ∧ Below w.heap.size w w' ∧ ∃ K b, fv = .func (.func K) #[] #[.pointer (some ⟨b, 0, none⟩)]

end Go.Proofs.YtcfhfhpdnjaokaaGreatDoor
