/- Texts of one claim, joined in their order. -/
import Derived.Laws.EntriesVeiled
import Derived.RangeFuncNested
import Derived.RangeFuncBound
import Derived.RangeFuncCalls
import Derived.RangeFuncLeaves
import Derived.RangeFuncWrites
import Derived.Shelf.Abstract
import Derived.Shelf.RegionOpen
import Derived.OwnWalkIn
import Derived.TacticsInMore
import Derived.LoopNIn
import Derived.LoopIn
import Derived.Test.YtgolhfmmlanmlaaM10
import Derived.Test.YtgolhfmmlanmlaaM7
import Derived.Test.YtgolhfmmlanmlaaM6

/- Walks: the program's longest way. -/
namespace Go.Proofs.Ytgolhfmmlanmlaa
open Go.RowKit Pth

/-- The place of the first that p holds of, or -1. -/
def FirstP (l : List Int) (p : Int → Bool) (w : World) (e : Ending) (w' : World) : Prop :=
  ∃ i : Int, e = .returned (.int .i64 i) ∧ ((∃ k : Nat, ∃ hk : k < l.length, i = k ∧ p l[k] = true ∧ ∀ x ∈ l.take k, p x = false) ∨ (i = -1 ∧ ∀ x ∈ l, p x = false)) ∧ Below w.heap.size w w'

set_option maxRecDepth 20000 in
set_option maxHeartbeats 8000000 in
theorem indexFirst_any (l : List Int) (p : Int → Bool) (D : Int → Prop) (v fv : Value) (w : World) (hrow : RowV w v (I l)) (ht : TestV w fv D p) (hD : ∀ x ∈ l, D x) :
    Calls Try.prog 74 #[v, fv] w (FirstP l p w) := by
  obtain ⟨a, cap0, rfl, hc1, hc2, hat⟩ := hrow.ints
  obtain ⟨K, cap, rfl, hent, ht⟩ := ht
  have HT := Lib.hid ht
  have HAT := Lib.hid hat
  have HD := Lib.hid hD
  clear hrow hat ht hD
  unfold maxLen at hc2
  go_enter Try.func74, Try.ntmps74
  go_wp2_with fail
  go_loopw [8] (fun i wr => ∃ k : Nat, k ≤ l.length ∧ i = .int .i64 k ∧ Hid (∀ x ∈ l.take k, p x = false) ∧ Hid (Below w.heap.size w wr)) (fun i _ => l.length - (intOf i).toNat)
  case atStart => exact ⟨0, Nat.zero_le _, by go_num, by simp [Hid], Below.refl _ _⟩
  case round =>
    obtain ⟨k, hk, rfl, HO, HB⟩ := hrel
    by_cases hlt : k < l.length
    · obtain ⟨g, o, rfl, hg, hcell0⟩ := HAT.out k hlt
      have hcell : wr.cell? ⟨g, o + k, none⟩ = some (.int .i64 l[k]) := by rw [HB.out.cell (p := ⟨g, o + k, none⟩) hg]; exact hcell0
      have hltz : (k : Int) < (l.length : Int) := by omega
      have HC := HT.out wr HB.out l[k] (HD.out _ (List.getElem_mem hlt))
      clear hcell0
      rcases hb : p l[k] with _ | _
      · have HS : Hid (∀ x ∈ l.take (k + 1), p x = false) := by
          intro x hx
          rw [List.take_succ_eq_append_getElem hlt, List.mem_append, List.mem_singleton] at hx
          rcases hx with hx | rfl
          · exact HO.out x hx
          · exact hb
        rw [hb] at HC
        have HCC := Lib.hid HC
        clear HC hb HO
        generalize l[k] = x at *
        go_wp2_with fail
        refine HCC.out.mono ?_
        rintro e w1 ⟨rfl, hb1⟩
        have HB1 := Lib.hid (bth HB.out hb1 (Nat.le_refl _))
        clear hb1
        go_wp2_with fail
        go_roundw
        case rel => exact ⟨k + 1, by omega, by go_num, HS, HB1⟩
        case measure => simp [intOf]; omega
      · have HS : Hid (∃ k' : Nat, ∃ hk : k' < l.length, (k : Int) = k' ∧ p l[k'] = true ∧ ∀ x ∈ l.take k', p x = false) := ⟨k, hlt, rfl, hb, HO.out⟩
        rw [hb] at HC
        have HCC := Lib.hid HC
        clear HC hb HO
        generalize l[k] = x at *
        go_wp2_with fail
        refine HCC.out.mono ?_
        rintro e w1 ⟨rfl, hb1⟩
        have HB1 := Lib.hid (bth HB.out hb1 (Nat.le_refl _))
        clear hb1
        go_wp2_with fail
        go_ret
        exact ⟨(k : Int), rfl, .inl HS.out, HB1.out⟩
    · have HS : Hid (∀ x ∈ l, p x = false) := by
        have := HO.out
        rwa [List.take_of_length_le (by omega)] at this
      have hltz : ¬ ((k : Int) < (l.length : Int)) := by omega
      clear HO
      go_wp2_with fail
      go_ret
      exact ⟨-1, rfl, .inr ⟨rfl, HS.out⟩, HB.out⟩
theorem find_at {l : List Int} {p : Int → Bool} {k : Nat} (hk : k < l.length) (h : p l[k] = true) (hn : ∀ x ∈ l.take k, p x = false) : l.find? p = some l[k] := by
  conv => lhs; rw [← List.take_append_drop k l]
  rw [List.find?_append, List.find?_eq_none.2 (fun x hx => by rw [hn x hx]; simp), List.drop_eq_getElem_cons hk, List.find?_cons_of_pos h]
  rfl

set_option maxRecDepth 20000 in
set_option maxHeartbeats 8000000 in
theorem firstWhere_any (l : List Int) (p : Int → Bool) (D : Int → Prop) (v fv : Value) (w : World) (hrow : RowV w v (I l)) (ht : TestV w fv D p) (hD : ∀ x ∈ l, D x) (r : Int) (hf : l.find? p = some r) :
    Calls Try.prog 43 #[v, fv] w fun e w' => e = .returned (.int .i64 r) ∧ Below w.heap.size w w' := by
  have HC := Lib.hid (indexFirst_any l p D v fv w hrow ht hD)
  have HF := Lib.hid hf
  obtain ⟨a, cap0, rfl, hc1, hc2, hat⟩ := hrow.ints
  have HAT := Lib.hid hat
  unfold maxLen at hc2
  clear hrow ht hD hat hf
  go_enter Try.func43, Try.ntmps43
  go_wp2_with fail
  refine HC.out.mono ?_
  rintro e w1 ⟨i, rfl, hi, hb1⟩
  rcases hi with ⟨k, hk, rfl, hp, hn⟩ | ⟨rfl, hn⟩
  · obtain ⟨g, o, rfl, hg, hcell0⟩ := HAT.out k hk
    have hcell : w1.cell? ⟨g, o + k, none⟩ = some (.int .i64 l[k]) := by rw [hb1.cell (p := ⟨g, o + k, none⟩) hg]; exact hcell0
    have hltz : (k : Int) < (l.length : Int) := by omega
    have HR : Hid (l[k] = r) := by
      have := HF.out
      rw [find_at hk hp hn] at this
      exact Option.some.inj this
    have HB := Lib.hid hb1
    have hge : decide ((k : Int) ≥ 0) = true := by simp
    clear hcell0 hp hn HC HF hb1
    generalize l[k] = x at *
    go_wp2_with fail
    go_ret
    exact ⟨ret_int HR.out, HB.out⟩
  · have := HF.out
    rw [List.find?_eq_none.2 (fun x hx => by rw [hn x hx]; simp)] at this
    cases this

set_option maxRecDepth 20000 in
set_option maxHeartbeats 8000000 in
theorem root1_any (ls : List (List Int)) (b : Nat) (nv ov : Value) (k : Int) (w : World) (hb : Blk2 w b 26 nv ov) (hn : RowN w nv ls) (hk : 0 ≤ k ∧ k < (ls.length : Int)) :
    Calls Try.prog 41 #[.int .i64 k, .pointer (some ⟨b, 0, none⟩)] w (BoolB (decide ((needsAt ls k).length = 0)) w) := by
  obtain ⟨an, cn, rfl, hn1, hn2, hat⟩ := hn.lists
  unfold maxLen at hn2
  obtain ⟨kn, rfl⟩ : ∃ kn : Nat, k = kn := ⟨k.toNat, by omega⟩
  have hkl : kn < ls.length := by omega
  have hkl2 : (kn : Int) < (ls.length : Int) := by omega
  obtain ⟨g1, o1, a2, c2, rfl, hg1, hcell1, _⟩ := hat kn hkl
  have c0 := hb.cells.1
  rw [needsAt_get hkl]
  clear hat hb hn
  by_cases h : ls[kn].length = 0
  · have h1 : ((ls[kn].length : Int) == 0) = true := by simp only [beq_iff_eq]; omega
    rw [decide_eq_true h]
    clear h
    generalize ls[kn].length = n1 at *
    go_enter Try.func41, Try.ntmps41
    go_wp2_with fail
    go_ret
    exact ⟨rfl, Below.refl _ _⟩
  · have h1 : ((ls[kn].length : Int) == 0) = false := by simp only [beq_eq_false_iff_ne, ne_eq]; omega
    rw [decide_eq_false h]
    clear h
    generalize ls[kn].length = n1 at *
    go_enter Try.func41, Try.ntmps41
    go_wp2_with fail
    go_ret
    exact ⟨rfl, Below.refl _ _⟩

set_option maxRecDepth 20000 in
set_option maxHeartbeats 8000000 in
theorem next2_any (T : List Int) (x : Int) (bt bl : Nat) (tv : Value) (k : Int) (w : World) (hb : Blk1 w bt 24 tv) (hT : RowV w tv (I T)) (hl : Blk1 w bl 3 (.int .i64 x)) (hk : 0 ≤ k ∧ k < (T.length : Int)) :
    Calls Try.prog 44 #[.int .i64 k, .pointer (some ⟨bt, 0, none⟩), .pointer (some ⟨bl, 0, none⟩)] w (BoolB (decide (atI T k = x)) w) := by
  obtain ⟨a, cap, rfl, hc1, hc2, hat⟩ := hT.ints
  unfold maxLen at hc2
  obtain ⟨kn, rfl⟩ : ∃ kn : Nat, k = kn := ⟨k.toNat, by omega⟩
  have hkl : kn < T.length := by omega
  have hkl2 : (kn : Int) < (T.length : Int) := by omega
  obtain ⟨g, o, rfl, hg, hcell0⟩ := hat kn hkl
  have hcell : w.cell? ⟨g, o + kn, none⟩ = some (.int .i64 (atI T (kn : Int))) := by rw [hcell0, atI_get hkl]
  have cb := hb.cell
  have cl := hl.cell
  clear hat hb hT hl hcell0
  by_cases h : atI T (kn : Int) = x
  · have h1 : (atI T (kn : Int) == x) = true := by simp [h]
    rw [decide_eq_true h]
    clear h
    generalize atI T (kn : Int) = y at *
    go_enter Try.func44, Try.ntmps44
    go_wp2_with fail
    go_region
    all_goals
      go_wp2_with fail
      go_ret
      exact ⟨rfl, Below.drew (Below.refl _ _)⟩
  · have h1 : (atI T (kn : Int) == x) = false := by simp [h]
    rw [decide_eq_false h]
    clear h
    generalize atI T (kn : Int) = y at *
    go_enter Try.func44, Try.ntmps44
    go_wp2_with fail
    go_region
    all_goals
      go_wp2_with fail
      go_ret
      exact ⟨rfl, Below.drew (Below.refl _ _)⟩
/-- What a box holds. -/
def boxInt (p : Value) (w : World) : Int :=
  match p with
  | .pointer (some a) => match w.cell? a with
    | some (.int _ x) => x
    | _ => 0
  | _ => 0
theorem boxInt_is {w : World} {b : Nat} {x : Int} (h : Blk1 w b 3 (.int .i64 x)) : boxInt (.pointer (some ⟨b, 0, none⟩)) w = x := by
  show (match w.cell? ⟨b, 0, none⟩ with | some (.int _ x) => x | _ => 0) = x
  rw [h.cell]

set_option maxRecDepth 20000 in
set_option maxHeartbeats 16000000 in
theorem implWay_any (ls : List (List Int)) (l ts : List Int) (v u : Value) (w : World) (hst : GraphV w v ls l) (hrow : RowV w u (I ts)) :
    Calls Try.prog 12 #[v, u] w (ListNOk (ifL (timesG ls l ts) (wayT ls l ts)) (ifN (timesG ls l ts) (endT (tailsL ls l ts))) (timesG ls l ts) w) := by
  have HV := Lib.hid hst
  have HR := Lib.hid hrow
  obtain ⟨nv, ov, rfl, h1, h2⟩ := hst
  obtain ⟨an, cn, rfl, hn1, hn2, hat⟩ := h1.lists
  obtain ⟨ao, co, rfl, ho1, ho2, hao⟩ := h2.ints
  obtain ⟨tm, tc, rfl, ht1, ht2, htt⟩ := hrow.ints
  clear h1 h2 hrow
  unfold maxLen at hn2 ho2 ht2
  have HAT := Lib.hid hat
  have HAO := Lib.hid hao
  have HTT := Lib.hid htt
  clear hat hao htt
  obtain ⟨wa, hwa⟩ : ∃ wa, wa = w.alloc (.cells #[.slice an ls.length cn, .slice ao l.length co] 26) := ⟨_, rfl⟩
  have P0 : Hid (Blk2 wa w.heap.size 26 (.slice an ls.length cn) (.slice ao l.length co)) := by rw [hwa]; exact Blk2.new
  have HA : Hid (Below w.heap.size w wa) := by rw [hwa]; exact (Below.refl w.heap.size w).alloc (Nat.le_refl _) _
  have hsa : wa.heap.size = w.heap.size + 1 := by rw [hwa]; simp
  have HSA := Lib.hid hsa
  have hsz : w.heap.size < wa.heap.size := by omega
  have HWA := Lib.hid hwa
  obtain ⟨c0, c1⟩ := P0.out.cells
  have HC := implTails_any ls l ts _ _ wa (HV.out.below HA.out) (HR.out.below HA.out)
  have hmf : ∀ (fn : Fn) (first cap : Array Value) (w : World), (Instr.makeFunc fn first cap).run Try.prog w = .ok (.func fn first cap) w := fun _ _ _ _ => rfl
  clear hwa hsa
  rcases hT : timesG ls l ts with _ | _
  · rw [hT] at HC
    have HCC := Lib.hid HC
    clear HC hT hmf
    go_enter Try.func12, Try.ntmps12
    go_wp2_with fail
    rw [← HWA.out]
    refine HCC.out.mono ?_
    rintro e w1 ⟨v1, rfl, ho1', hb1⟩
    obtain ⟨qa, qc, hq⟩ := own_slice ho1'
    subst hq
    clear ho1'
    have HB1 := Lib.hid (bth HA.out hb1 (Nat.le_refl _))
    have hs1 := HB1.out.size
    clear hb1 c0 c1
    go_wp2_with fail
    go_ret3
    exact ⟨_, rfl, none_ownZ _ _ _, HB1.out.alloc hs1 _⟩
  · rw [hT] at HC
    have HCC := Lib.hid HC
    obtain ⟨hG, hTT⟩ := timesG_yes hT
    have HG := Lib.hid hG
    have HTM := Lib.hid hTT
    clear HC hT hG hTT
    go_enter Try.func12, Try.ntmps12
    go_wp2_with fail
    rw [← HWA.out]
    refine HCC.out.mono ?_
    rintro e w1 ⟨v1, rfl, ho1', hb1⟩
    have HB1 := Lib.hid (bth HA.out hb1 (Nat.le_refl _))
    have HTV := Lib.hid (RowV.of_own ho1')
    have h10 := HG.out.high
    have hgood : goodG ls l = true := goodG_iff.2 HG.out
    have hpos : 0 < (tailsL ls l ts).length := by rw [tailsL_len]; exact HG.out.low
    have hnon : ∀ x ∈ tailsL ls l ts, 0 ≤ x := fun x hx => by
      obtain ⟨y, hy, e⟩ := mem_at0 hx
      rw [tailsL_len] at hy
      have := (tails_at HG.out.toP HTM.out hy).1
      omega
    have HXL := Lib.hid (tailsL_len ls l ts)
    have HYL := Lib.hid HTM.out.len
    have HWS := Lib.hid (WayOn.start HG.out.toP HTM.out)
    obtain ⟨w2, hw2⟩ : ∃ w2, w2 = w1.alloc (.cells #[v1] 24) := ⟨_, rfl⟩
    have HBT : Hid (Blk1 w2 w1.heap.size 24 v1) := by rw [hw2]; exact Blk1.new
    have K2 : Hid (Below w1.heap.size w1 w2) := by rw [hw2]; exact (Below.refl w1.heap.size w1).alloc (Nat.le_refl _) _
    have hs2 : w1.heap.size < w2.heap.size := by rw [hw2]; simp
    have HB2 := Lib.hid (bth HB1.out K2.out (Nat.le_refl _))
    have P2 := Lib.hid ((P0.out.below hb1 hsz).below K2.out (Nat.lt_of_lt_of_le hsz hb1.size))
    have hsz2 : w.heap.size < w2.heap.size := Nat.lt_of_lt_of_le (Nat.lt_of_lt_of_le hsz hb1.size) (Nat.le_of_lt hs2)
    obtain ⟨d0, d1⟩ := P2.out.cells
    have HUS := Lib.hid (usersOfAll_any ls l _ w2 (HV.out.below HB2.out) hgood)
    have HEN := Lib.hid (fun W (h : Below w1.heap.size w1 W) => endOfAll_any (tailsL ls l ts) v1 W (HTV.out.below h) hpos hnon)
    obtain ⟨qa, qc, hq⟩ := own_slice ho1'
    subst hq
    have HW2 := Lib.hid hw2
    clear hb1 c0 c1 ho1' hpos hnon hw2
    go_upto_region 2 with fail
    rw [← HW2.out]
    go_wp2_with fail
    refine HUS.out.mono ?_
    rintro e w3 ⟨vu, sl, rfl, hou, hb3⟩
    have HB3 := Lib.hid (bth HB2.out hb3 (Nat.le_refl _))
    have K3 := Lib.hid (bth K2.out hb3 (Nat.le_refl _))
    have P3 := Lib.hid (P2.out.below hb3 hsz2)
    have hsz3 := Nat.lt_of_lt_of_le hsz2 hb3.size
    have HBT3 := Lib.hid (HBT.out.below hb3 hs2)
    have hs3 := Nat.lt_of_lt_of_le hs2 hb3.size
    have HUV := Lib.hid hou.view
    obtain ⟨ua, uc, hu⟩ := own_slice hou.2.1
    subst hu
    clear hou hb3 d0 d1
    obtain ⟨d0, d1⟩ := P3.out.cells
    have HRI := Lib.hid (rising_any ls l (fun k => decide ((needsAt ls k).length = 0)) _ (.func (.func 41) #[] #[.pointer (some ⟨w.heap.size, 0, none⟩)]) w3 (HV.out.below HB3.out) ⟨41, #[.pointer (some ⟨w.heap.size, 0, none⟩)], rfl, enters_of Try.func41 (by kernel_rfl) rfl, fun W hW x hx => root1_any ls w.heap.size _ _ x W (P3.out.below hW hsz3) (graph_rows (HV.out.below (bth HB3.out hW (Nat.le_refl _)))).1 (HG.out.toP.range x hx)⟩ HG.out.toP)
    go_wp2_with fail
    refine HRI.out.mono ?_
    rintro e w4 ⟨vr, rfl, hor, hb4⟩
    have hor2 : w4.ownsRow w3.heap.size 3 1 vr (rootsL ls).length (I (rootsL ls)) := hor
    have HRV := Lib.hid (RowV.of_own hor2)
    have HB4 := Lib.hid (bth HB3.out hb4 (Nat.le_refl _))
    have K4 := Lib.hid (bth K3.out hb4 (Nat.le_refl _))
    have HBT4 := Lib.hid (HBT3.out.below hb4 hs3)
    have hs4 := Nat.lt_of_lt_of_le hs3 hb4.size
    have HUV4 := Lib.hid (HUV.out.below hb4)
    have hcb := HBT4.out.cell
    obtain ⟨ra, rc, hr⟩ := own_slice hor2
    subst hr
    clear hor hor2 hb4 d0 d1 HUV HUS HRI
    obtain ⟨E, hE⟩ : ∃ E, E = endT (tailsL ls l ts) := ⟨_, rfl⟩
    rw [← hE] at HEN HWS
    have HEQ := Lib.hid hE
    clear hE
    go_wp2_with fail
    refine (HEN.out w4 K4.out).mono ?_
    rintro e w5 ⟨rfl, rfl⟩
    obtain ⟨w6, hw6⟩ : ∃ w6, w6 = w5.alloc (.cells #[.int .i64 E] 3) := ⟨_, rfl⟩
    have HL0 : Hid (Blk1 w6 w5.heap.size 3 (.int .i64 E)) := by rw [hw6]; exact Blk1.new
    have K6 : Hid (Below w5.heap.size w5 w6) := by rw [hw6]; exact (Below.refl w5.heap.size w5).alloc (Nat.le_refl _) _
    have HW6 := Lib.hid hw6
    clear hw6 hcb HEN
    go_wp2_with fail
    rw [← HW6.out]
    go_loopw [10, 12, 13] (fun nx q lp wr => ∃ (mo cs : List Int) (x : Int) (bl : Nat), lp = .pointer (some ⟨bl, 0, none⟩) ∧ Hid (WayOn ls l ts (wayT ls l ts) mo cs x) ∧ Hid (RowV w5 nx (I cs)) ∧ Hid (wr.ownsRow w5.heap.size 3 1 q mo.length (I mo)) ∧ Hid (q.ownBlock ≠ some bl) ∧ Hid (Blk1 wr bl 3 (.int .i64 x)) ∧ w5.heap.size ≤ bl ∧ Hid (Below w5.heap.size w5 wr)) (fun _ _ lp wr => (boxInt lp wr).toNat)
    case atStart => exact ⟨[], rootsL ls, E, w5.heap.size, rfl, HWS, HRV, none_ownZ _ _ _, by show Value.ownBlock _ ≠ _; simp [Value.ownBlock], HL0, Nat.le_refl _, K6⟩
    case round =>
      clear HL0 K6 HWS HRV
      obtain ⟨mo, cs, x, bl, rfl, HWO, HNX, HN, HNE, HBL, hbl, HB⟩ := hrel
      have hcb := HBL.out.cell
      by_cases hx : 0 < x
      · have hgt : decide (x > 0) = true := by simp; omega
        obtain ⟨j, hj⟩ := HWO.out.some' hx
        obtain ⟨hW', hjr, hless, hxm⟩ := HWO.out.next HG.out.toP HTM.out hx hj
        obtain ⟨jn, rfl⟩ : ∃ jn : Nat, j = jn := ⟨j.toNat, by omega⟩
        have hjl : jn < ls.length := by omega
        have hjl2 : (jn : Int) < (ls.length : Int) := by omega
        have hjt : jn < ts.length := by rw [HYL.out]; exact hjl
        have hjt2 : (jn : Int) < (ts.length : Int) := by omega
        have hju : jn < (usersM ls).length := by rw [usersM_len]; exact hjl
        have hju3 : (jn : Int) < ((usersM ls).length : Int) := by rw [usersM_len]; exact hjl2
        have HLE := Lib.hid hless
        have hmol : mo.length ≤ 1000 := by have := HWO.out.len; have := wayT_len ls l ts; omega
        have hblr : bl < wr.heap.size := lt_of_block HBL.out
        have HF := Lib.hid (firstWhere_any cs (fun k => decide (atI (tailsL ls l ts) k = x)) (fun k => 0 ≤ k ∧ k < ((tailsL ls l ts).length : Int)) _ (.func (.func 44) #[] #[.pointer (some ⟨w1.heap.size, 0, none⟩), .pointer (some ⟨bl, 0, none⟩)]) wr (HNX.out.below HB.out) ⟨44, #[.pointer (some ⟨w1.heap.size, 0, none⟩), .pointer (some ⟨bl, 0, none⟩)], rfl, enters_of Try.func44 (by kernel_rfl) rfl, fun W hW k hk => next2_any (tailsL ls l ts) x w1.heap.size bl _ k W (HBT4.out.below (bth HB.out hW (Nat.le_refl _)) hs4) (HTV.out.below (bth K4.out (bth HB.out hW (Nat.le_refl _)) (Nat.le_refl _))) (HBL.out.below hW hblr) hk⟩ (fun k hk => by rw [HXL.out]; exact HWO.out.range k hk) (jn : Int) hj)
        obtain ⟨ua', uc', hua, _, _, hut⟩ := HUV4.out.lists
        obtain ⟨ug, uo, a2, c2, hug, hugl, huc0, hurow⟩ := hut jn hju
        injection hua with hua h2 h3
        clear h2
        subst hua
        subst h3
        subst hug
        obtain ⟨tg, tf, hto, htg, htc0⟩ := HTT.out jn hjt
        subst hto
        have HUC : Hid (∀ W, Below w5.heap.size w5 W → W.cell? ⟨ug, uo + jn, none⟩ = some (.slice a2 (usersM ls)[jn].length c2)) := fun W h => (h.cell (p := ⟨ug, uo + jn, none⟩) hugl).trans huc0
        have HTC : Hid (∀ W, Below w5.heap.size w5 W → W.cell? ⟨tg, tf + jn, none⟩ = some (.int .i64 (atI ts (jn : Int)))) := fun W h => by rw [(bth HB4.out h (Nat.le_refl _)).cell (p := ⟨tg, tf + jn, none⟩) htg, htc0, atI_get hjt]
        have HUR := Lib.hid hurow
        have hue : usersL ls (jn : Int) = (usersM ls)[jn] := by rw [← usersM_at hjr, needsAt_get hju]
        rw [hue] at hW'
        have HWN := Lib.hid hW'
        have htb := HTM.out.at hjr
        have hsub : IntKind.i64.wrap (x - atI ts (jn : Int)) = x - atI ts (jn : Int) := by rw [IntKind.wrap_i64]; omega
        obtain ⟨y, hy⟩ : ∃ y, x - atI ts (jn : Int) = y := ⟨_, rfl⟩
        rw [hy] at HWN HLE
        have hsub2 := hsub.trans hy
        obtain ⟨na, nc, hnx, -⟩ := HNX.out.ints
        subst hnx
        clear hsub hy hue hW' hurow huc0 htc0 hut hj hless
        generalize atI ts (jn : Int) = tt at *
        generalize (usersM ls)[jn] = um at *
        go_wp2_with fail
        refine HF.out.mono ?_
        rintro e w7 ⟨rfl, hb7⟩
        have K7 := Lib.hid (bth HB.out hb7 (Nat.le_refl _))
        have HN7 := Lib.hid (own_below HN.out hb7)
        have HBL7 := Lib.hid (HBL.out.below hb7 hblr)
        have hbl7 := Nat.lt_of_lt_of_le hblr hb7.size
        clear hb7 hcb HF
        go_wp2_with (at_builtin; refine wpAppAtE rfl _ _ rfl w5.heap.size _ mo rfl HN7.out _ rfl rfl hmol K7.out.size ?_; intro v8 w8 ho8 hg8 hv8; have hne8 : v8.ownBlock ≠ some bl := (fun e => by rcases hv8 bl e with h | h; exact HNE.out h; omega); have HBL8 : Hid (Blk1 w8 bl 3 (.int .i64 x)) := (hg8.block bl hbl7 (fun hi => HNE.out hi.symm)).trans HBL7.out; have K8 := Lib.hid (K7.out.trans (below_own HN7.out hg8 K7.out.size)); have HN8 := Lib.hid ho8; have HNE8 := Lib.hid hne8; have c8 := HBL8.out.cell; have u8 := HUC.out w8 K8.out; have t8 := HTC.out w8 K8.out; have f8 : w8.frozen? ⟨bl, 0, none⟩ = false := frozen_of_row w8 bl 0 _ _ HBL8.out; clear ho8 hg8 hv8 hne8)
        go_region
        all_goals
          go_wp2_with fail
          have hs9 : (w8.setCell ⟨bl, 0, none⟩ (.int .i64 y)).heap.size = w8.heap.size := by simp
          have hb9 := Blk1.new (w := w8.setCell ⟨bl, 0, none⟩ (.int .i64 y)) (t := 3) (x := .int .i64 y)
          rw [hs9] at hb9
          have hn9 := (own_setNe HN8.out (p := ⟨bl, 0, none⟩) HNE8.out (.int .i64 y)).alloc (.cells #[.int .i64 y] 3)
          have k9 := ((K8.out.setCell (p := ⟨bl, 0, none⟩) hbl (.int .i64 y)).alloc (by rw [hs9]; exact K8.out.size) (.cells #[.int .i64 y] 3)).drew
          have hne9 : v8.ownBlock ≠ some w8.heap.size := fun e => by have := (HN8.out.lt _ e).2; omega
          go_roundw
          case rel => exact ⟨mo ++ [(jn : Int)], um, y, w8.heap.size, rfl, HWN, HUR, hn9, hne9, hb9, K8.out.size, k9⟩
          case measure =>
            have h1 := HLE.out
            have h2 := HWN.out.low
            have e1 : boxInt (.pointer (some ⟨w8.heap.size, 0, none⟩)) (((w8.setCell ⟨bl, 0, none⟩ (.int .i64 y)).alloc (.cells #[.int .i64 y] 3)).drew) = y := boxInt_is hb9
            have e2 : boxInt (.pointer (some ⟨bl, 0, none⟩)) wr = x := boxInt_is HBL.out
            show (boxInt (.pointer (some ⟨w8.heap.size, 0, none⟩)) (((w8.setCell ⟨bl, 0, none⟩ (.int .i64 y)).alloc (.cells #[.int .i64 y] 3)).drew)).toNat < (boxInt (.pointer (some ⟨bl, 0, none⟩)) wr).toNat
            rw [e1, e2]
            omega
      · have hgt : decide (x > 0) = false := by simp; omega
        obtain rfl := HWO.out.done HG.out.toP HTM.out hx
        have HO := Lib.hid (own_base HN.out HB4.out.size)
        have HBZ := Lib.hid (bth HB4.out HB.out (Nat.le_refl _))
        clear HN HB hx
        go_wp2_with fail
        go_ret3
        obtain rfl := HEQ.out
        exact ⟨_, rfl, HO.out, HBZ.out⟩

end Go.Proofs.Ytgolhfmmlanmlaa

/- Plain mathematics of the longest way: how long it takes up to each of its tasks; no program. -/
namespace Go.Proofs.Ytgolhfmmlanmlaa
open Go.RowKit Pth

/-- Times together. -/
def sumT (ts : List Int) (l : List Int) : Int := l.foldl (fun s k => s + atI ts k) 0
theorem sumT_snoc (ts l : List Int) (k : Int) : sumT ts (l ++ [k]) = sumT ts l + atI ts k := by unfold sumT; rw [List.foldl_append]; rfl
theorem sumT_cons (ts l : List Int) (k : Int) : sumT ts (k :: l) = atI ts k + sumT ts l := by
  have : ∀ z, List.foldl (fun s k => s + atI ts k) z l = z + List.foldl (fun s k => s + atI ts k) 0 l := by
    induction l with
    | nil => intro z; simp
    | cons x r ih => intro z; rw [List.foldl_cons, List.foldl_cons, ih, ih (0 + atI ts x)]; omega
  unfold sumT
  rw [List.foldl_cons, this]
  omega
theorem way_total {ls : List (List Int)} {l ts : List Int} (hg : GoodP ls l) (ht : TimesT ls.length ts) : ∀ (f : Nat) cs x, x ≤ (f : Int) → 0 ≤ x → (0 < x → ∃ j, nextW (atI (tailsL ls l ts)) cs x = some j) → (∀ k ∈ cs, 0 ≤ k ∧ k < (ls.length : Int)) →
    sumT ts (wayF (atI (tailsL ls l ts)) (usersL ls) (atI ts) f cs x) = x := by
  intro f
  induction f with
  | zero => intro cs x h1 h2 _ _; have : x = 0 := by omega
            subst this; rfl
  | succ f ih =>
    intro cs x h1 h2 h3 h4
    by_cases hx : 0 < x
    · obtain ⟨j, hj⟩ := h3 hx
      obtain ⟨hm, he⟩ := nextW_mem hj
      have hjr := h4 j hm
      have a := tails_at hg ht hjr
      have b := ht.at hjr
      rw [wayF_some hj, sumT_cons, ih (usersL ls j) (x - atI ts j) (by omega) (by omega) (fun hp => by rw [← he] at hp ⊢; exact way_goes hg hjr hp) (fun k hk => (mem_users.1 hk).1)]
      omega
    · rw [wayF_none (way_ends hg ht h4 (by omega))]
      show (0 : Int) = x
      omega
theorem way_sum {ls : List (List Int)} {l ts : List Int} (hg : GoodP ls l) (ht : TimesT ls.length ts) : sumT ts (wayT ls l ts) = endT (tailsL ls l ts) :=
  way_total hg ht 1000 (rootsL ls) _ (by have := (end_at hg ht).2; omega) (by have := (end_at hg ht).1; omega) (fun _ => way_starts hg ht) (fun _ hk => (mem_roots.1 hk).1)
/-- Each of the way needs the one ahead of it and ends when all up to it are done. -/
theorem way_each {ls : List (List Int)} {l ts : List Int} (hg : GoodP ls l) (ht : TimesT ls.length ts) : ∀ f cs x s (prev : Option Int), s = endT (tailsL ls l ts) - x → (∀ k ∈ cs, 0 ≤ k ∧ k < (ls.length : Int)) →
    (match prev with | none => s = 0 | some p => (∀ k ∈ cs, p ∈ needsAt ls k) ∧ atI (endsL ls l ts) p = s) →
    ∀ i (hi : i < (wayF (atI (tailsL ls l ts)) (usersL ls) (atI ts) f cs x).length), (0 ≤ (wayF (atI (tailsL ls l ts)) (usersL ls) (atI ts) f cs x)[i] ∧ (wayF (atI (tailsL ls l ts)) (usersL ls) (atI ts) f cs x)[i] < (ls.length : Int)) ∧
      atI (endsL ls l ts) (wayF (atI (tailsL ls l ts)) (usersL ls) (atI ts) f cs x)[i] = s + sumT ts ((wayF (atI (tailsL ls l ts)) (usersL ls) (atI ts) f cs x).take (i + 1)) ∧
      (∀ h0 : 0 < i, (wayF (atI (tailsL ls l ts)) (usersL ls) (atI ts) f cs x)[i - 1] ∈ needsAt ls (wayF (atI (tailsL ls l ts)) (usersL ls) (atI ts) f cs x)[i]) := by
  intro f
  induction f with
  | zero => intro cs x s prev _ _ _ i hi; simp [wayF] at hi
  | succ f ih =>
    intro cs x s prev hs hr hp i hi
    rcases hn : nextW (atI (tailsL ls l ts)) cs x with _ | j
    · rw [wayF_none hn] at hi; simp at hi
    · obtain ⟨hm, he⟩ := nextW_mem hn
      have hjr := hr j hm
      have HA := along_needs hg
      have HB := along_users hg
      -- no way over the task is longer than the longest
      have hle : atI (endsL ls l ts) j + atI (tailsL ls l ts) j - atI ts j ≤ endT (tailsL ls l ts) :=
        long_le HA HB ht (fun x y hy hx => mem_users.2 ⟨hy, hx⟩) (fun x y hy hx => by
          obtain ⟨k, hk, rfl⟩ := List.getElem_of_mem (hg.all.2 hy)
          exact hg.range _ (List.mem_of_mem_take (hg.needs_take hk hx))) l.length (Nat.le_refl _) j (by rw [List.take_length]; exact hg.all.2 hjr)
      have htell : atI (endsL ls l ts) j = atI ts j + greatF (atI (endsL ls l ts)) (needsAt ls j) := HA.tells ts hjr
      have hgr := greatF_is (atI (endsL ls l ts)) (needsAt ls j)
      have hEj : atI (endsL ls l ts) j = s + atI ts j := by
        have hge : s ≤ greatF (atI (endsL ls l ts)) (needsAt ls j) := by
          cases prev with
          | none => have h0 : s = 0 := hp; have := hgr.low; omega
          | some p => have h1 := hgr.up p (hp.1 j hm); have h2 := hp.2; omega
        omega
      have hrest := ih (usersL ls j) (x - atI ts j) (s + atI ts j) (some j) (by omega) (fun k hk => (mem_users.1 hk).1) ⟨fun k hk => (mem_users.1 hk).2, hEj⟩
      have hw := wayF_some (ts := atI ts) (us := usersL ls) (f := f) hn
      rw [hw] at hi
      rcases i with _ | i
      · simp only [hw]
        refine ⟨hjr, ?_, fun h => by omega⟩
        show atI (endsL ls l ts) j = s + sumT ts ((j :: _).take 1)
        rw [List.take_succ_cons, List.take_zero, sumT_cons]
        show _ = s + (atI ts j + 0)
        omega
      · have hi' : i < (wayF (atI (tailsL ls l ts)) (usersL ls) (atI ts) f (usersL ls j) (x - atI ts j)).length := by simpa using hi
        obtain ⟨r1, r2, r3⟩ := hrest i hi'
        simp only [hw]
        refine ⟨r1, ?_, fun _ => ?_⟩
        · show atI (endsL ls l ts) (wayF (atI (tailsL ls l ts)) (usersL ls) (atI ts) f (usersL ls j) (x - atI ts j))[i] = _
          rw [r2, List.take_succ_cons, sumT_cons]
          omega
        · show (j :: wayF (atI (tailsL ls l ts)) (usersL ls) (atI ts) f (usersL ls j) (x - atI ts j))[i] ∈ needsAt ls (wayF (atI (tailsL ls l ts)) (usersL ls) (atI ts) f (usersL ls j) (x - atI ts j))[i]
          rcases i with _ | i
          · show j ∈ _
            exact (mem_users.1 ((by
              have h0 : 0 < (wayF (atI (tailsL ls l ts)) (usersL ls) (atI ts) f (usersL ls j) (x - atI ts j)).length := hi'
              rcases f with _ | f
              · simp [wayF] at h0
              · rcases hn2 : nextW (atI (tailsL ls l ts)) (usersL ls j) (x - atI ts j) with _ | j2
                · rw [wayF_none hn2] at h0; simp at h0
                · simp only [wayF_some hn2]
                  exact (nextW_mem hn2).1) : (wayF (atI (tailsL ls l ts)) (usersL ls) (atI ts) f (usersL ls j) (x - atI ts j))[0] ∈ usersL ls j)).2
          · exact r3 (by omega)
theorem way_at {ls : List (List Int)} {l ts : List Int} (hg : GoodP ls l) (ht : TimesT ls.length ts) (i : Nat) (hi : i < (wayT ls l ts).length) : (0 ≤ (wayT ls l ts)[i] ∧ (wayT ls l ts)[i] < (ls.length : Int)) ∧
    atI (endsL ls l ts) (wayT ls l ts)[i] = sumT ts ((wayT ls l ts).take (i + 1)) ∧ (∀ h0 : 0 < i, (wayT ls l ts)[i - 1] ∈ needsAt ls (wayT ls l ts)[i]) := by
  have h := way_each hg ht 1000 (rootsL ls) (endT (tailsL ls l ts)) 0 none (by omega) (fun _ hk => (mem_roots.1 hk).1) rfl i hi
  refine ⟨h.1, ?_, h.2.2⟩
  have h2 := h.2.1
  rw [Int.zero_add] at h2
  exact h2
/-- No task ends ahead of what it needs and its own time, nor behind the end. -/
theorem ends_after {ls : List (List Int)} {l ts : List Int} (hg : GoodP ls l) (_ht : TimesT ls.length ts) {k x : Int} (hk : 0 ≤ k ∧ k < (ls.length : Int)) (hx : x ∈ needsAt ls k) : atI (endsL ls l ts) x + atI ts k ≤ atI (endsL ls l ts) k := by
  have htell : atI (endsL ls l ts) k = atI ts k + greatF (atI (endsL ls l ts)) (needsAt ls k) := (along_needs hg).tells ts hk
  have := (greatF_is (atI (endsL ls l ts)) (needsAt ls k)).up x hx
  omega
theorem ends_before {ls : List (List Int)} {l ts : List Int} (hg : GoodP ls l) (ht : TimesT ls.length ts) {k : Int} (hk : 0 ≤ k ∧ k < (ls.length : Int)) : atI (endsL ls l ts) k ≤ endT (tailsL ls l ts) := by
  rw [← end_same hg ht]
  exact (endT_is _).up _ (atI_mem (by rw [endsL_len]; exact hk))
end Go.Proofs.Ytgolhfmmlanmlaa

/- What is touched, needed, ready, closed, as answers; IsClosed and ReadyWith of the program. -/
namespace Go.Proofs.Ytgolhfmmlanmlaa
open Go.RowKit Pth

/-- A good graph, and rising tasks of it. -/
noncomputable def someG (ls : List (List Int)) (l cs : List Int) : Bool := goodG ls l && riseB 0 ((ls.length : Int) - 1) cs
theorem some_eq (ls : List (List Int)) (l cs : List Int) : (goodG ls l && riseB 0 ((ls.length : Int) - 1) cs) = someG ls l cs := rfl
theorem some_eq2 (ls : List (List Int)) (l cs ds : List Int) : (goodG ls l && riseB 0 ((ls.length : Int) - 1) cs && riseB 0 ((ls.length : Int) - 1) ds) = (someG ls l cs && someG ls l ds) := by
  unfold someG
  cases goodG ls l <;> simp
theorem some_yes {ls : List (List Int)} {l cs : List Int} (h : someG ls l cs = true) : GoodG ls l ∧ (Rise cs ∧ ∀ x ∈ cs, 0 ≤ x ∧ x < (ls.length : Int)) := by
  unfold someG at h
  rw [Bool.and_eq_true] at h
  have := riseB_iff.1 h.2
  exact ⟨goodG_iff.1 h.1, this.1, fun x hx => by have := this.2 x hx; omega⟩
theorem some_yes2 {ls : List (List Int)} {l cs ds : List Int} (h : (someG ls l cs && someG ls l ds) = true) : GoodG ls l ∧ (Rise cs ∧ ∀ x ∈ cs, 0 ≤ x ∧ x < (ls.length : Int)) ∧ (Rise ds ∧ ∀ x ∈ ds, 0 ≤ x ∧ x < (ls.length : Int)) := by
  rw [Bool.and_eq_true] at h
  exact ⟨(some_yes h.1).1, (some_yes h.1).2, (some_yes h.2).2⟩
/-- One that is not among some, and all that it needs is. -/
def readyP (ls : List (List Int)) (cs : List Int) (k : Int) : Bool := !hasL cs k && !(needsAt ls k).any (fun x => !hasL cs x)
noncomputable def touchA_v (ls : List (List Int)) (_l cs : List Int) : List Int := touchS ls cs
noncomputable def touchA (ls : List (List Int)) (l cs : List Int) : List Int := if someG ls l cs then touchA_v ls l cs else []
theorem touchA_no {ls : List (List Int)} {l cs : List Int} (h : someG ls l cs = false) : touchA ls l cs = [] := by unfold touchA; rw [h]; rfl
theorem touchA_yes {ls : List (List Int)} {l cs : List Int} (h : someG ls l cs = true) : touchA ls l cs = touchA_v ls l cs := by unfold touchA; rw [h]; rfl
theorem touchA_short (ls : List (List Int)) (l cs : List Int) : (touchA ls l cs).length ≤ 1000000 := by
  rcases h : someG ls l cs with _ | _
  · rw [touchA_no h]; simp
  · rw [touchA_yes h]
    have h1 := (some_yes h).1.high
    exact Nat.le_trans (touchS_len ls cs) (by omega)
noncomputable def needA_v (ls : List (List Int)) (_l cs : List Int) : List Int := needS ls cs
noncomputable def needA (ls : List (List Int)) (l cs : List Int) : List Int := if someG ls l cs then needA_v ls l cs else []
theorem needA_no {ls : List (List Int)} {l cs : List Int} (h : someG ls l cs = false) : needA ls l cs = [] := by unfold needA; rw [h]; rfl
theorem needA_yes {ls : List (List Int)} {l cs : List Int} (h : someG ls l cs = true) : needA ls l cs = needA_v ls l cs := by unfold needA; rw [h]; rfl
theorem needA_short (ls : List (List Int)) (l cs : List Int) : (needA ls l cs).length ≤ 1000000 := by
  rcases h : someG ls l cs with _ | _
  · rw [needA_no h]; simp
  · rw [needA_yes h]
    have h1 := (some_yes h).1.high
    exact Nat.le_trans (needS_len ls cs) (by omega)
noncomputable def readyA_v (ls : List (List Int)) (_l cs : List Int) : List Int := (upto ls.length).filter (readyP ls cs)
noncomputable def readyA (ls : List (List Int)) (l cs : List Int) : List Int := if someG ls l cs then readyA_v ls l cs else []
theorem readyA_no {ls : List (List Int)} {l cs : List Int} (h : someG ls l cs = false) : readyA ls l cs = [] := by unfold readyA; rw [h]; rfl
theorem readyA_yes {ls : List (List Int)} {l cs : List Int} (h : someG ls l cs = true) : readyA ls l cs = readyA_v ls l cs := by unfold readyA; rw [h]; rfl
theorem readyA_short (ls : List (List Int)) (l cs : List Int) : (readyA ls l cs).length ≤ 1000000 := by
  rcases h : someG ls l cs with _ | _
  · rw [readyA_no h]; simp
  · rw [readyA_yes h]
    have h1 := (some_yes h).1.high
    exact Nat.le_trans (Nat.le_trans (List.length_filter_le _ _) (Nat.le_of_eq (upto_len _))) (by omega)
noncomputable def shutA_v (ls : List (List Int)) (_l cs : List Int) : Bool := shutB ls cs
noncomputable def shutA (ls : List (List Int)) (l cs : List Int) : Bool := if someG ls l cs then shutA_v ls l cs else false
theorem shutA_no {ls : List (List Int)} {l cs : List Int} (h : someG ls l cs = false) : shutA ls l cs = false := by unfold shutA; rw [h]; rfl
theorem shutA_yes {ls : List (List Int)} {l cs : List Int} (h : someG ls l cs = true) : shutA ls l cs = shutA_v ls l cs := by unfold shutA; rw [h]; rfl
/-- Two yes-or-noes. -/
def PairOk (p b : Bool) (w : World) (e : Ending) (w' : World) : Prop := e = .returned (.tuple #[.bool p, .bool b]) ∧ Below w.heap.size w w'
theorem shut_yes {ls : List (List Int)} {cs : List Int} (h : Pth.Shut ls cs) : shutB ls cs = true := by unfold shutB; exact @decide_eq_true _ (Classical.propDecidable _) h
theorem shut_no {ls : List (List Int)} {cs : List Int} (h : ¬ Pth.Shut ls cs) : shutB ls cs = false := by unfold shutB; exact @decide_eq_false _ (Classical.propDecidable _) h
theorem any_has {l cs : List Int} : l.any (hasL cs) = true ↔ ∃ x ∈ l, x ∈ cs := by
  rw [List.any_eq_true]
  constructor
  · rintro ⟨x, hx, h⟩; exact ⟨x, hx, by simpa [hasL] using h⟩
  · rintro ⟨x, hx, h⟩; exact ⟨x, hx, by simpa [hasL] using h⟩

end Go.Proofs.Ytgolhfmmlanmlaa

/- Walks: tests that leave the world as it was; ReadyWith of the program. -/
namespace Go.Proofs.Ytgolhfmmlanmlaa
open Go.RowKit Pth

theorem GraphV.parts {w : World} {a b : Value} {ls : List (List Int)} {l : List Int} (h : GraphV w (.agg #[a, b]) ls l) : RowN w a ls ∧ RowV w b (I l) := by
  obtain ⟨nv, ov, hv, h1, h2⟩ := h
  injection hv with hv
  simp only [Array.mk.injEq, List.cons.injEq, and_true] at hv
  obtain ⟨rfl, rfl⟩ := hv
  exact ⟨h1, h2⟩
/-- A yes-or-no, and the world is as it was. -/
def BoolS (b : Bool) (w : World) (e : Ending) (w' : World) : Prop := e = .returned (.bool b) ∧ w' = w
/-- A function value that tells of each number of D whether p holds, and only reads. -/
def TestS (w0 : World) (fv : Value) (D : Int → Prop) (p : Int → Bool) : Prop :=
  ∃ K cap, fv = .func (.func K) #[] cap ∧ (∀ args w, (callFunc K args).run Try.prog w = .ok (.enter K args) w) ∧ ∀ W, Below w0.heap.size w0 W → ∀ x, D x → Calls Try.prog K (#[.int .i64 x] ++ cap) W (BoolS (p x) W)
theorem TestS.below {w w' : World} {fv : Value} {D : Int → Prop} {p : Int → Bool} (h : TestS w fv D p) (hb : Below w.heap.size w w') : TestS w' fv D p := by
  obtain ⟨K, cap, h1, h2, h3⟩ := h
  exact ⟨K, cap, h1, h2, fun W hW x hx => h3 W (bth hb hW (Nat.le_refl _)) x hx⟩
theorem TestS.toV {w : World} {fv : Value} {D : Int → Prop} {p : Int → Bool} (h : TestS w fv D p) : TestV w fv D p := by
  obtain ⟨K, cap, h1, h2, h3⟩ := h
  exact ⟨K, cap, h1, h2, fun W hW x hx => (h3 W hW x hx).mono fun e w' ⟨he, hw⟩ => ⟨he, by rw [hw]; exact Below.refl _ _⟩⟩

/-- A place, or a number below 0 where there is none; the world is as it was. -/
def PlaceS (b : Bool) (w : World) (e : Ending) (w' : World) : Prop := ∃ i : Int, e = .returned (.int .i64 i) ∧ (0 ≤ i ↔ b = true) ∧ w' = w

set_option maxRecDepth 20000 in
set_option maxHeartbeats 2000000 in
theorem indexFuncS_any (l : List Int) (p : Int → Bool) (D : Int → Prop) (v fv : Value) (w : World) (hrow : RowV w v (I l)) (ht : TestS w fv D p) (hD : ∀ x ∈ l, D x) :
    Calls Try.prog 74 #[v, fv] w (PlaceS (l.any p) w) := by
  obtain ⟨a, cap0, rfl, hc1, hc2, hat⟩ := hrow.ints
  obtain ⟨K, cap, rfl, hent, ht⟩ := ht
  have HT := Lib.hid (fun x hx => ht w (Below.refl _ _) x hx)
  have HAT := Lib.hid hat
  have HD := Lib.hid hD
  clear hrow hat ht hD
  unfold maxLen at hc2
  go_enter Try.func74, Try.ntmps74
  go_wp2_with fail
  go_loop [8] (fun i => ∃ k : Nat, k ≤ l.length ∧ i = .int .i64 k ∧ Hid ((l.take k).any p = false)) (fun i => l.length - (intOf i).toNat)
  case atStart => exact ⟨0, Nat.zero_le _, by go_num, by simp [Hid]⟩
  case round =>
    obtain ⟨k, hk, rfl, HO⟩ := hrel
    by_cases hlt : k < l.length
    · obtain ⟨g, o, rfl, hg, hcell⟩ := HAT.out k hlt
      have hltz : (k : Int) < (l.length : Int) := by omega
      have HC := HT.out l[k] (HD.out _ (List.getElem_mem hlt))
      rcases hb : p l[k] with _ | _
      · have HS : Hid ((l.take (k + 1)).any p = false) := by
          show _ = _
          rw [List.take_succ_eq_append_getElem hlt, List.any_append, HO.out]
          simp [hb]
        rw [hb] at HC
        have HCC := Lib.hid HC
        clear HC hb HO
        generalize l[k] = x at *
        go_wp2_with fail
        refine HCC.out.mono ?_
        rintro e w1 ⟨rfl, rfl⟩
        go_wp2_with fail
        go_round
        case rel => exact ⟨k + 1, by omega, by go_num, HS⟩
        case measure => simp [intOf]; omega
      · have HS : Hid (l.any p = true) := by
          show _ = _
          rw [List.any_eq_true]
          exact ⟨l[k], List.getElem_mem hlt, hb⟩
        rw [hb] at HC
        have HCC := Lib.hid HC
        clear HC hb HO
        generalize l[k] = x at *
        go_wp2_with fail
        refine HCC.out.mono ?_
        rintro e w1 ⟨rfl, rfl⟩
        go_wp2_with fail
        go_ret
        exact ⟨(k : Int), rfl, by rw [HS.out]; simp, rfl⟩
    · have HS : Hid (l.any p = false) := by
        show _ = _
        have := HO.out
        rwa [List.take_of_length_le (by omega)] at this
      have hltz : ¬ ((k : Int) < (l.length : Int)) := by omega
      clear HO
      go_wp2_with fail
      go_ret
      exact ⟨-1, rfl, by rw [HS.out]; simp, rfl⟩

set_option maxRecDepth 20000 in
set_option maxHeartbeats 1000000 in
theorem containsFuncS_any (l : List Int) (p : Int → Bool) (D : Int → Prop) (v fv : Value) (w : World) (hrow : RowV w v (I l)) (ht : TestS w fv D p) (hD : ∀ x ∈ l, D x) :
    Calls Try.prog 81 #[v, fv] w (BoolS (l.any p) w) := by
  have HC := Lib.hid (indexFuncS_any l p D v fv w hrow ht hD)
  clear hrow ht hD
  go_enter Try.func81, Try.ntmps81
  go_wp2_with fail
  refine HC.out.mono ?_
  rintro e w1 ⟨i, rfl, hi, rfl⟩
  have HI := Lib.hid hi
  clear hi HC
  go_wp2_with fail
  go_ret
  refine ⟨?_, rfl⟩
  show Ending.returned (.bool (decide (0 ≤ i))) = _
  congr 2
  rw [Bool.eq_iff_iff, decide_eq_true_eq]
  exact HI.out

/-- A function value is handed back that tells whether p, and only reads. -/
def TestSPost (D : Int → Prop) (p : Int → Bool) (w : World) (e : Ending) (w' : World) : Prop := ∃ fv, e = .returned fv ∧ TestS w' fv D p ∧ Below w.heap.size w w'

end Go.Proofs.Ytgolhfmmlanmlaa

/- Walks: the reference's l6Some, l6Touched, TouchedBy, IsClosed. -/
namespace Go.Proofs.Ytgolhfmmlanmlaa
open Go.RowKit Pth

theorem touch1_in {n : Nat} {k : Int} (hk : 0 ≤ k ∧ k < (n : Int)) (nd : List Int) : ∀ {out : List Int}, (∀ x ∈ out, 0 ≤ x ∧ x < (n : Int)) → ∀ x ∈ touch1 k out nd, 0 ≤ x ∧ x < (n : Int) := by
  induction nd with
  | nil => intro out h; exact h
  | cons a b ih =>
    intro o ho
    refine ih (fun x hx0 => ?_)
    have hx : x ∈ (if hasL o a then putL o k else o) := hx0
    split at hx
    · rcases mem_put.1 hx with rfl | hx
      · exact hk
      · exact ho x hx
    · exact ho x hx
theorem short_in {l : List Int} {n : Nat} (hr : Rise l) (h : ∀ x ∈ l, 0 ≤ x ∧ x < (n : Int)) : l.length ≤ n := by
  have := rise_len (lo := 0) (hi := (n : Int) - 1) hr (fun x hx => by have := h x hx; omega) (by omega)
  omega

end Go.Proofs.Ytgolhfmmlanmlaa

/- Walks: the reference's l6Needed, NeededFor. -/
namespace Go.Proofs.Ytgolhfmmlanmlaa
open Go.RowKit Pth

end Go.Proofs.Ytgolhfmmlanmlaa

/- Walks: the reference's ReadyWith and MustMake. -/
namespace Go.Proofs.Ytgolhfmmlanmlaa
open Go.RowKit Pth

/-- One that is not among some, and so many of what it needs are. -/
def readyK (cs : List Int) (k : Int) (nd : List Int) : Bool := !hasL cs k && !nd.any (fun x => !hasL cs x)
theorem readyK_snoc (cs : List Int) (k : Int) (nd : List Int) (x : Int) : readyK cs k (nd ++ [x]) = (readyK cs k nd && hasL cs x) := by
  unfold readyK
  rw [List.any_append]
  cases hasL cs k <;> cases nd.any (fun x => !hasL cs x) <;> cases hx : hasL cs x <;> simp [hx]
theorem readyK_nil (cs : List Int) (k : Int) : readyK cs k [] = !hasL cs k := by unfold readyK; simp
theorem readyK_all {ls : List (List Int)} {cs : List Int} {k : Nat} (hk : k < ls.length) : readyK cs k ls[k] = readyP ls cs k := by unfold readyK readyP; rw [needsAt_get hk]
theorem upto_yes {p : Int → Bool} {k : Nat} (h : p (k : Int) = true) : (upto (k + 1)).filter p = (upto k).filter p ++ [(k : Int)] := by
  rw [upto_succ, List.filter_append, List.filter_cons, h]; rfl
theorem upto_no {p : Int → Bool} {k : Nat} (h : p (k : Int) = false) : (upto (k + 1)).filter p = (upto k).filter p := by
  rw [upto_succ, List.filter_append, List.filter_cons, h]; simp

/-- One that is touched and needed. -/
noncomputable def mustP (ls : List (List Int)) (cs ds : List Int) (y : Int) : Bool := hasL (touchS ls cs) y && hasL (needS ls ds) y
noncomputable def mustA_v (ls : List (List Int)) (l cs ds : List Int) : List Int := l.filter (mustP ls cs ds)
noncomputable def mustA (ls : List (List Int)) (l cs ds : List Int) : List Int := if someG ls l cs && someG ls l ds then mustA_v ls l cs ds else []
theorem mustA_no {ls : List (List Int)} {l cs ds : List Int} (h : (someG ls l cs && someG ls l ds) = false) : mustA ls l cs ds = [] := by unfold mustA; rw [h]; rfl
theorem mustA_yes {ls : List (List Int)} {l cs ds : List Int} (h : (someG ls l cs && someG ls l ds) = true) : mustA ls l cs ds = mustA_v ls l cs ds := by unfold mustA; rw [h]; rfl
theorem mustA_short (ls : List (List Int)) (l cs ds : List Int) : (mustA ls l cs ds).length ≤ 1000000 := by
  rcases h : (someG ls l cs && someG ls l ds) with _ | _
  · rw [mustA_no h]; simp
  · rw [mustA_yes h]
    have h1 := (some_yes2 h).1.high
    have h2 := (some_yes2 h).1.same
    exact Nat.le_trans (List.length_filter_le _ _) (by omega)

end Go.Proofs.Ytgolhfmmlanmlaa

/- Marks as mathematics; markUsers again, with what it leaves as it was. -/
namespace Go.Proofs.Ytgolhfmmlanmlaa
open Go.RowKit Pth

theorem Up.congr {ls : List (List Int)} {l : List Int} (hg : GoodP ls l) {P Q : Int → Prop} (h : ∀ z ∈ l, P z → Q z) {y : Int} (hy : y ∈ l) (hu : Up ls P y) : Up ls Q y := by
  induction hu with
  | base hp => exact .base (h _ hy hp)
  | @step k x h0 hx _ ih =>
    obtain ⟨i, hi, rfl⟩ := List.getElem_of_mem hy
    exact .step h0 hx (ih (List.mem_of_mem_take (hg.needs_take hi hx)))
theorem Dn.congr {ls : List (List Int)} {l : List Int} (hg : GoodP ls l) {P Q : Int → Prop} (h : ∀ z ∈ l, P z → Q z) (hP : ∀ z, P z → z ∈ l) {y : Int} (hu : Dn ls P y) : Dn ls Q y := by
  have key : ∀ {y}, Dn ls P y → y ∈ l := by
    intro y hy
    cases hy with
    | base hp => exact hP _ hp
    | @step k u h0 hx _ =>
      obtain ⟨i, hi, rfl⟩ := List.getElem_of_mem (hg.all.2 ⟨h0, needs_in h0 hx⟩)
      exact List.mem_of_mem_take (hg.needs_take hi hx)
  induction hu with
  | base hp => exact .base (h _ (hP _ hp) hp)
  | step h0 hx _ ih => exact .step h0 hx ih
theorem markB_set {bs : List Bool} {u : Nat} {b : Bool} {z : Int} (hu : u < bs.length) (hz : 0 ≤ z) : markB (bs.set u b) z = if z = (u : Int) then b else markB bs z := by
  obtain ⟨n, rfl⟩ : ∃ n : Nat, z = n := ⟨z.toNat, by omega⟩
  unfold markB
  rw [show ((n : Int)).toNat = n by omega, List.getD_eq_getElem?_getD, List.getD_eq_getElem?_getD, List.getElem?_set]
  by_cases h : n = u
  · subst h; simp [hu]
  · rw [if_neg (fun e => h e.symm), if_neg (by omega)]
theorem markOne_mem {u : Nat} {nd : List Int} (hn : (u : Int) ∉ nd) (h0 : ∀ x ∈ nd, 0 ≤ x) : ∀ {bs : List Bool} (_ : u < bs.length) {y : Int} (_ : 0 ≤ y), markB (markOne u bs nd) y = true ↔ markB bs y = true ∨ (y = (u : Int) ∧ ∃ x ∈ nd, markB bs x = true) := by
  induction nd with
  | nil => intro bs hu y hy; simp [markOne]
  | cons x r ih =>
    intro bs hu y hy
    rw [List.mem_cons, not_or] at hn
    have hx0 := h0 x (by simp)
    show markB (markOne u (bs.set u (markB bs u || markB bs x)) r) y = true ↔ _
    have hlen : u < (bs.set u (markB bs u || markB bs x)).length := by rw [List.length_set]; exact hu
    rw [ih hn.2 (fun z hz => h0 z (by simp [hz])) hlen hy, markB_set hu hy]
    have key : ∀ z ∈ r, markB (bs.set u (markB bs u || markB bs x)) z = markB bs z := fun z hz => by
      rw [markB_set hu (h0 z (by simp [hz])), if_neg (fun e => hn.2 (by rw [← e]; exact hz))]
    by_cases hyu : y = (u : Int)
    · subst hyu
      rw [if_pos rfl, Bool.or_eq_true]
      constructor
      · rintro ((h | h) | ⟨_, z, hz, h⟩)
        · exact .inl h
        · exact .inr ⟨rfl, x, by simp, h⟩
        · exact .inr ⟨rfl, z, by simp [hz], by rw [← key z hz]; exact h⟩
      · rintro (h | ⟨_, z, hz, h⟩)
        · exact .inl (.inl h)
        · rw [List.mem_cons] at hz
          rcases hz with rfl | hz
          · exact .inl (.inr h)
          · exact .inr ⟨rfl, z, hz, by rw [key z hz]; exact h⟩
    · rw [if_neg hyu]
      constructor
      · rintro (h | ⟨h, _⟩)
        · exact .inl h
        · exact absurd h hyu
      · rintro (h | ⟨h, _⟩)
        · exact .inl h
        · exact absurd h hyu
theorem markUs_up {ls : List (List Int)} {l : List Int} (hg : GoodP ls l) {bs : List Bool} (hb : bs.length = ls.length) : ∀ y ∈ l, (markB (markUs ls bs l) y = true ↔ Up ls (fun z => markB bs z = true) y) := by
  have := up_whole hg (P := fun z => markB bs z = true) (S := fun k y => markB (markUs ls bs (l.take k)) y = true) (fun y _ => by simp [markUs]) (fun k hk y hy => by
    show markB (markUs ls bs (l.take (k + 1))) y = true ↔ _
    have hr := hg.range _ (List.getElem_mem hk)
    obtain ⟨u, hu⟩ : ∃ u : Nat, l[k] = u := ⟨l[k].toNat, by omega⟩
    have hs := hg.self hk
    have hn0 : ∀ x ∈ needsAt ls l[k], 0 ≤ x := fun x hx => (hg.range x (List.mem_of_mem_take (hg.needs_take hk hx))).1
    rw [List.take_succ_eq_append_getElem hk, markUs_snoc]
    rw [hu] at hs hn0 ⊢
    rw [show ((u : Int)).toNat = u by omega]
    exact markOne_mem hs hn0 (by rw [markUs_len, hb]; omega) (hg.range y hy).1)
  simpa using this

/-- The marks of each of some, one by one. -/
def marksOf (F : List (List Int) → List Int → Nat → List Bool → List Bool) (ls : List (List Int)) (l cs : List Int) : List Bool := cs.foldl (fun b c => F ls l c.toNat b) (List.replicate ls.length false)
theorem marksOf_snoc (F : List (List Int) → List Int → Nat → List Bool → List Bool) (ls : List (List Int)) (l cs : List Int) (c : Int) : marksOf F ls l (cs ++ [c]) = F ls l c.toNat (marksOf F ls l cs) := by
  unfold marksOf; rw [List.foldl_append]; rfl
def usersF (ls : List (List Int)) (l : List Int) (t : Nat) (bs : List Bool) : List Bool := markUs ls (bs.set t true) l
theorem marksOf_len {F : List (List Int) → List Int → Nat → List Bool → List Bool} (hF : ∀ ls l t bs, (F ls l t bs).length = bs.length) (ls : List (List Int)) (l : List Int) (cs : List Int) : (marksOf F ls l cs).length = ls.length := by
  have key : ∀ (cs : List Int) (bs : List Bool), (cs.foldl (fun b c => F ls l c.toNat b) bs).length = bs.length := by
    intro cs
    induction cs with
    | nil => intro bs; rfl
    | cons c r ih => intro bs; rw [List.foldl_cons, ih, hF]
  unfold marksOf
  rw [key, List.length_replicate]
theorem usersF_len (ls : List (List Int)) (l : List Int) (t : Nat) (bs : List Bool) : (usersF ls l t bs).length = bs.length := by unfold usersF; rw [markUs_len, List.length_set]
theorem markB_none (n : Nat) (y : Int) : markB (List.replicate n false) y = false := by
  unfold markB
  rw [List.getD_eq_getElem?_getD, List.getElem?_replicate]
  split <;> rfl
theorem rev_ind {motive : List Int → Prop} (h0 : motive []) (hs : ∀ cs c, motive cs → motive (cs ++ [c])) : ∀ cs, motive cs := by
  intro cs
  have : ∀ n (cs : List Int), cs.length = n → motive cs := by
    intro n
    induction n with
    | zero => intro cs h; rw [List.eq_nil_of_length_eq_zero h]; exact h0
    | succ n ih =>
      intro cs h
      have hne : cs ≠ [] := fun e => by rw [e] at h; simp at h
      rw [← List.dropLast_concat_getLast hne]
      exact hs _ _ (ih _ (by rw [List.length_dropLast]; omega))
  exact this _ cs rfl
theorem users_marks {ls : List (List Int)} {l : List Int} (hg : GoodP ls l) : ∀ cs : List Int, (∀ x ∈ cs, 0 ≤ x ∧ x < (ls.length : Int)) → ∀ y ∈ l, (markB (marksOf usersF ls l cs) y = true ↔ Up ls (· ∈ cs) y) := by
  refine rev_ind ?_ ?_
  · intro _ y _
    show markB (List.replicate ls.length false) y = true ↔ _
    rw [markB_none]
    constructor
    · intro h; cases h
    · intro h; exact absurd (h.mono (Q := fun _ => False) (fun x hx => by simp at hx)) Up.none
  · intro cs c ih hc y hy
    have hcr := hc c (by simp)
    have ihc := ih (fun x hx => hc x (by simp [hx]))
    have hlen := marksOf_len usersF_len ls l cs
    obtain ⟨t, rfl⟩ : ∃ t : Nat, c = t := ⟨c.toNat, by omega⟩
    rw [marksOf_snoc, show ((t : Int)).toNat = t by omega, usersF, markUs_up hg (by rw [List.length_set, hlen]) y hy]
    have hset : ∀ z ∈ l, (markB ((marksOf usersF ls l cs).set t true) z = true ↔ z = (t : Int) ∨ Up ls (· ∈ cs) z) := fun z hz => by
      rw [markB_set (by omega) (hg.range z hz).1, ← ihc z hz]
      by_cases h : z = (t : Int)
      · simp [h]
      · rw [if_neg h]; simp [h]
    constructor
    · intro h
      refine Up.twice (P := fun z => z = (t : Int) ∨ Up ls (· ∈ cs) z) (fun x hx => ?_) (Up.congr hg (fun z hz h => (hset z hz).1 h) hy h)
      rcases hx with rfl | hx
      · exact .base (by simp)
      · exact hx.mono (fun z hz => by simp [hz])
    · intro h
      refine Up.congr hg (fun z hz h => (hset z hz).2 ?_) hy h
      rw [List.mem_append, List.mem_singleton] at h
      rcases h with h | h
      · exact .inr (.base h)
      · exact .inl h
theorem users_told {ls : List (List Int)} {l cs : List Int} (hg : GoodP ls l) (hc : ∀ x ∈ cs, 0 ≤ x ∧ x < (ls.length : Int)) : ∀ y ∈ l, markB (marksOf usersF ls l cs) y = hasL (touchS ls cs) y := by
  intro y hy
  rw [Bool.eq_iff_iff, users_marks hg cs hc y hy, hasL, decide_eq_true_iff, mem_touchS]
  exact ⟨fun h => ⟨hg.range y hy, h⟩, fun h => h.2⟩

end Go.Proofs.Ytgolhfmmlanmlaa

/- Walks: markedTest at a function value, touchedTest, TouchedBy of the program. -/
namespace Go.Proofs.Ytgolhfmmlanmlaa
open Go.RowKit Pth

theorem Blk1.beside {w w' : World} {b t : Nat} {x : Value} {r : Option Nat} (h : Blk1 w b t x) (hg : w.grownBy w' r) (hne : r ≠ some b) : Blk1 w' b t x := (hg.block b (lt_of_block h) (fun e => hne e.symm)).trans h
theorem TestS.congr {w : World} {fv : Value} {D : Int → Prop} {p q : Int → Bool} (h : TestS w fv D p) (he : ∀ x, D x → p x = q x) : TestS w fv D q := by
  obtain ⟨K, cap, h1, h2, h3⟩ := h
  exact ⟨K, cap, h1, h2, fun W hW x hx => by rw [← he x hx]; exact h3 W hW x hx⟩
theorem TestV.congr {w : World} {fv : Value} {D : Int → Prop} {p q : Int → Bool} (h : TestV w fv D p) (he : ∀ x, D x → p x = q x) : TestV w fv D q := by
  obtain ⟨K, cap, h1, h2, h3⟩ := h
  exact ⟨K, cap, h1, h2, fun W hW x hx => by rw [← he x hx]; exact h3 W hW x hx⟩

/-- A function that marks: what it makes of the marks, and that nothing else has turned. -/
def MarkC (K : FuncId) (F : List (List Int) → List Int → Nat → List Bool → List Bool) : Prop :=
  ∀ (ls : List (List Int)) (l : List Int) (t : Nat) (bs : List Bool) (nv ov : Value) (gm cm : Nat) (w0 w : World), GoodG ls l → GraphV w0 (.agg #[nv, ov]) ls l → Below w0.heap.size w0 w →
    w.ownsRow w0.heap.size 4 1 (.slice (some ⟨gm, 0, none⟩) bs.length cm) bs.length (Bo bs) → bs.length = ls.length → t < ls.length →
    Calls Try.prog K #[.agg #[nv, ov], ov, .int .i64 (t : Int), .slice (some ⟨gm, 0, none⟩) bs.length cm] w fun e w' => e = .returned (.tuple #[]) ∧ w'.ownsRow w0.heap.size 4 1 (.slice (some ⟨gm, 0, none⟩) bs.length cm) bs.length (Bo (F ls l t bs)) ∧ w.grownBy w' (some gm)
end Go.Proofs.Ytgolhfmmlanmlaa

/- Walks: slices.Backward and markNeeds, a range over a function, inside the wide fence. -/
namespace Go.Proofs.Ytgolhfmmlanmlaa
open Go.RowKit Go.Shelf Pth

attribute [local go_sem] Oper.semAt_some

/-- A place and what stands there, of a list. -/
abbrev InL (zs : List Int) : Type := { p : Nat × Int // p.2 ∈ zs }
def inAt (zs : List Int) (hne : 0 < zs.length) (i : Nat) : InL zs := if h : i < zs.length then ⟨(i, zs[i]), List.getElem_mem h⟩ else ⟨(0, zs[0]), List.getElem_mem hne⟩
theorem inAt_is {zs : List Int} {hne : 0 < zs.length} {i : Nat} (h : i < zs.length) : (inAt zs hne i).1.1 = i ∧ (inAt zs hne i).1.2 = zs[i] := by
  unfold inAt; rw [dif_pos h]; exact ⟨rfl, rfl⟩
/-- What comes from the back on, down to a place. -/
def downL (zs : List Int) (hne : 0 < zs.length) (j : Nat) : List (InL zs) := ((List.range zs.length).drop j).reverse.map (inAt zs hne)
theorem downL_end (zs : List Int) (hne : 0 < zs.length) : downL zs hne zs.length = [] := by unfold downL; rw [List.drop_of_length_le (by simp)]; rfl
theorem downL_next (zs : List Int) (hne : 0 < zs.length) {m : Nat} (hm : m < zs.length) : downL zs hne m = downL zs hne (m + 1) ++ [inAt zs hne m] := by
  unfold downL
  rw [List.drop_eq_getElem_cons (by simpa using hm), List.reverse_cons, List.map_append]
  simp
theorem downL_len (zs : List Int) (hne : 0 < zs.length) (j : Nat) : (downL zs hne j).length = zs.length - j := by unfold downL; simp
/-- Nothing but one block of those that lay has turned. -/
def KeepN (N g : Nat) (A B : World) : Prop := ∀ i, i < N → i ≠ g → B.heap[i]? = A.heap[i]?
theorem KeepN.refl (N g : Nat) (A : World) : KeepN N g A A := fun _ _ _ => rfl
theorem KeepN.trans {N g : Nat} {A B C : World} (h : KeepN N g A B) (k : KeepN N g B C) : KeepN N g A C := fun i hi hn => (k i hi hn).trans (h i hi hn)
theorem cell_heap {A B : World} {i o : Nat} (h : B.heap[i]? = A.heap[i]?) : B.cell? ⟨i, o, none⟩ = A.cell? ⟨i, o, none⟩ := by
  unfold World.cell?
  simp only [h]
theorem KeepN.cell {N g i o : Nat} {A B : World} (h : KeepN N g A B) (hi : i < N) (hn : i ≠ g) : B.cell? ⟨i, o, none⟩ = A.cell? ⟨i, o, none⟩ := cell_heap (h i hi hn)
theorem keepN_b {N g : Nat} {w : World} (hn : N ≤ w.heap.size) (W : World) (l : Nat) (o o' : Obj) (hl : w.heap.size ≤ l) (_ : W.heap[l]? = some o) (_ : o.isCells = false) (_ : o.isWalk = false) : KeepN N g W (W.putObj l o') := fun i hi _ => World.putObj_heap_other (fun e => by omega)

end Go.Proofs.Ytgolhfmmlanmlaa

/- Marks of what is needed; markNeeds; neededTest and NeededFor of the program. -/
namespace Go.Proofs.Ytgolhfmmlanmlaa
open Go.RowKit Go.Shelf Pth

attribute [local go_sem] Oper.semAt_some

def nd1 (bs : List Bool) (nd : List Int) : List Bool := nd.foldl (fun b x => b.set x.toNat true) bs
/-- What one needs is marked, where it is marked itself. -/
def markStep (ls : List (List Int)) (b : List Bool) (x : Int) : List Bool := if markB b x then nd1 b (needsAt ls x) else b
def markNd (ls : List (List Int)) (bs : List Bool) (st : List Int) : List Bool := st.foldr (fun x b => markStep ls b x) bs
theorem nd1_len (nd : List Int) : ∀ bs, (nd1 bs nd).length = bs.length := by
  unfold nd1
  induction nd with
  | nil => intro bs; rfl
  | cons x r ih => intro bs; rw [List.foldl_cons, ih, List.length_set]
theorem nd1_snoc (bs : List Bool) (nd : List Int) (x : Int) : nd1 bs (nd ++ [x]) = (nd1 bs nd).set x.toNat true := by unfold nd1; rw [List.foldl_append]; rfl
theorem markStep_len (ls : List (List Int)) (b : List Bool) (x : Int) : (markStep ls b x).length = b.length := by
  unfold markStep; split
  · exact nd1_len _ _
  · rfl
theorem markNd_len (ls : List (List Int)) (st : List Int) (bs : List Bool) : (markNd ls bs st).length = bs.length := by
  induction st with
  | nil => rfl
  | cons x r ih => show (markStep ls (markNd ls bs r) x).length = _; rw [markStep_len, ih]
theorem markNd_drop {ls : List (List Int)} {bs : List Bool} {l : List Int} {k : Nat} (hk : k < l.length) : markNd ls bs (l.drop k) = markStep ls (markNd ls bs (l.drop (k + 1))) l[k] := by
  rw [List.drop_eq_getElem_cons hk]; rfl
theorem nd1_mem {nd : List Int} (h0 : ∀ x ∈ nd, 0 ≤ x) : ∀ {bs : List Bool} (_ : ∀ x ∈ nd, x < (bs.length : Int)) {y : Int} (_ : 0 ≤ y), markB (nd1 bs nd) y = true ↔ markB bs y = true ∨ y ∈ nd := by
  induction nd with
  | nil => intro bs _ y _; simp [nd1]
  | cons x r ih =>
    intro bs hb y hy
    have hx0 := h0 x (by simp)
    have hxb := hb x (by simp)
    show markB (nd1 (bs.set x.toNat true) r) y = true ↔ _
    rw [ih (fun z hz => h0 z (by simp [hz])) (fun z hz => by rw [List.length_set]; exact hb z (by simp [hz])) hy, markB_set (by omega) hy, show ((x.toNat : Nat) : Int) = x by omega, List.mem_cons]
    by_cases h : y = x
    · simp [h]
    · rw [if_neg h]; simp [h]
theorem markStep_mem {ls : List (List Int)} {b : List Bool} {u : Int} (h : ∀ x ∈ needsAt ls u, 0 ≤ x ∧ x < (b.length : Int)) {y : Int} (hy : 0 ≤ y) : markB (markStep ls b u) y = true ↔ markB b y = true ∨ (markB b u = true ∧ y ∈ needsAt ls u) := by
  unfold markStep
  by_cases hu : markB b u = true
  · rw [if_pos hu, nd1_mem (fun x hx => (h x hx).1) (fun x hx => (h x hx).2) hy]; simp [hu]
  · rw [if_neg hu]; simp [hu]
theorem Dn.congr2 {ls : List (List Int)} {l : List Int} (hg : GoodP ls l) {P Q : Int → Prop} (h : ∀ z ∈ l, P z → Q z) {y : Int} (hy : y ∈ l) (hu : Dn ls P y) : Dn ls Q y := by
  induction hu with
  | base hp => exact .base (h _ hy hp)
  | step h0 hx _ ih => exact .step h0 hx (ih (hg.all.2 ⟨h0, needs_in h0 hx⟩))
theorem markNd_dn {ls : List (List Int)} {l : List Int} (hg : GoodP ls l) {bs : List Bool} (hb : bs.length = ls.length) : ∀ y ∈ l, (markB (markNd ls bs l) y = true ↔ Dn ls (fun z => markB bs z = true) y) := by
  have := dn_whole hg (P := fun z => markB bs z = true) (S := fun j y => markB (markNd ls bs (l.drop (l.length - j))) y = true) (fun y _ => by simp [markNd]) (fun k hk y hy => by
    show markB (markNd ls bs (l.drop (l.length - (l.length - k)))) y = true ↔ markB (markNd ls bs (l.drop (l.length - (l.length - (k + 1))))) y = true ∨ (markB (markNd ls bs (l.drop (l.length - (l.length - (k + 1))))) l[k] = true ∧ _)
    rw [show l.length - (l.length - k) = k by omega, show l.length - (l.length - (k + 1)) = k + 1 by omega, markNd_drop hk]
    have hr := hg.range _ (List.getElem_mem hk)
    refine markStep_mem (fun x hx => ?_) (hg.range y hy).1
    rw [markNd_len, hb]
    exact hg.range x (List.mem_of_mem_take (hg.needs_take hk hx)))
  simpa using this
def needsF (ls : List (List Int)) (l : List Int) (t : Nat) (bs : List Bool) : List Bool := markNd ls (bs.set t true) l
theorem needsF_len (ls : List (List Int)) (l : List Int) (t : Nat) (bs : List Bool) : (needsF ls l t bs).length = bs.length := by unfold needsF; rw [markNd_len, List.length_set]
theorem needs_marks {ls : List (List Int)} {l : List Int} (hg : GoodP ls l) : ∀ cs : List Int, (∀ x ∈ cs, 0 ≤ x ∧ x < (ls.length : Int)) → ∀ y ∈ l, (markB (marksOf needsF ls l cs) y = true ↔ Dn ls (· ∈ cs) y) := by
  refine rev_ind ?_ ?_
  · intro _ y _
    show markB (List.replicate ls.length false) y = true ↔ _
    rw [markB_none]
    constructor
    · intro h; cases h
    · intro h; exact absurd (h.mono (Q := fun _ => False) (fun x hx => by simp at hx)) Dn.none
  · intro cs c ih hc y hy
    have hcr := hc c (by simp)
    have ihc := ih (fun x hx => hc x (by simp [hx]))
    have hlen := marksOf_len needsF_len ls l cs
    obtain ⟨t, rfl⟩ : ∃ t : Nat, c = t := ⟨c.toNat, by omega⟩
    rw [marksOf_snoc, show ((t : Int)).toNat = t by omega, needsF, markNd_dn hg (by rw [List.length_set, hlen]) y hy]
    have hset : ∀ z ∈ l, (markB ((marksOf needsF ls l cs).set t true) z = true ↔ z = (t : Int) ∨ Dn ls (· ∈ cs) z) := fun z hz => by
      rw [markB_set (by omega) (hg.range z hz).1, ← ihc z hz]
      by_cases h : z = (t : Int)
      · simp [h]
      · rw [if_neg h]; simp [h]
    constructor
    · intro h
      refine Dn.twice (P := fun z => z = (t : Int) ∨ Dn ls (· ∈ cs) z) (fun x hx => ?_) (Dn.congr2 hg (fun z hz h => (hset z hz).1 h) hy h)
      rcases hx with rfl | hx
      · exact .base (by simp)
      · exact hx.mono (fun z hz => by simp [hz])
    · intro h
      refine Dn.congr2 hg (fun z hz h => (hset z hz).2 ?_) hy h
      rw [List.mem_append, List.mem_singleton] at h
      rcases h with h | h
      · exact .inr (.base h)
      · exact .inl h
theorem needs_told {ls : List (List Int)} {l cs : List Int} (hg : GoodP ls l) (hc : ∀ x ∈ cs, 0 ≤ x ∧ x < (ls.length : Int)) : ∀ y ∈ l, markB (marksOf needsF ls l cs) y = hasL (needS ls cs) y := by
  intro y hy
  rw [Bool.eq_iff_iff, needs_marks hg cs hc y hy, hasL, decide_eq_true_iff, mem_needS]
  exact ⟨fun h => ⟨hg.range y hy, h⟩, fun h => h.2⟩

/-- The marks behind so many rounds. -/
def ndPre (ls : List (List Int)) (bs : List Bool) {zs : List Int} (pre : List (InL zs)) : List Bool := pre.foldl (fun b p => markStep ls b p.1.2) bs
theorem ndPre_snoc (ls : List (List Int)) (bs : List Bool) {zs : List Int} (pre : List (InL zs)) (x : InL zs) : ndPre ls bs (pre ++ [x]) = markStep ls (ndPre ls bs pre) x.1.2 := by unfold ndPre; rw [List.foldl_append]; rfl
theorem ndPre_len (ls : List (List Int)) {zs : List Int} (pre : List (InL zs)) : ∀ bs : List Bool, (ndPre ls bs pre).length = bs.length := by
  induction pre with
  | nil => intro bs; rfl
  | cons x r ih => intro bs; show (ndPre ls (markStep ls bs x.1.2) r).length = _; rw [ih, markStep_len]
theorem ndPre_down (ls : List (List Int)) (bs : List Bool) (zs : List Int) (hne : 0 < zs.length) : ∀ d j, j + d = zs.length → ndPre ls bs (downL zs hne j) = markNd ls bs (zs.drop j) := by
  intro d
  induction d with
  | zero =>
    intro j hj
    obtain rfl : j = zs.length := by omega
    rw [downL_end, List.drop_length]
    rfl
  | succ d ih =>
    intro j hj
    have hjl : j < zs.length := by omega
    rw [downL_next zs hne hjl, ndPre_snoc, ih (j + 1) (by omega), (inAt_is hjl).2, markNd_drop hjl]
theorem ndPre_all (ls : List (List Int)) (bs : List Bool) (zs : List Int) (hne : 0 < zs.length) : ndPre ls bs (downL zs hne 0) = markNd ls bs zs := by
  rw [ndPre_down ls bs zs hne zs.length 0 (by omega), List.drop_zero]

theorem own_keptQ {w w' : World} {B e n : Nat} {v : Value} {xs : List Value} {row : Option Nat} (h : w.ownsRow B e 1 v n xs) (hg : w.grownBy w' row) (hr : ∀ r, row = some r → ∃ o : Obj, w.heap[r]? = some o ∧ o.isCells = false) : w'.ownsRow B e 1 v n xs := by
  refine ⟨h.1, ?_⟩
  rcases h.2 with h0 | ⟨g, cap, cur, hv, hB, hh, r⟩
  · exact .inl h0
  · refine .inr ⟨g, cap, cur, hv, hB, (hg.block g (lt_of_block hh) (fun hi => ?_)).trans hh, r⟩
    obtain ⟨o, ho, hc⟩ := hr g hi.symm
    rw [hh] at ho
    injection ho with ho
    subst ho
    simp [Obj.isCells] at hc
theorem block_kept {w w' : World} {b t : Nat} {cs : Array Value} {row : Option Nat} (h : w.heap[b]? = some (.cells cs t (0, 0))) (hg : w.grownBy w' row) (hr : ∀ r, row = some r → ∃ o : Obj, w.heap[r]? = some o ∧ o.isCells = false) : w'.heap[b]? = some (.cells cs t (0, 0)) := by
  refine (hg.block b (lt_of_block h) (fun hi => ?_)).trans h
  obtain ⟨o, ho, hc⟩ := hr b hi.symm
  rw [h] at ho
  injection ho with ho
  subst ho
  simp [Obj.isCells] at hc
theorem grown_more {w W W' : World} {g B : Nat} {row : Option Nat} (h : w.grownBy W (some g)) (hg : W.grownBy W' row) (hB : w.heap.size ≤ B) (hr : ∀ r, row = some r → B ≤ r) : w.grownBy W' (some g) :=
  ⟨hg.os.trans h.os, hg.tape.trans h.tape, hg.output.trans h.output, Nat.le_trans h.size hg.size, fun i hi hn => (hg.block i (Nat.lt_of_lt_of_le hi h.size) (fun e => by have := hr i e.symm; omega)).trans (h.block i hi hn)⟩
/-- What holds between two rounds. -/
def NdAt (nb : Nat) (ls : List (List Int)) (bs : List Bool) (nv ov : Value) (gm cm : Nat) (w0 w : World) {zs : List Int} (pre : List (InL zs)) (W : World) : Prop :=
  W.ownsRow w0.heap.size 4 1 (.slice (some ⟨gm, 0, none⟩) nb cm) nb (Bo (ndPre ls bs pre)) ∧ Blk2 W w.heap.size 26 nv ov ∧ Blk1 W (w.heap.size + 1) 87 (.slice (some ⟨gm, 0, none⟩) nb cm) ∧ Below w0.heap.size w0 W ∧ w.grownBy W (some gm) ∧ w.heap.size + 3 ≤ W.heap.size
theorem ndAt_own {nb : Nat} {ls : List (List Int)} {bs : List Bool} {nv ov : Value} {gm cm : Nat} {w0 w : World} {zs : List Int} {B : Nat} (h0 : w0.heap.size ≤ w.heap.size) (hB : w.heap.size ≤ B) : OwnFrom B (NdAt nb ls bs nv ov gm cm w0 w (zs := zs)) := by
  intro s W W' row hs hg hr
  obtain ⟨h1, h2, h3, h4, h5, h6⟩ := hs
  have hr' : ∀ r, row = some r → ∃ o : Obj, W.heap[r]? = some o ∧ o.isCells = false := fun r e => (hr r e).2
  exact ⟨own_keptQ h1 hg hr', block_kept h2 hg hr', block_kept h3 hg hr', h4.grown hg h4.size (fun k e => by have := (hr k e).1; omega), grown_more h5 hg hB (fun r e => (hr r e).1), Nat.le_trans h6 hg.size⟩

end Go.Proofs.Ytgolhfmmlanmlaa

/- Walks: the tasks that moved. -/
namespace Go.Proofs.Ytgolhfmmlanmlaa
open Go.RowKit Pth

/-- Those of the first list that lie otherwise in the second. -/
def movedL (a b : List Int) : List Int := ((a.zip b).filter (fun p => p.2 != p.1)).map (fun p => p.1)
theorem movedL_len (a b : List Int) : (movedL a b).length ≤ a.length := by
  unfold movedL
  rw [List.length_map]
  exact Nat.le_trans (List.length_filter_le _ _) (by rw [List.length_zip]; omega)
theorem movedL_snoc {a b : List Int} {k : Nat} (ha : k < a.length) (hb : k < b.length) : movedL (a.take (k + 1)) (b.take (k + 1)) = movedL (a.take k) (b.take k) ++ if b[k] != a[k] then [a[k]] else [] := by
  unfold movedL
  rw [List.take_succ_eq_append_getElem ha, List.take_succ_eq_append_getElem hb, List.zip_append (by rw [List.length_take, List.length_take]; omega), List.filter_append, List.map_append]
  congr 1
  simp only [List.zip_cons_cons, List.zip_nil_left, List.filter_cons, List.filter_nil]
  split <;> rfl

end Go.Proofs.Ytgolhfmmlanmlaa

/- Plain mathematics of a mended order: marks along a stretch, places that are taken, what moved. -/
namespace Go.Proofs.Ytgolhfmmlanmlaa
open Go.RowKit Pth

/-- What leads on to a task stands behind it. -/
theorem Up.pos_le {ls : List (List Int)} {l : List Int} (hg : GoodP ls l) {t y : Int} (hy : y ∈ l) (h : Up ls (· = t) y) : t ∈ l ∧ pos l t ≤ pos l y := by
  induction h with
  | base h => subst h; exact ⟨hy, Nat.le_refl _⟩
  | @step k x h0 hx _ ih =>
    obtain ⟨i, hi, rfl⟩ := List.getElem_of_mem hy
    have hm := hg.needs_take hi hx
    have h1 := (mem_take_pos.1 hm).2
    have h2 := ih (List.mem_of_mem_take hm)
    rw [pos_nodup hg.nodup hi]
    exact ⟨h2.1, by omega⟩
theorem up_way {ls : List (List Int)} {l : List Int} (hg : GoodP ls l) {t y : Int} (hy : y ∈ l) : Up ls (· = t) y ↔ 0 ≤ farI ls t y := by
  constructor
  · intro h
    have key : ∀ {y}, Up ls (· = t) y → ∃ m, Pth.Way ls t m y := by
      intro y h
      induction h with
      | base h => exact ⟨0, h⟩
      | step _ hx _ ih => obtain ⟨m, hm⟩ := ih; exact ⟨m + 1, _, hx, hm⟩
    obtain ⟨m, hm⟩ := key h
    exact (farI_le hm).1
  · intro h
    have key : ∀ (m : Nat) {y : Int}, y ∈ l → Pth.Way ls t m y → Up ls (· = t) y := by
      intro m
      induction m with
      | zero => intro y _ h; exact .base h
      | succ m ih =>
        intro y hy h
        obtain ⟨x, hx, hw⟩ := h
        obtain ⟨i, hi, rfl⟩ := List.getElem_of_mem hy
        exact .step (hg.range _ hy).1 hx (ih (List.mem_of_mem_take (hg.needs_take hi hx)) hw)
    exact key _ hy (farI_way h)
theorem up_trans {ls : List (List Int)} {s t y : Int} (h : Up ls (· = s) y) (h2 : Up ls (· = t) s) : Up ls (· = t) y := h.twice (fun x hx => by rw [hx]; exact h2)
theorem dn_up {ls : List (List Int)} {l : List Int} (hg : GoodP ls l) {z y : Int} (hz : z ∈ l) (hy : y ∈ l) : Dn ls (· = z) y ↔ Up ls (· = y) z := by
  constructor
  · intro h
    have key : ∀ {y : Int}, Dn ls (· = z) y → Up ls (· = y) z := by
      intro y h
      induction h with
      | base h => exact .base h.symm
      | step h0 hx _ ih => exact up_trans ih (.step h0 hx (.base rfl))
    exact key h
  · intro h
    have key : ∀ {z : Int}, Up ls (· = y) z → Dn ls (· = z) y := by
      intro z h
      induction h with
      | base h => exact .base h.symm
      | @step k x h0 hx _ ih => exact ih.twice (fun u hu => by rw [hu]; exact .step h0 hx (.base rfl))
    exact key h

/-- Along the order, up to a place. -/
theorem up_part {ls : List (List Int)} {l : List Int} (hg : GoodP ls l) {P : Int → Prop} {S : Nat → Int → Prop} (K : Nat) (h0 : ∀ y ∈ l, S 0 y ↔ P y)
    (hs : ∀ k (hk : k < l.length), k < K → ∀ y ∈ l, (S (k + 1) y ↔ S k y ∨ (y = l[k] ∧ ∃ x ∈ needsAt ls l[k], S k x))) :
    ∀ k, k ≤ l.length → k ≤ K → ∀ y ∈ l, (S k y ↔ P y ∨ (y ∈ l.take k ∧ Up ls P y)) := by
  intro k
  induction k with
  | zero => intro _ _ y hy; rw [h0 y hy]; simp
  | succ k ih =>
    intro hk hK y hy
    have hk' : k < l.length := by omega
    rw [hs k hk' (by omega) y hy, ih (by omega) (by omega) y hy]
    have hu0 := (hg.range l[k] (List.getElem_mem hk')).1
    constructor
    · rintro ((h | ⟨h1, h2⟩) | ⟨rfl, x, hx, hxs⟩)
      · exact .inl h
      · exact .inr ⟨List.mem_of_mem_take (i := k) (by rw [List.take_take, Nat.min_eq_left (by omega)]; exact h1), h2⟩
      · have hxl := hg.needs_take hk' hx
        refine .inr ⟨by rw [List.take_succ_eq_append_getElem hk']; exact List.mem_append.2 (.inr (List.mem_singleton.2 rfl)), ?_⟩
        rcases (ih (by omega) (by omega) x (List.mem_of_mem_take hxl)).1 hxs with h | ⟨_, h⟩
        · exact .step hu0 hx (.base h)
        · exact .step hu0 hx h
    · rintro (h | ⟨h1, h2⟩)
      · exact .inl (.inl h)
      · rw [List.take_succ_eq_append_getElem hk', List.mem_append, List.mem_singleton] at h1
        rcases h1 with h1 | rfl
        · exact .inl (.inr ⟨h1, h2⟩)
        · cases h2 with
          | base h => exact .inl (.inl h)
          | @step _ x _ hx hux =>
            have hxl := hg.needs_take hk' hx
            exact .inr ⟨rfl, x, hx, (ih (by omega) (by omega) x (List.mem_of_mem_take hxl)).2 (.inr ⟨hxl, hux⟩)⟩
/-- Against the order, down to a place. -/
theorem dn_part {ls : List (List Int)} {l : List Int} (hg : GoodP ls l) {P : Int → Prop} {S : Nat → Int → Prop} (K : Nat) (h0 : ∀ y ∈ l, S 0 y ↔ P y)
    (hs : ∀ k (hk : k < l.length), K ≤ k → ∀ y ∈ l, (S (l.length - k) y ↔ S (l.length - (k + 1)) y ∨ (S (l.length - (k + 1)) l[k] ∧ y ∈ needsAt ls l[k]))) :
    ∀ j, j ≤ l.length → K ≤ l.length - j → ∀ y ∈ l, (S j y ↔ P y ∨ ∃ i, ∃ hi : i < l.length, l.length - j ≤ i ∧ Dn ls P l[i] ∧ y ∈ needsAt ls l[i]) := by
  intro j
  induction j with
  | zero =>
    intro _ _ y hy
    rw [h0 y hy]
    constructor
    · exact .inl
    · rintro (h | ⟨i, hi, h, _⟩)
      · exact h
      · omega
  | succ j ih =>
    intro hj hK y hy
    have hk : l.length - (j + 1) < l.length := by omega
    have hst := hs (l.length - (j + 1)) hk (by omega) y hy
    rw [show l.length - (l.length - (j + 1)) = j + 1 by omega, show l.length - (l.length - (j + 1) + 1) = j by omega] at hst
    have hul := List.getElem_mem hk
    have hU : S j l[l.length - (j + 1)] ↔ Dn ls P l[l.length - (j + 1)] := by
      rw [ih (by omega) (by omega) _ hul]
      constructor
      · rintro (h | ⟨i, hi, _, h, hm⟩)
        · exact .base h
        · exact .step (hg.range _ (List.getElem_mem hi)).1 hm h
      · intro h
        cases h with
        | base h => exact .inl h
        | step hv0 hm hv =>
          rename_i v
          obtain ⟨i, hi, rfl⟩ := List.getElem_of_mem (hg.all.2 ⟨hv0, needs_in hv0 hm⟩)
          have h1 := (mem_take_pos.1 (hg.needs_take hi hm)).2
          rw [pos_nodup hg.nodup hk] at h1
          exact .inr ⟨i, hi, by omega, hv, hm⟩
    rw [hst, ih (by omega) (by omega) y hy, hU]
    constructor
    · rintro ((h | ⟨i, hi, h1, h2, h3⟩) | ⟨h1, h2⟩)
      · exact .inl h
      · exact .inr ⟨i, hi, by omega, h2, h3⟩
      · exact .inr ⟨_, hk, Nat.le_refl _, h1, h2⟩
    · rintro (h | ⟨i, hi, h1, h2, h3⟩)
      · exact .inl (.inl h)
      · rcases Nat.lt_or_ge i (l.length - j) with h4 | h4
        · obtain rfl : i = l.length - (j + 1) := by omega
          exact .inr ⟨h2, h3⟩
        · exact .inl (.inr ⟨i, hi, h4, h2, h3⟩)

/-- The stretch between two places. -/
def strL (l : List Int) (lo hi : Nat) : List Int := (l.take (hi + 1)).drop lo
theorem mem_strL {l : List Int} (hn : l.Nodup) {lo hi : Nat} {y : Int} : y ∈ strL l lo hi ↔ y ∈ l ∧ lo ≤ pos l y ∧ pos l y ≤ hi := by
  unfold strL
  constructor
  · intro h
    obtain ⟨i, hi', rfl⟩ := List.getElem_of_mem h
    rw [List.length_drop, List.length_take] at hi'
    rw [List.getElem_drop, List.getElem_take]
    have hl : lo + i < l.length := by omega
    exact ⟨List.getElem_mem hl, by rw [pos_nodup hn hl]; omega, by rw [pos_nodup hn hl]; omega⟩
  · rintro ⟨hm, h1, h2⟩
    rw [List.mem_iff_getElem]
    have hp := pos_lt hm
    refine ⟨pos l y - lo, by rw [List.length_drop, List.length_take]; omega, ?_⟩
    rw [List.getElem_drop, List.getElem_take]
    have e : lo + (pos l y - lo) = pos l y := by omega
    simp only [e]
    exact pos_get hm
theorem mark_one {n t : Nat} {z : Int} (ht : t < n) (hz : 0 ≤ z) : markB ((List.replicate n false).set t true) z = true ↔ z = (t : Int) := by
  rw [markB_set (by simpa using ht) hz, markB_none]
  by_cases h : z = (t : Int) <;> simp [h]

theorem users_stretch {ls : List (List Int)} {l : List Int} (hg : GoodP ls l) {t : Nat} (ht : t < ls.length) {lo hi : Nat} (hlo : pos l (t : Int) = lo) (hhi : hi < l.length) :
    ∀ y ∈ strL l lo hi, (markB (markUs ls ((List.replicate ls.length false).set t true) (strL l lo hi)) y = true ↔ Up ls (· = (t : Int)) y) := by
  intro y hy
  have hyl := ((mem_strL hg.nodup).1 hy)
  have htl : (t : Int) ∈ l := hg.all.2 ⟨by omega, by omega⟩
  have := up_part hg (P := (· = (t : Int))) (S := fun k y => markB (markUs ls ((List.replicate ls.length false).set t true) ((l.take k).drop lo)) y = true) (hi + 1) (fun y hy => by
    show markB (markUs ls _ ((l.take 0).drop lo)) y = true ↔ _
    simp only [List.take_zero, List.drop_nil]
    exact mark_one ht (hg.range y hy).1) (fun k hk _ y hy => by
    show markB (markUs ls _ ((l.take (k + 1)).drop lo)) y = true ↔ markB (markUs ls _ ((l.take k).drop lo)) y = true ∨ _
    rcases Nat.lt_or_ge k lo with h | h
    · rw [List.drop_of_length_le (by rw [List.length_take]; omega), List.drop_of_length_le (by rw [List.length_take]; omega)]
      constructor
      · exact .inl
      · rintro (h1 | ⟨_, x, hx, h1⟩)
        · exact h1
        · have hxl := hg.needs_take hk hx
          have e := (mark_one ht (hg.range x (List.mem_of_mem_take hxl)).1).1 h1
          have := (mem_take_pos.1 hxl).2
          rw [e, hlo] at this
          omega
    · rw [List.take_succ_eq_append_getElem hk, List.drop_append_of_le_length (by rw [List.length_take]; omega), markUs_snoc]
      have hr := hg.range _ (List.getElem_mem hk)
      obtain ⟨u, hu⟩ : ∃ u : Nat, l[k] = u := ⟨l[k].toNat, by omega⟩
      have hs := hg.self hk
      have hn0 : ∀ x ∈ needsAt ls l[k], 0 ≤ x := fun x hx => (hg.range x (List.mem_of_mem_take (hg.needs_take hk hx))).1
      rw [hu] at hs hn0 ⊢
      rw [show ((u : Int)).toNat = u by omega]
      exact markOne_mem hs hn0 (by rw [markUs_len, List.length_set, List.length_replicate]; omega) (hg.range y hy).1) (hi + 1) (by omega) (Nat.le_refl _) y hyl.1
  rw [show strL l lo hi = (l.take (hi + 1)).drop lo from rfl, this]
  constructor
  · rintro (h | ⟨_, h⟩)
    · exact .base h
    · exact h
  · exact fun h => .inr ⟨by rw [mem_take_pos]; exact ⟨hyl.1, by omega⟩, h⟩

theorem needs_stretch {ls : List (List Int)} {l : List Int} (hg : GoodP ls l) {t : Nat} (ht : t < ls.length) {lo hi : Nat} (hhi : pos l (t : Int) = hi) (hlo : lo ≤ hi) :
    ∀ y ∈ strL l lo hi, (markB (markNd ls ((List.replicate ls.length false).set t true) (strL l lo hi)) y = true ↔ Dn ls (· = (t : Int)) y) := by
  intro y hy
  have hyl := ((mem_strL hg.nodup).1 hy)
  have htl : (t : Int) ∈ l := hg.all.2 ⟨by omega, by omega⟩
  have hp := pos_lt htl
  have := dn_part hg (P := (· = (t : Int))) (S := fun j y => markB (markNd ls ((List.replicate ls.length false).set t true) ((l.take (hi + 1)).drop (l.length - j))) y = true) lo (fun y hy => by
    show markB (markNd ls _ ((l.take (hi + 1)).drop (l.length - 0))) y = true ↔ _
    rw [List.drop_of_length_le (by rw [List.length_take]; omega)]
    exact mark_one ht (hg.range y hy).1) (fun k hk _ y hy => by
    show markB (markNd ls _ ((l.take (hi + 1)).drop (l.length - (l.length - k)))) y = true ↔ markB (markNd ls _ ((l.take (hi + 1)).drop (l.length - (l.length - (k + 1))))) y = true ∨ (markB (markNd ls _ ((l.take (hi + 1)).drop (l.length - (l.length - (k + 1))))) l[k] = true ∧ _)
    rw [show l.length - (l.length - k) = k by omega, show l.length - (l.length - (k + 1)) = k + 1 by omega]
    have hr := hg.range _ (List.getElem_mem hk)
    rcases Nat.lt_or_ge hi k with h | h
    · rw [List.drop_of_length_le (by rw [List.length_take]; omega), List.drop_of_length_le (by rw [List.length_take]; omega)]
      constructor
      · exact .inl
      · rintro (h1 | ⟨h1, _⟩)
        · exact h1
        · have e := (mark_one ht hr.1).1 h1
          have := pos_nodup hg.nodup hk
          rw [e, hhi] at this
          omega
    · have hk2 : k < (l.take (hi + 1)).length := by rw [List.length_take]; omega
      rw [markNd_drop hk2, List.getElem_take]
      refine markStep_mem (fun x hx => ?_) (hg.range y hy).1
      rw [markNd_len, List.length_set, List.length_replicate]
      exact hg.range x (List.mem_of_mem_take (hg.needs_take hk hx))) (l.length - lo) (by omega) (by omega) y hyl.1
  rw [show l.length - (l.length - lo) = lo by omega] at this
  rw [show strL l lo hi = (l.take (hi + 1)).drop lo from rfl, this]
  constructor
  · rintro (h | ⟨i, hi', _, h, hm⟩)
    · exact .base h
    · exact .step (hg.range _ (List.getElem_mem hi')).1 hm h
  · intro h
    cases h with
    | base h => exact .inl h
    | step hv0 hm hv =>
      obtain ⟨i, hi', rfl⟩ := List.getElem_of_mem (hg.all.2 ⟨hv0, needs_in hv0 hm⟩)
      have h1 := (mem_take_pos.1 (hg.needs_take hi' hm)).2
      exact .inr ⟨i, hi', by omega, hv, hm⟩
end Go.Proofs.Ytgolhfmmlanmlaa
