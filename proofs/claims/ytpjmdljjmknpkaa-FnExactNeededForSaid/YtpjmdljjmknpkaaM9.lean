/- Texts of one claim, joined in their order. -/
import Derived.RangeFuncNested
import Derived.RangeFuncBound
import Derived.RangeFuncCalls
import Derived.RangeFuncLeaves
import Derived.RangeFuncWrites
import Derived.Shelf.Abstract
import Derived.Shelf.RegionOpen
import Derived.OwnWalkIn
import Derived.TacticsInMore
import Derived.LoopNIn
import Derived.LoopIn
import Derived.Test.YtpjmdljjmknpkaaM8

/- Walks: markedTest at a function value, touchedTest, TouchedBy of the program. -/
namespace Go.Proofs.Ytpjmdljjmknpkaa
open Go.RowKit Pth

theorem Blk1.beside {w w' : World} {b t : Nat} {x : Value} {r : Option Nat} (h : Blk1 w b t x) (hg : w.grownBy w' r) (hne : r ≠ some b) : Blk1 w' b t x := (hg.block b (lt_of_block h) (fun e => hne e.symm)).trans h
theorem TestS.congr {w : World} {fv : Value} {D : Int → Prop} {p q : Int → Bool} (h : TestS w fv D p) (he : ∀ x, D x → p x = q x) : TestS w fv D q := by
  obtain ⟨K, cap, h1, h2, h3⟩ := h
  exact ⟨K, cap, h1, h2, fun W hW x hx => by rw [← he x hx]; exact h3 W hW x hx⟩
theorem TestV.congr {w : World} {fv : Value} {D : Int → Prop} {p q : Int → Bool} (h : TestV w fv D p) (he : ∀ x, D x → p x = q x) : TestV w fv D q := by
  obtain ⟨K, cap, h1, h2, h3⟩ := h
  exact ⟨K, cap, h1, h2, fun W hW x hx => by rw [← he x hx]; exact h3 W hW x hx⟩

/-- A function that marks: what it makes of the marks, and that nothing else has turned. -/
def MarkC (K : FuncId) (F : List (List Int) → List Int → Nat → List Bool → List Bool) : Prop :=
  ∀ (ls : List (List Int)) (l : List Int) (t : Nat) (bs : List Bool) (nv ov : Value) (gm cm : Nat) (w0 w : World), GoodG ls l → GraphV w0 (.agg #[nv, ov]) ls l → Below w0.heap.size w0 w →
    w.ownsRow w0.heap.size 4 1 (.slice (some ⟨gm, 0, none⟩) bs.length cm) bs.length (Bo bs) → bs.length = ls.length → t < ls.length →
    Calls Try.prog K #[.agg #[nv, ov], ov, .int .i64 (t : Int), .slice (some ⟨gm, 0, none⟩) bs.length cm] w fun e w' => e = .returned (.tuple #[]) ∧ w'.ownsRow w0.heap.size 4 1 (.slice (some ⟨gm, 0, none⟩) bs.length cm) bs.length (Bo (F ls l t bs)) ∧ w.grownBy w' (some gm)
theorem users_mark : MarkC 118 usersF := by
  intro ls l t bs nv ov gm cm w0 w hG hst hb hown hbl ht
  refine (markUsersG_any ls l l t bs _ ov gm cm w0 w hst hst.parts.2 hb hown hbl hG.high ht (fun x hx => by have := hG.tasks x hx; omega) (good_in hG)).mono ?_
  rintro e w' ⟨he, _, ho, hg⟩
  exact ⟨he, ho, hg⟩

set_option maxRecDepth 20000 in
set_option maxHeartbeats 1000000 in
theorem marked1_any (bs : List Bool) (x : Int) (b : Nat) (u : Value) (w : World) (hrow : RowV w u (Bo bs)) (hb : Blk1 w b 81 u) (h0 : 0 ≤ x) (h1 : x < (bs.length : Int)) :
    Calls Try.prog 139 #[.int .i64 x, .pointer (some ⟨b, 0, none⟩)] w (BoolS (markB bs x) w) := by
  obtain ⟨n, rfl⟩ : ∃ n : Nat, x = n := ⟨x.toNat, by omega⟩
  have hn : n < bs.length := by omega
  have hc := hb.cell
  obtain ⟨a, cap, rfl, hc1, hc2, hat⟩ := hrow.bools
  obtain ⟨g, o, rfl, hg, hcell⟩ := hat n hn
  rw [← markB_get hn] at hcell
  unfold maxLen at hc2
  clear hrow hb hat
  generalize markB bs (n : Int) = y at *
  go_enter Try.func139, Try.ntmps139
  go_wp2_with fail
  go_ret
  exact ⟨rfl, rfl⟩

set_option maxRecDepth 20000 in
set_option maxHeartbeats 8000000 in
theorem markedTest_any (K : FuncId) (F : List (List Int) → List Int → Nat → List Bool → List Bool) (hF : MarkC K F) (hent : ∀ args w, (callFunc K args).run Try.prog w = .ok (.enter K args) w) (hlen : ∀ ls l t bs, (F ls l t bs).length = bs.length)
    (ls : List (List Int)) (l cs : List Int) (v u : Value) (w : World) (hst : GraphV w v ls l) (hrow : RowV w u (I cs)) (hG : GoodG ls l) (hc : ∀ x ∈ cs, 0 ≤ x ∧ x < (ls.length : Int)) :
    Calls Try.prog 123 #[v, u, .func (.func K) #[] #[]] w (TestSPost (· ∈ l) (markB (marksOf F ls l cs)) w) := by
  have HV := Lib.hid hst
  obtain ⟨nv, ov, rfl, h1, h2⟩ := hst
  obtain ⟨an, cn, rfl, hn1, hn2, hat⟩ := h1.lists
  obtain ⟨ao, co, rfl, ho1, ho2, hao⟩ := h2.ints
  clear h1 h2
  unfold maxLen at hn2 ho2
  have HAT := Lib.hid hat
  have HAO := Lib.hid hao
  clear hat hao
  obtain ⟨wa, hwa⟩ : ∃ wa, wa = w.alloc (.cells #[.slice an ls.length cn, .slice ao l.length co] 26) := ⟨_, rfl⟩
  have P0 : Hid (Blk2 wa w.heap.size 26 (.slice an ls.length cn) (.slice ao l.length co)) := by rw [hwa]; exact Blk2.new
  have HA : Hid (Below w.heap.size w wa) := by rw [hwa]; exact (Below.refl w.heap.size w).alloc (Nat.le_refl _) _
  have hsa : wa.heap.size = w.heap.size + 1 := by rw [hwa]; simp
  have HSA := Lib.hid hsa
  have hsz : w.heap.size < wa.heap.size := by omega
  have HWA := Lib.hid hwa
  obtain ⟨c0, c1⟩ := P0.out.cells
  have HU := Lib.hid hrow
  obtain ⟨ua, uc, rfl, hu1, hu2, hau⟩ := hrow.ints
  have HAU := Lib.hid hau
  clear hrow hau
  unfold maxLen at hu2
  have hmf : ∀ (fn : Fn) (first cap : Array Value) (w : World), (Instr.makeFunc fn first cap).run Try.prog w = .ok (.func fn first cap) w := fun _ _ _ _ => rfl
  have h10 := hG.high
  have HGG := Lib.hid hG
  have HC := Lib.hid hc
  have HML := Lib.hid (fun k => marksOf_len hlen ls l (cs.take k))
  have HF := Lib.hid hF
  have HSN := Lib.hid (fun k (hk : k < cs.length) => show marksOf F ls l (cs.take (k + 1)) = F ls l cs[k].toNat (marksOf F ls l (cs.take k)) by rw [List.take_succ_eq_append_getElem hk, marksOf_snoc])
  obtain ⟨csB, hcB, mB⟩ := make_alloc elemB rfl ls.length (by omega)
  have hH := (own_of_heap (w := wa.alloc (.cells csB 4)) (B := wa.heap.size) (heap_alloc_new wa _) (Nat.le_refl _) hcB (by simp) (show ls.length ≤ maxLen by unfold maxLen; omega))
  obtain ⟨w2, hw2⟩ : ∃ w2, w2 = wa.alloc (.cells csB 4) := ⟨_, rfl⟩
  obtain ⟨w3, hw3⟩ : ∃ w3, w3 = w2.alloc (.cells #[.slice (some ⟨w.heap.size + 1, 0, none⟩) ls.length ls.length] 81) := ⟨_, rfl⟩
  have hs2 : w2.heap.size = w.heap.size + 2 := by rw [hw2, World.size_alloc, hsa]
  have hs3 : w3.heap.size = w.heap.size + 3 := by rw [hw3, World.size_alloc, hs2]
  have hb2 : Below wa.heap.size wa w2 := by rw [hw2]; exact (Below.refl _ wa).alloc (Nat.le_refl _) _
  have hb3 : Below w2.heap.size w2 w3 := by rw [hw3]; exact (Below.refl _ w2).alloc (Nat.le_refl _) _
  rw [← hw2, hsa] at hH
  have HO0 : Hid (w3.ownsRow w.heap.size 4 1 (.slice (some ⟨w.heap.size + 1, 0, none⟩) ls.length ls.length) ls.length (Bo (List.replicate ls.length false))) := by
    rw [Bo_rep]
    exact own_base (own_below hH hb3) (by omega)
  have HX0 : Hid (Blk1 w3 (w.heap.size + 2) 81 (.slice (some ⟨w.heap.size + 1, 0, none⟩) ls.length ls.length)) := by rw [hw3, ← hs2]; exact Blk1.new
  have HP0 := Lib.hid ((P0.out.below hb2 hsz).below hb3 (by omega))
  have HB0 := Lib.hid (bth HA.out (bth hb2 hb3 (Nat.le_refl _)) (Nat.le_refl _))
  have HW3 : Hid (w3 = ((w.alloc (.cells #[.slice an ls.length cn, .slice ao l.length co] 26)).alloc (.cells csB 4)).alloc (.cells #[.slice (some ⟨w.heap.size + 1, 0, none⟩) ls.length ls.length] 81)) := by show _ = _; rw [hw3, hw2, hwa]
  rw [hwa] at c0
  clear hwa hsa hw2 hw3 hs2 hs3 hb2 hb3 hH hG hc hF hcB hlen c1 HSA
  go_enter Try.func123, Try.ntmps123
  go_wp2_with fail
  rw [← HW3.out]
  clear c0 mB
  go_loopw [16] (fun i wr => ∃ k : Nat, k ≤ cs.length ∧ i = .int .i64 (k : Int) ∧ Hid (wr.ownsRow w.heap.size 4 1 (.slice (some ⟨w.heap.size + 1, 0, none⟩) ls.length ls.length) ls.length (Bo (marksOf F ls l (cs.take k)))) ∧ Hid (Blk1 wr (w.heap.size + 2) 81 (.slice (some ⟨w.heap.size + 1, 0, none⟩) ls.length ls.length)) ∧ Hid (Blk2 wr w.heap.size 26 (.slice an ls.length cn) (.slice ao l.length co)) ∧ Hid (Below w.heap.size w wr)) (fun i _ => cs.length - (intOf i).toNat)
  case atStart => exact ⟨0, Nat.zero_le _, rfl, HO0, HX0, HP0, HB0⟩
  case round =>
    clear HO0 HX0 HP0 HB0
    obtain ⟨k, hk, rfl, HO, HX, HP, HB⟩ := hrel
    by_cases hlt : k < cs.length
    · obtain ⟨g, o, hgo, hg, hcell0⟩ := HAU.out k hlt
      subst hgo
      have hxr := HC.out cs[k] (List.getElem_mem hlt)
      obtain ⟨t, ht⟩ : ∃ t : Nat, cs[k] = t := ⟨cs[k].toNat, by omega⟩
      have htl : t < ls.length := by omega
      have hcell : wr.cell? ⟨g, o + k, none⟩ = some (.int .i64 (t : Int)) := by rw [HB.out.cell (p := ⟨g, o + k, none⟩) hg, hcell0, ht]
      obtain ⟨d0, d1⟩ := HP.out.cells
      have d2 := HX.out.cell
      have hml := HML.out k
      have HSK : Hid (marksOf F ls l (cs.take (k + 1)) = F ls l t (marksOf F ls l (cs.take k))) := by
        show _ = _
        rw [HSN.out k hlt, ht, show ((t : Int)).toNat = t by omega]
      generalize marksOf F ls l (cs.take k) = bk at *
      have hCC := HF.out ls l t bk (.slice an ls.length cn) (.slice ao l.length co) (w.heap.size + 1) ls.length w wr HGG.out HV.out HB.out (by rw [hml]; exact HO.out) hml htl
      rw [hml] at hCC
      have HCC := Lib.hid hCC
      clear hCC hcell0 hxr ht hml
      go_wp2_with fail
      refine HCC.out.mono ?_
      rintro e w8 ⟨rfl, ho8, hg8⟩
      have HO8 := Lib.hid ho8
      rw [← HSK.out] at HO8
      have HX8 := Lib.hid (HX.out.beside hg8 (by intro e; have := Option.some.inj e; omega))
      have HP8 := Lib.hid (HP.out.beside hg8 (by intro e; have := Option.some.inj e; omega))
      have HB8 := Lib.hid (HB.out.trans (only_below hg8 (by omega) HB.out.size))
      clear ho8 hg8 d0 d1 d2 hcell
      go_wp2_with fail
      go_roundw
      case rel => exact ⟨k + 1, by omega, by go_num, HO8, HX8, HP8, HB8⟩
      case measure => simp [intOf]; omega
    · have hml := HML.out k
      rw [List.take_of_length_le (by omega)] at HO hml
      have HM := Lib.hid hml
      have HGP := Lib.hid HGG.out.toP
      clear hml
      go_wp2_with fail
      go_ret
      refine ⟨_, rfl, ⟨139, #[.pointer (some ⟨w.heap.size + 2, 0, none⟩)], rfl, enters_of Try.func139 (by kernel_rfl) rfl, fun W hW x hx => ?_⟩, HB.out⟩
      have hxr := HGP.out.range x hx
      exact marked1_any (marksOf F ls l cs) x (w.heap.size + 2) _ W (RowV.of_own (own_below HO.out hW)) (HX.out.below hW (lt_of_block HX.out)) hxr.1 (by rw [HM.out]; exact hxr.2)

set_option maxRecDepth 20000 in
set_option maxHeartbeats 1000000 in
theorem touchedTest_any (ls : List (List Int)) (l cs : List Int) (v u : Value) (w : World) (hst : GraphV w v ls l) (hrow : RowV w u (I cs)) (hG : GoodG ls l) (hc : ∀ x ∈ cs, 0 ≤ x ∧ x < (ls.length : Int)) :
    Calls Try.prog 94 #[v, u] w (TestSPost (· ∈ l) (hasL (touchS ls cs)) w) := by
  have HV := Lib.hid hst
  obtain ⟨nv, ov, rfl, h1, h2⟩ := hst
  obtain ⟨an, cn, rfl, hn1, hn2, hat⟩ := h1.lists
  obtain ⟨ao, co, rfl, ho1, ho2, hao⟩ := h2.ints
  clear h1 h2
  unfold maxLen at hn2 ho2
  have HAT := Lib.hid hat
  have HAO := Lib.hid hao
  clear hat hao
  obtain ⟨wa, hwa⟩ : ∃ wa, wa = w.alloc (.cells #[.slice an ls.length cn, .slice ao l.length co] 26) := ⟨_, rfl⟩
  have P0 : Hid (Blk2 wa w.heap.size 26 (.slice an ls.length cn) (.slice ao l.length co)) := by rw [hwa]; exact Blk2.new
  have HA : Hid (Below w.heap.size w wa) := by rw [hwa]; exact (Below.refl w.heap.size w).alloc (Nat.le_refl _) _
  have hsa : wa.heap.size = w.heap.size + 1 := by rw [hwa]; simp
  have HSA := Lib.hid hsa
  have hsz : w.heap.size < wa.heap.size := by omega
  have HWA := Lib.hid hwa
  obtain ⟨c0, c1⟩ := P0.out.cells
  have HM := Lib.hid (markedTest_any 118 usersF users_mark (enters_of Try.func118 (by kernel_rfl) rfl) usersF_len ls l cs _ u wa (HV.out.below HA.out) (hrow.below HA.out) hG hc)
  have HTD := Lib.hid (users_told hG.toP hc)
  obtain ⟨ua, uc, rfl, hu1, hu2, _⟩ := hrow.ints
  clear hwa hsa hrow hG hc
  go_enter Try.func94, Try.ntmps94
  go_wp2_with fail
  rw [← HWA.out]
  refine HM.out.mono ?_
  rintro e w1 ⟨fv, rfl, ht, hb1⟩
  have HT := Lib.hid (ht.congr HTD.out)
  have HB1 := Lib.hid (bth HA.out hb1 (Nat.le_refl _))
  clear ht hb1 c0 c1
  go_wp2_with fail
  go_ret
  exact ⟨_, rfl, HT.out, HB1.out⟩

set_option maxRecDepth 20000 in
set_option maxHeartbeats 8000000 in
theorem implTouched_any (ls : List (List Int)) (l cs : List Int) (v ucs : Value) (w : World) (hst : GraphV w v ls l) (hcs : RowV w ucs (I cs)) :
    Calls Try.prog 39 #[v, ucs] w (ListOk (touchA ls l cs) (someG ls l cs) w) := by
  have HV := Lib.hid hst
  obtain ⟨nv, ov, rfl, h1, h2⟩ := hst
  obtain ⟨an, cn, rfl, hn1, hn2, hat⟩ := h1.lists
  obtain ⟨ao, co, rfl, ho1, ho2, hao⟩ := h2.ints
  clear h1 h2
  unfold maxLen at hn2 ho2
  have HAT := Lib.hid hat
  have HAO := Lib.hid hao
  clear hat hao
  obtain ⟨wa, hwa⟩ : ∃ wa, wa = w.alloc (.cells #[.slice an ls.length cn, .slice ao l.length co] 26) := ⟨_, rfl⟩
  have P0 : Hid (Blk2 wa w.heap.size 26 (.slice an ls.length cn) (.slice ao l.length co)) := by rw [hwa]; exact Blk2.new
  have HA : Hid (Below w.heap.size w wa) := by rw [hwa]; exact (Below.refl w.heap.size w).alloc (Nat.le_refl _) _
  have hsa : wa.heap.size = w.heap.size + 1 := by rw [hwa]; simp
  have HSA := Lib.hid hsa
  have hsz : w.heap.size < wa.heap.size := by omega
  have HWA := Lib.hid hwa
  obtain ⟨c0, c1⟩ := P0.out.cells
  have HUcs := Lib.hid hcs
  obtain ⟨xacs, xccs, rfl, hxlcs, hxmcs, _⟩ := hcs.ints
  clear hcs
  unfold maxLen at hxmcs
  have HGD := Lib.hid (fun W (h : Below wa.heap.size wa W) => implGood_any ls l _ W (HV.out.below (bth HA.out h (Nat.le_refl _))))
  have HTcs := Lib.hid (fun W (h : Below wa.heap.size wa W) => areTasks_any ls l cs _ _ W (HV.out.below (bth HA.out h (Nat.le_refl _))) (HUcs.out.below (bth HA.out h (Nat.le_refl _))))
  have HEQ : Hid ((goodG ls l && riseB 0 ((ls.length : Int) - 1) cs) = someG ls l cs) := some_eq _ _ _
  have HNo : Hid ((goodG ls l && riseB 0 ((ls.length : Int) - 1) cs) = false → touchA ls l cs = [] ∧ someG ls l cs = false) := fun h => by
    rw [HEQ.out] at h
    exact ⟨touchA_no h, h⟩
  have HYes : Hid ((goodG ls l && riseB 0 ((ls.length : Int) - 1) cs) = true → touchA ls l cs = touchA_v ls l cs ∧ someG ls l cs = true ∧ GoodG ls l ∧ (Rise cs ∧ ∀ x ∈ cs, 0 ≤ x ∧ x < (ls.length : Int))) := fun h => by
    rw [HEQ.out] at h
    exact ⟨touchA_yes h, h, some_yes h⟩
  clear HEQ
  generalize someG ls l cs = bb at *
  generalize touchA ls l cs = R at *
  generalize goodG ls l = b0 at *
  generalize riseB 0 ((ls.length : Int) - 1) cs = bcs at *
  clear hwa
  go_enter Try.func39, Try.ntmps39
  go_wp2_with fail
  rw [← HWA.out]
  refine (HGD.out wa (Below.refl _ _)).mono ?_
  rintro e w1 ⟨rfl, hb1⟩
  have K1 := Lib.hid hb1
  obtain ⟨p1, q1⟩ := (P0.out.below K1.out hsz).cells
  clear hb1 c0 c1
  cases b0 with
  | false =>
    have hR := HNo.out rfl
    obtain ⟨rfl, rfl⟩ := hR
    clear HNo HYes HGD HTcs
    go_wp2_with fail
    go_ret2
    exact ⟨_, rfl, none_ownZ _ _ _, bth HA.out K1.out (Nat.le_refl _)⟩
  | true =>
    go_wp2_with fail
    refine (HTcs.out w1 K1.out).mono ?_
    rintro e w2 ⟨rfl, hb2⟩
    have K2 := Lib.hid (bth K1.out hb2 (Nat.le_refl _))
    obtain ⟨p2, q2⟩ := (P0.out.below K2.out hsz).cells
    clear hb2 p1 q1
    cases bcs with
    | false =>
      have hR := HNo.out rfl
      obtain ⟨rfl, rfl⟩ := hR
      clear HNo HYes HGD HTcs
      go_wp2_with fail
      go_ret2
      exact ⟨_, rfl, none_ownZ _ _ _, bth HA.out K2.out (Nat.le_refl _)⟩
    | true =>
      obtain ⟨hR, rfl, hG, hccs⟩ := HYes.out rfl
      clear HNo HYes HGD HTcs
      have HKW := Lib.hid (bth HA.out K2.out (Nat.le_refl _))
      have PW := Lib.hid (P0.out.below K2.out hsz)
      have hszW := Nat.lt_of_lt_of_le hsz K2.out.size
      have HR : Hid (R = touchS ls cs) := hR
      have HGP := Lib.hid hG.toP
      have HPI : Hid ((upto ls.length).filter (hasL (touchS ls cs)) = touchS ls cs) := by
        show _ = _
        refine rise_ext (filter_rise (upto_rise _)) (touchS_rise _ _) (fun x => ?_)
        rw [List.mem_filter, mem_upto, hasL, decide_eq_true_iff]
        exact ⟨fun h => h.2, fun h => ⟨(mem_touchS.1 h).1, h⟩⟩
      have HTS := Lib.hid (fun W (h : Below w.heap.size w W) => touchedTest_any ls l cs _ _ W (HV.out.below h) (HUcs.out.below h) hG hccs.2)
      have PD : Hid (Blk2 w2.drew w.heap.size 26 (.slice an ls.length cn) (.slice ao l.length co)) := PW.out
      have ks := PD.out.cells
      have hszD : w.heap.size < w2.drew.heap.size := hszW
      have HKD : Hid (Below w.heap.size w w2.drew) := Below.drew HKW.out
      clear hR hG hccs p2 q2
      go_wp2_with fail
      go_region_held3 (fun w' => w'.cell? ⟨w.heap.size, 0, none⟩ = some (.slice an ls.length cn) ∧ w'.cell? ⟨w.heap.size, 1, none⟩ = some (.slice ao l.length co)) (first | exact ks)
        (first
          | (go_at_call 94; refine (HTS.out _ (by exact HKD.out)).mono ?_; rintro e w7 ⟨fv, rfl, ht7, hb7⟩
             have ks := (PD.out.below hb7 hszD).cells
             have HT7 := Lib.hid ht7.toV
             have K7 := Lib.hid (bth HKD.out hb7 (Nat.le_refl _))
             have C7 := Lib.hid hb7
             clear ht7 hb7)
          | (go_at_call 93; refine (rising_any ls l (hasL (touchS ls cs)) _ _ _ (HV.out.below K7.out) HT7.out HGP.out).mono ?_; rintro e w8 ⟨v8, rfl, ho8, hb8⟩
             have HO8 := Lib.hid ho8
             have K8 := Lib.hid (bth K7.out hb8 (Nat.le_refl _))
             have ks := (PD.out.below (bth C7.out hb8 (Nat.le_refl _)) hszD).cells
             clear ho8 hb8))
      all_goals
        rw [HPI.out, ← HR.out] at HO8
        go_wp2_with fail
        go_ret2
        exact ⟨_, rfl, own_base HO8.out K7.out.size, K8.out⟩
end Go.Proofs.Ytpjmdljjmknpkaa

/- Walks: slices.Backward and markNeeds, a range over a function, inside the wide fence. -/
namespace Go.Proofs.Ytpjmdljjmknpkaa
open Go.RowKit Go.Shelf Pth

attribute [local go_sem] Oper.semAt_some

/-- A place and what stands there, of a list. -/
abbrev InL (zs : List Int) : Type := { p : Nat × Int // p.2 ∈ zs }
def inAt (zs : List Int) (hne : 0 < zs.length) (i : Nat) : InL zs := if h : i < zs.length then ⟨(i, zs[i]), List.getElem_mem h⟩ else ⟨(0, zs[0]), List.getElem_mem hne⟩
theorem inAt_is {zs : List Int} {hne : 0 < zs.length} {i : Nat} (h : i < zs.length) : (inAt zs hne i).1.1 = i ∧ (inAt zs hne i).1.2 = zs[i] := by
  unfold inAt; rw [dif_pos h]; exact ⟨rfl, rfl⟩
/-- What comes from the back on, down to a place. -/
def downL (zs : List Int) (hne : 0 < zs.length) (j : Nat) : List (InL zs) := ((List.range zs.length).drop j).reverse.map (inAt zs hne)
theorem downL_end (zs : List Int) (hne : 0 < zs.length) : downL zs hne zs.length = [] := by unfold downL; rw [List.drop_of_length_le (by simp)]; rfl
theorem downL_next (zs : List Int) (hne : 0 < zs.length) {m : Nat} (hm : m < zs.length) : downL zs hne m = downL zs hne (m + 1) ++ [inAt zs hne m] := by
  unfold downL
  rw [List.drop_eq_getElem_cons (by simpa using hm), List.reverse_cons, List.map_append]
  simp
theorem downL_len (zs : List Int) (hne : 0 < zs.length) (j : Nat) : (downL zs hne j).length = zs.length - j := by unfold downL; simp
/-- Nothing but one block of those that lay has turned. -/
def KeepN (N g : Nat) (A B : World) : Prop := ∀ i, i < N → i ≠ g → B.heap[i]? = A.heap[i]?
theorem KeepN.refl (N g : Nat) (A : World) : KeepN N g A A := fun _ _ _ => rfl
theorem KeepN.trans {N g : Nat} {A B C : World} (h : KeepN N g A B) (k : KeepN N g B C) : KeepN N g A C := fun i hi hn => (k i hi hn).trans (h i hi hn)
theorem cell_heap {A B : World} {i o : Nat} (h : B.heap[i]? = A.heap[i]?) : B.cell? ⟨i, o, none⟩ = A.cell? ⟨i, o, none⟩ := by
  unfold World.cell?
  simp only [h]
theorem KeepN.cell {N g i o : Nat} {A B : World} (h : KeepN N g A B) (hi : i < N) (hn : i ≠ g) : B.cell? ⟨i, o, none⟩ = A.cell? ⟨i, o, none⟩ := cell_heap (h i hi hn)
theorem keepN_b {N g : Nat} {w : World} (hn : N ≤ w.heap.size) (W : World) (l : Nat) (o o' : Obj) (hl : w.heap.size ≤ l) (_ : W.heap[l]? = some o) (_ : o.isCells = false) (_ : o.isWalk = false) : KeepN N g W (W.putObj l o') := fun i hi _ => World.putObj_heap_other (fun e => by omega)

set_option maxRecDepth 100000 in
set_option maxHeartbeats 4000000 in
theorem back1_in (n : Nat) (hn : 1 ≤ n) (l Bs N gm b off cap : Nat) (zs : List Int) (hlen : zs.length ≤ 1000) (hne : 0 < zs.length) (hb : b < N) (hbg : b ≠ gm) (hB : Bs < N) (hBg : Bs ≠ gm) (J Jx : List (InL zs) → World → Prop)
    (hY : ∀ pre x W, J pre W → pre.length < zs.length → YieldAt Fence.wide (n - 1) Try.prog l #[.int .i64 (x.1.1 : Int), .int .i64 x.1.2] W fun e W' =>
      (e = .returned (.bool true) ∧ J (pre ++ [x]) W' ∧ KeepN N gm W W') ∨ (e = .returned (.bool false) ∧ Jx (pre ++ [x]) W'))
    (W : World) (hBs : W.cell? ⟨Bs, 0, none⟩ = some (.slice (some ⟨b, off, none⟩) zs.length cap)) (hcap : zs.length ≤ cap) (hc : ∀ j (hj : j < zs.length), W.cell? ⟨b, off + j, none⟩ = some (.int .i64 zs[j])) (h0 : J [] W) :
    CallsIn Fence.wide n Try.prog 140 #[.func (.yield l) #[] #[], .pointer (some ⟨Bs, 0, none⟩)] W fun e W' => (∃ v, e = .returned v) ∧
      ((∃ ys, ys = downL zs hne 0 ∧ J ys W') ∨ (∃ pre, True ∧ Jx pre W')) := by
  refine callsIn_of_wp Try.func140 rfl trivial ?_ rfl
  simp only [Try.ntmps140, List.size_toArray, List.length_cons, List.length_nil, Nat.reduceAdd, Nat.reduceSub, Array.replicate_succ, Array.replicate_zero, List.push_toArray, List.append_toArray, List.nil_append, List.cons_append]
  gi_wp2
  gi_loopw [3] (fun i wr => ∃ j : Nat, j ≤ zs.length ∧ i = .int .i64 ((j : Int) - 1) ∧ J (downL zs hne j) wr ∧ KeepN N gm W wr)
    (fun i _ => (intOf i + 1).toNat)
  case atStart => exact ⟨zs.length, Nat.le_refl _, by go_num, by rw [downL_end]; exact h0, KeepN.refl _ _ _⟩
  case round =>
    obtain ⟨j, hj, rfl, hJs, hk⟩ := hrel
    have hBs1 := (hk.cell (o := 0) hB hBg).trans hBs
    by_cases hz : 0 < j
    · obtain ⟨m, rfl⟩ : ∃ m, j = m + 1 := ⟨j - 1, by omega⟩
      have hmm : (((m + 1 : Nat) : Int) - 1) = (m : Int) := by omega
      rw [hmm]
      have hml : m < zs.length := by omega
      have hml2 : (m : Int) < (zs.length : Int) := by omega
      have hcm := (hk.cell (o := off + m) hb hbg).trans (hc m hml)
      obtain ⟨x, hxf, hx1, hx2⟩ : ∃ x, x = inAt zs hne m ∧ x.1.1 = m ∧ x.1.2 = zs[m] := ⟨_, rfl, inAt_is hml⟩
      have HXF := Lib.hid hxf
      obtain ⟨fn, tmps, assign, body, hy, hR⟩ := hY _ x wr hJs (by rw [downL_len]; omega)
      rw [hx1, hx2] at hy
      clear hc hxf hx1 hx2
      generalize zs[m] = xv at *
      gi_wp2
      refine hR.mono ?_
      rintro e W3 (⟨rfl, hJ3, hk3⟩ | ⟨rfl, hJx3⟩)
      · gi_wp2
        go_roundw
        case rel => exact ⟨m, by omega, by go_num, by rw [downL_next zs hne hml, ← HXF.out]; exact hJ3, hk.trans hk3⟩
        case measure => simp [intOf]
      · gi_wp2
        refine bodyPost_ret (results_none rfl _ _ _) rfl ?_
        exact ⟨⟨_, rfl⟩, .inr ⟨_, trivial, hJx3⟩⟩
    · obtain rfl : j = 0 := by omega
      have hz0 : (((0 : Nat) : Int) - 1) = -1 := by omega
      rw [hz0]
      gi_wp2
      go_end0
      exact ⟨⟨_, rfl⟩, .inl ⟨_, rfl, hJs⟩⟩

set_option maxRecDepth 100000 in
set_option maxHeartbeats 1000000 in
theorem back_in (n : Nat) (a : Option Addr) (len cap : Nat) (w : World) :
    CallsIn Fence.wide n Try.prog 127 #[.slice a len cap] w fun e w' => e = .returned (.func (.func 140) #[] #[.pointer (some ⟨w.heap.size, 0, none⟩)]) ∧ w' = w.alloc (.cells #[.slice a len cap] 24) := by
  refine callsIn_of_wp Try.func127 rfl trivial ?_ rfl
  simp only [Try.ntmps127, List.size_toArray, List.length_cons, List.length_nil, Nat.reduceAdd, Nat.reduceSub, Array.replicate_succ, Array.replicate_zero, List.push_toArray, List.append_toArray, List.nil_append, List.cons_append]
  gi_wp2
  go_ret
  exact ⟨rfl, rfl⟩

theorem back_stops (n : Nat) (hn : 1 ≤ n) (Bs N gm b off cap : Nat) (zs : List Int) (hlen : zs.length ≤ 1000) (hne : 0 < zs.length) (hb : b < N) (hbg : b ≠ gm) (hB : Bs < N) (hBg : Bs ≠ gm) (w : World) (hN : N ≤ w.heap.size)
    (hBs : w.cell? ⟨Bs, 0, none⟩ = some (.slice (some ⟨b, off, none⟩) zs.length cap)) (hcap : zs.length ≤ cap) (hc : ∀ j (hj : j < zs.length), w.cell? ⟨b, off + j, none⟩ = some (.int .i64 zs[j])) :
    SeqStopsK Fence.wide n Try.prog 140 #[.pointer (some ⟨Bs, 0, none⟩)] (fun x : InL zs => #[Value.int .i64 (x.1.1 : Int), Value.int .i64 x.1.2]) (KeepN N gm) (fun ys => ys = downL zs hne 0) (fun _ => True) zs.length w := fun l J Jx W hW _ _ hY h0 => by
  exact back1_in n hn l Bs N gm b off cap zs hlen hne hb hbg hB hBg J Jx hY W ((hW.cell (p := ⟨Bs, 0, none⟩) (by show Bs < w.heap.size; omega)).trans hBs) hcap (fun j hj => (hW.cell (p := ⟨b, off + j, none⟩) (by show b < w.heap.size; omega)).trans (hc j hj)) h0
end Go.Proofs.Ytpjmdljjmknpkaa

/- Marks of what is needed; markNeeds; neededTest and NeededFor of the program. -/
namespace Go.Proofs.Ytpjmdljjmknpkaa
open Go.RowKit Go.Shelf Pth

attribute [local go_sem] Oper.semAt_some

def nd1 (bs : List Bool) (nd : List Int) : List Bool := nd.foldl (fun b x => b.set x.toNat true) bs
/-- What one needs is marked, where it is marked itself. -/
def markStep (ls : List (List Int)) (b : List Bool) (x : Int) : List Bool := if markB b x then nd1 b (needsAt ls x) else b
def markNd (ls : List (List Int)) (bs : List Bool) (st : List Int) : List Bool := st.foldr (fun x b => markStep ls b x) bs
theorem nd1_len (nd : List Int) : ∀ bs, (nd1 bs nd).length = bs.length := by
  unfold nd1
  induction nd with
  | nil => intro bs; rfl
  | cons x r ih => intro bs; rw [List.foldl_cons, ih, List.length_set]
theorem nd1_snoc (bs : List Bool) (nd : List Int) (x : Int) : nd1 bs (nd ++ [x]) = (nd1 bs nd).set x.toNat true := by unfold nd1; rw [List.foldl_append]; rfl
theorem markStep_len (ls : List (List Int)) (b : List Bool) (x : Int) : (markStep ls b x).length = b.length := by
  unfold markStep; split
  · exact nd1_len _ _
  · rfl
theorem markNd_len (ls : List (List Int)) (st : List Int) (bs : List Bool) : (markNd ls bs st).length = bs.length := by
  induction st with
  | nil => rfl
  | cons x r ih => show (markStep ls (markNd ls bs r) x).length = _; rw [markStep_len, ih]
theorem markNd_drop {ls : List (List Int)} {bs : List Bool} {l : List Int} {k : Nat} (hk : k < l.length) : markNd ls bs (l.drop k) = markStep ls (markNd ls bs (l.drop (k + 1))) l[k] := by
  rw [List.drop_eq_getElem_cons hk]; rfl
theorem nd1_mem {nd : List Int} (h0 : ∀ x ∈ nd, 0 ≤ x) : ∀ {bs : List Bool} (_ : ∀ x ∈ nd, x < (bs.length : Int)) {y : Int} (_ : 0 ≤ y), markB (nd1 bs nd) y = true ↔ markB bs y = true ∨ y ∈ nd := by
  induction nd with
  | nil => intro bs _ y _; simp [nd1]
  | cons x r ih =>
    intro bs hb y hy
    have hx0 := h0 x (by simp)
    have hxb := hb x (by simp)
    show markB (nd1 (bs.set x.toNat true) r) y = true ↔ _
    rw [ih (fun z hz => h0 z (by simp [hz])) (fun z hz => by rw [List.length_set]; exact hb z (by simp [hz])) hy, markB_set (by omega) hy, show ((x.toNat : Nat) : Int) = x by omega, List.mem_cons]
    by_cases h : y = x
    · simp [h]
    · rw [if_neg h]; simp [h]
theorem markStep_mem {ls : List (List Int)} {b : List Bool} {u : Int} (h : ∀ x ∈ needsAt ls u, 0 ≤ x ∧ x < (b.length : Int)) {y : Int} (hy : 0 ≤ y) : markB (markStep ls b u) y = true ↔ markB b y = true ∨ (markB b u = true ∧ y ∈ needsAt ls u) := by
  unfold markStep
  by_cases hu : markB b u = true
  · rw [if_pos hu, nd1_mem (fun x hx => (h x hx).1) (fun x hx => (h x hx).2) hy]; simp [hu]
  · rw [if_neg hu]; simp [hu]
theorem Dn.congr2 {ls : List (List Int)} {l : List Int} (hg : GoodP ls l) {P Q : Int → Prop} (h : ∀ z ∈ l, P z → Q z) {y : Int} (hy : y ∈ l) (hu : Dn ls P y) : Dn ls Q y := by
  induction hu with
  | base hp => exact .base (h _ hy hp)
  | step h0 hx _ ih => exact .step h0 hx (ih (hg.all.2 ⟨h0, needs_in h0 hx⟩))
theorem markNd_dn {ls : List (List Int)} {l : List Int} (hg : GoodP ls l) {bs : List Bool} (hb : bs.length = ls.length) : ∀ y ∈ l, (markB (markNd ls bs l) y = true ↔ Dn ls (fun z => markB bs z = true) y) := by
  have := dn_whole hg (P := fun z => markB bs z = true) (S := fun j y => markB (markNd ls bs (l.drop (l.length - j))) y = true) (fun y _ => by simp [markNd]) (fun k hk y hy => by
    show markB (markNd ls bs (l.drop (l.length - (l.length - k)))) y = true ↔ markB (markNd ls bs (l.drop (l.length - (l.length - (k + 1))))) y = true ∨ (markB (markNd ls bs (l.drop (l.length - (l.length - (k + 1))))) l[k] = true ∧ _)
    rw [show l.length - (l.length - k) = k by omega, show l.length - (l.length - (k + 1)) = k + 1 by omega, markNd_drop hk]
    have hr := hg.range _ (List.getElem_mem hk)
    refine markStep_mem (fun x hx => ?_) (hg.range y hy).1
    rw [markNd_len, hb]
    exact hg.range x (List.mem_of_mem_take (hg.needs_take hk hx)))
  simpa using this
def needsF (ls : List (List Int)) (l : List Int) (t : Nat) (bs : List Bool) : List Bool := markNd ls (bs.set t true) l
theorem needsF_len (ls : List (List Int)) (l : List Int) (t : Nat) (bs : List Bool) : (needsF ls l t bs).length = bs.length := by unfold needsF; rw [markNd_len, List.length_set]
theorem needs_marks {ls : List (List Int)} {l : List Int} (hg : GoodP ls l) : ∀ cs : List Int, (∀ x ∈ cs, 0 ≤ x ∧ x < (ls.length : Int)) → ∀ y ∈ l, (markB (marksOf needsF ls l cs) y = true ↔ Dn ls (· ∈ cs) y) := by
  refine rev_ind ?_ ?_
  · intro _ y _
    show markB (List.replicate ls.length false) y = true ↔ _
    rw [markB_none]
    constructor
    · intro h; cases h
    · intro h; exact absurd (h.mono (Q := fun _ => False) (fun x hx => by simp at hx)) Dn.none
  · intro cs c ih hc y hy
    have hcr := hc c (by simp)
    have ihc := ih (fun x hx => hc x (by simp [hx]))
    have hlen := marksOf_len needsF_len ls l cs
    obtain ⟨t, rfl⟩ : ∃ t : Nat, c = t := ⟨c.toNat, by omega⟩
    rw [marksOf_snoc, show ((t : Int)).toNat = t by omega, needsF, markNd_dn hg (by rw [List.length_set, hlen]) y hy]
    have hset : ∀ z ∈ l, (markB ((marksOf needsF ls l cs).set t true) z = true ↔ z = (t : Int) ∨ Dn ls (· ∈ cs) z) := fun z hz => by
      rw [markB_set (by omega) (hg.range z hz).1, ← ihc z hz]
      by_cases h : z = (t : Int)
      · simp [h]
      · rw [if_neg h]; simp [h]
    constructor
    · intro h
      refine Dn.twice (P := fun z => z = (t : Int) ∨ Dn ls (· ∈ cs) z) (fun x hx => ?_) (Dn.congr2 hg (fun z hz h => (hset z hz).1 h) hy h)
      rcases hx with rfl | hx
      · exact .base (by simp)
      · exact hx.mono (fun z hz => by simp [hz])
    · intro h
      refine Dn.congr2 hg (fun z hz h => (hset z hz).2 ?_) hy h
      rw [List.mem_append, List.mem_singleton] at h
      rcases h with h | h
      · exact .inr (.base h)
      · exact .inl h
theorem needs_told {ls : List (List Int)} {l cs : List Int} (hg : GoodP ls l) (hc : ∀ x ∈ cs, 0 ≤ x ∧ x < (ls.length : Int)) : ∀ y ∈ l, markB (marksOf needsF ls l cs) y = hasL (needS ls cs) y := by
  intro y hy
  rw [Bool.eq_iff_iff, needs_marks hg cs hc y hy, hasL, decide_eq_true_iff, mem_needS]
  exact ⟨fun h => ⟨hg.range y hy, h⟩, fun h => h.2⟩

/-- The marks behind so many rounds. -/
def ndPre (ls : List (List Int)) (bs : List Bool) {zs : List Int} (pre : List (InL zs)) : List Bool := pre.foldl (fun b p => markStep ls b p.1.2) bs
theorem ndPre_snoc (ls : List (List Int)) (bs : List Bool) {zs : List Int} (pre : List (InL zs)) (x : InL zs) : ndPre ls bs (pre ++ [x]) = markStep ls (ndPre ls bs pre) x.1.2 := by unfold ndPre; rw [List.foldl_append]; rfl
theorem ndPre_len (ls : List (List Int)) {zs : List Int} (pre : List (InL zs)) : ∀ bs : List Bool, (ndPre ls bs pre).length = bs.length := by
  induction pre with
  | nil => intro bs; rfl
  | cons x r ih => intro bs; show (ndPre ls (markStep ls bs x.1.2) r).length = _; rw [ih, markStep_len]
theorem ndPre_down (ls : List (List Int)) (bs : List Bool) (zs : List Int) (hne : 0 < zs.length) : ∀ d j, j + d = zs.length → ndPre ls bs (downL zs hne j) = markNd ls bs (zs.drop j) := by
  intro d
  induction d with
  | zero =>
    intro j hj
    obtain rfl : j = zs.length := by omega
    rw [downL_end, List.drop_length]
    rfl
  | succ d ih =>
    intro j hj
    have hjl : j < zs.length := by omega
    rw [downL_next zs hne hjl, ndPre_snoc, ih (j + 1) (by omega), (inAt_is hjl).2, markNd_drop hjl]
theorem ndPre_all (ls : List (List Int)) (bs : List Bool) (zs : List Int) (hne : 0 < zs.length) : ndPre ls bs (downL zs hne 0) = markNd ls bs zs := by
  rw [ndPre_down ls bs zs hne zs.length 0 (by omega), List.drop_zero]

theorem own_kept {w w' : World} {B e n : Nat} {v : Value} {xs : List Value} {row : Option Nat} (h : w.ownsRow B e 1 v n xs) (hg : w.grownBy w' row) (hr : ∀ r, row = some r → ∃ o : Obj, w.heap[r]? = some o ∧ o.isCells = false) : w'.ownsRow B e 1 v n xs := by
  refine ⟨h.1, ?_⟩
  rcases h.2 with h0 | ⟨g, cap, cur, hv, hB, hh, r⟩
  · exact .inl h0
  · refine .inr ⟨g, cap, cur, hv, hB, (hg.block g (lt_of_block hh) (fun hi => ?_)).trans hh, r⟩
    obtain ⟨o, ho, hc⟩ := hr g hi.symm
    rw [hh] at ho
    injection ho with ho
    subst ho
    simp [Obj.isCells] at hc
theorem block_kept {w w' : World} {b t : Nat} {cs : Array Value} {row : Option Nat} (h : w.heap[b]? = some (.cells cs t (0, 0))) (hg : w.grownBy w' row) (hr : ∀ r, row = some r → ∃ o : Obj, w.heap[r]? = some o ∧ o.isCells = false) : w'.heap[b]? = some (.cells cs t (0, 0)) := by
  refine (hg.block b (lt_of_block h) (fun hi => ?_)).trans h
  obtain ⟨o, ho, hc⟩ := hr b hi.symm
  rw [h] at ho
  injection ho with ho
  subst ho
  simp [Obj.isCells] at hc
theorem grown_more {w W W' : World} {g B : Nat} {row : Option Nat} (h : w.grownBy W (some g)) (hg : W.grownBy W' row) (hB : w.heap.size ≤ B) (hr : ∀ r, row = some r → B ≤ r) : w.grownBy W' (some g) :=
  ⟨hg.os.trans h.os, hg.tape.trans h.tape, hg.output.trans h.output, Nat.le_trans h.size hg.size, fun i hi hn => (hg.block i (Nat.lt_of_lt_of_le hi h.size) (fun e => by have := hr i e.symm; omega)).trans (h.block i hi hn)⟩
/-- What holds between two rounds. -/
def NdAt (nb : Nat) (ls : List (List Int)) (bs : List Bool) (nv ov : Value) (gm cm : Nat) (w0 w : World) {zs : List Int} (pre : List (InL zs)) (W : World) : Prop :=
  W.ownsRow w0.heap.size 4 1 (.slice (some ⟨gm, 0, none⟩) nb cm) nb (Bo (ndPre ls bs pre)) ∧ Blk2 W w.heap.size 26 nv ov ∧ Blk1 W (w.heap.size + 1) 81 (.slice (some ⟨gm, 0, none⟩) nb cm) ∧ Below w0.heap.size w0 W ∧ w.grownBy W (some gm) ∧ w.heap.size + 3 ≤ W.heap.size
theorem ndAt_own {nb : Nat} {ls : List (List Int)} {bs : List Bool} {nv ov : Value} {gm cm : Nat} {w0 w : World} {zs : List Int} {B : Nat} (h0 : w0.heap.size ≤ w.heap.size) (hB : w.heap.size ≤ B) : OwnFrom B (NdAt nb ls bs nv ov gm cm w0 w (zs := zs)) := by
  intro s W W' row hs hg hr
  obtain ⟨h1, h2, h3, h4, h5, h6⟩ := hs
  have hr' : ∀ r, row = some r → ∃ o : Obj, W.heap[r]? = some o ∧ o.isCells = false := fun r e => (hr r e).2
  exact ⟨own_kept h1 hg hr', block_kept h2 hg hr', block_kept h3 hg hr', h4.grown hg h4.size (fun k e => by have := (hr k e).1; omega), grown_more h5 hg hB (fun r e => (hr r e).1), Nat.le_trans h6 hg.size⟩

set_option maxRecDepth 100000 in
set_option maxHeartbeats 8000000 in
theorem markNeedsG_any (ls : List (List Int)) (l st : List Int) (t : Nat) (bs : List Bool) (v s : Value) (gm cm : Nat) (w0 w : World) (hst : GraphV w0 v ls l) (hsr : RowV w0 s (I st)) (hb0 : Below w0.heap.size w0 w)
    (hown : w.ownsRow w0.heap.size 4 1 (.slice (some ⟨gm, 0, none⟩) bs.length cm) bs.length (Bo bs)) (hbl : bs.length = ls.length) (h10 : ls.length ≤ 10) (hs10 : st.length ≤ 1000) (hne : 0 < st.length) (ht : t < ls.length) (hin : ∀ x ∈ st, 0 ≤ x ∧ x < (ls.length : Int)) (hnd : ∀ k (hk : k < ls.length), ∀ x ∈ ls[k], 0 ≤ x ∧ x < (ls.length : Int)) :
    Calls Try.prog 116 #[v, s, .int .i64 (t : Int), .slice (some ⟨gm, 0, none⟩) bs.length cm] w fun e w' => e = .returned (.tuple #[]) ∧ Below w0.heap.size w0 w' ∧ w'.ownsRow w0.heap.size 4 1 (.slice (some ⟨gm, 0, none⟩) bs.length cm) bs.length (Bo (markNd ls (bs.set t true) st)) ∧ w.grownBy w' (some gm) := by
  have HV := Lib.hid hst
  obtain ⟨nv, ov, rfl, h1, h2⟩ := hst
  obtain ⟨an, cn, rfl, hn1, hn2, hat⟩ := h1.lists
  obtain ⟨ao, co, rfl, ho1, ho2, _⟩ := h2.ints
  obtain ⟨sa, sc, rfl, hs1, hs2, hsat⟩ := hsr.ints
  obtain ⟨sb, so, hsa, hsb, _⟩ := hsat 0 hne
  subst hsa
  have HSC : Hid (∀ j (hj : j < st.length), w0.cell? ⟨sb, so + j, none⟩ = some (.int .i64 st[j])) := fun j hj => by
    obtain ⟨g, o, he, _, hc⟩ := hsat j hj
    obtain ⟨rfl, rfl⟩ := addr_inj he
    exact hc
  clear h1 h2 hsr hsat
  unfold maxLen at hn2 ho2 hs2
  have HAT := Lib.hid hat
  have HIN := Lib.hid hin
  have HND := Lib.hid hnd
  have HB0 := Lib.hid hb0
  have HNE := Lib.hid hne
  clear hat hin hnd
  have hgl := hown.lt gm rfl
  have hw0 := hb0.size
  obtain ⟨hcm1, hcm2⟩ : bs.length ≤ cm ∧ cm ≤ 2 ^ 63 - 1 := by
    rcases hown.2 with ⟨h, _⟩ | ⟨g, cap, cur, hv, _, _, hcap, hmx, _⟩
    · injection h with h _ _; cases h
    · unfold maxLen at hmx; injection hv with _ _ h3; omega
  have htb : t < bs.length := by omega
  have htb2 : (t : Int) < (bs.length : Int) := by omega
  -- the world in which the loop begins
  obtain ⟨w1, hw1⟩ : ∃ w1, w1 = w.alloc (.cells #[.slice an ls.length cn, .slice ao l.length co] 26) := ⟨_, rfl⟩
  obtain ⟨w2, hw2⟩ : ∃ w2, w2 = w1.alloc (.cells #[.slice (some ⟨gm, 0, none⟩) bs.length cm] 81) := ⟨_, rfl⟩
  obtain ⟨w3, hw3⟩ : ∃ w3, w3 = w2.setCell ⟨gm, t, none⟩ (.bool true) := ⟨_, rfl⟩
  obtain ⟨w4, hw4⟩ : ∃ w4, w4 = w3.alloc (.cells #[.slice (some ⟨sb, so, none⟩) st.length sc] 24) := ⟨_, rfl⟩
  have b1 : Below w.heap.size w w1 := by rw [hw1]; exact (Below.refl _ w).alloc (Nat.le_refl _) _
  have b2 : Below w1.heap.size w1 w2 := by rw [hw2]; exact (Below.refl _ w1).alloc (Nat.le_refl _) _
  have b4 : Below w3.heap.size w3 w4 := by rw [hw4]; exact (Below.refl _ w3).alloc (Nat.le_refl _) _
  have z1 : w1.heap.size = w.heap.size + 1 := by rw [hw1]; simp
  have z2 : w2.heap.size = w.heap.size + 2 := by rw [hw2, World.size_alloc, z1]
  have o2 := own_below (own_below hown b1) b2
  have hst := o2.stored t (.bool true)
  rw [Bo_set, ← hw3] at hst
  have z3 : w3.heap.size = w.heap.size + 2 := by rw [hw3]; simp [z2]
  have z4 : w4.heap.size = w.heap.size + 3 := by rw [hw4, World.size_alloc, z3]
  have hfz := o2.frozenAt t
  have hcz : w2.cell? ⟨gm, t, none⟩ = some (.bool bs[t]) := by rw [o2.cellAt t (by omega), Bo_get? htb]
  have k2 : Blk1 w2 (w.heap.size + 1) 81 (.slice (some ⟨gm, 0, none⟩) bs.length cm) := by rw [hw2, ← z1]; exact Blk1.new
  have p2 : Blk2 w2 w.heap.size 26 (.slice an ls.length cn) (.slice ao l.length co) := by
    have : Blk2 w1 w.heap.size 26 (.slice an ls.length cn) (.slice ao l.length co) := by rw [hw1]; exact Blk2.new
    exact this.below b2 (by omega)
  have hcb := k2.cell
  have k3 := k2.beside hst.2 (by intro e; have := Option.some.inj e; omega)
  have p3 := p2.beside hst.2 (by intro e; have := Option.some.inj e; omega)
  have g3 : w.grownBy w3 (some gm) := grown_trans (below_grown (bth b1 b2 (Nat.le_refl _))) hst.2
  have bb3 : Below w0.heap.size w0 w3 := (HB0.out.trans ((bth b1 b2 (Nat.le_refl _)).mono hw0)).trans (only_below hst.2 hgl.1 (by omega))
  have HI0 : Hid (NdAt bs.length ls (bs.set t true) (.slice an ls.length cn) (.slice ao l.length co) gm cm w0 w (zs := st) [] w4) := by
    refine ⟨?_, p3.below b4 (by omega), ?_, bb3.trans (b4.mono (by omega)), grown_trans g3 (below_grown b4), by omega⟩
    · exact own_below hst.1 b4
    · exact k3.below b4 (by omega)
  have kx : Blk1 w4 (w.heap.size + 2) 24 (.slice (some ⟨sb, so, none⟩) st.length sc) := by rw [hw4, ← z3]; exact Blk1.new
  have HST4 := Lib.hid (fun n (hn : 1 ≤ n) => back_stops n hn (w.heap.size + 2) w4.heap.size gm sb so sc st hs10 hne (by omega) (by omega) (by omega) (by omega) w4 (Nat.le_refl _) kx.cell hs1 (fun j hj => ((bb3.trans (b4.mono (by omega))).cell (p := ⟨sb, so + j, none⟩) hsb).trans (HSC.out j hj)))
  have HOW : Hid (OwnFrom w4.heap.size (NdAt bs.length ls (bs.set t true) (.slice an ls.length cn) (.slice ao l.length co) gm cm w0 w (zs := st))) := ndAt_own hw0 (by omega)
  have HALL := Lib.hid (ndPre_all ls (bs.set t true) st hne)
  have HPL := Lib.hid (fun pre => ndPre_len ls (zs := st) pre (bs.set t true))
  have HW3 : Hid (w3 = ((w.alloc (.cells #[.slice an ls.length cn, .slice ao l.length co] 26)).alloc (.cells #[.slice (some ⟨gm, 0, none⟩) bs.length cm] 81)).setCell ⟨gm, t, none⟩ (.bool true)) := by show _ = _; rw [hw3, hw2, hw1]
  have HZ4 := Lib.hid z4
  have HZ3 := Lib.hid z3
  have HW4 := Lib.hid hw4
  rw [hw2, hw1] at hcz hfz hcb
  have HBL := Lib.hid hbl
  have HGL := Lib.hid hgl
  clear hbl hgl
  clear hown hst o2 b1 b2 b4 z1 z2 z3 z4 hw1 hw2 hw3 hw4 k2 p2 k3 p3 g3 bb3 kx hb0 HV
  refine (callsIn_wide (n := 6)).1 ?_
  refine callsIn_of_wp_marks Try.func116 rfl trivial ?_ rfl
  simp only [Try.ntmps116, List.size_toArray, List.length_cons, List.length_nil, Nat.reduceAdd, Nat.reduceSub, Array.replicate_succ, Array.replicate_zero, List.push_toArray, List.append_toArray, List.nil_append, List.cons_append]
  gi_wp2_with fail
  rw [← HW3.out]
  refine ⟨trivial, (back_in _ _ _ _ _).mono ?_⟩
  rintro e wx ⟨rfl, hwx⟩
  obtain rfl : w4 = wx := by rw [hwx, HW4.out]
  clear hwx hfz hcz hcb
  rw [HZ3.out]
  gi_wp2_with fail
  refine wpIn_rangeFunc_ownG rfl (by omega) (gf := 140) (lb := #[.pointer (some ⟨w.heap.size + 2, 0, none⟩)]) rfl trivial (enters_of Try.func140 (by kernel_rfl) rfl)
    (HST4.out _ (by omega)) KeepN.trans (keepN_b (Nat.le_refl _)) (Below.refl _ _) (fun _ => rfl)
    (NdAt bs.length ls (bs.set t true) (.slice an ls.length cn) (.slice ao l.length co) gm cm w0 w (zs := st))
    (fun _ _ _ => False)
    HOW.out
    (fun _ _ _ _ _ hs _ _ => hs)
    HI0.out
    (fun x => { tmps := #[.agg #[.slice an ls.length cn, .slice ao l.length co], .slice (some ⟨sb, so, none⟩) st.length sc, .int .i64 (t : Int), .slice (some ⟨gm, 0, none⟩) bs.length cm, .pointer (some ⟨w.heap.size, 0, none⟩), undef, undef, .pointer (some ⟨w.heap.size + 1, 0, none⟩), undef, .int .i64 x.1.2, undef, undef, .slice (some ⟨gm, 0, none⟩) bs.length cm, .int .i64 (t : Int), .pointer (some ⟨gm, t, none⟩), .slice (some ⟨sb, so, none⟩) st.length sc, .func (.func 140) #[] #[.pointer (some ⟨w.heap.size + 2, 0, none⟩)], .int .i64 (x.1.1 : Int), .int .i64 x.1.2, undef, undef, undef, undef, undef, undef, undef, undef, undef, undef, undef, undef, undef, undef, undef, undef, undef, undef, undef], defers := [] }) ?assign ?body ?done ?stop
  case assign =>
    intro l x W K hK
    gi_wp2
    exact hK
  case body =>
    rintro lr pre x W ⟨hO, hP, hX, hB, hG, hS⟩ _
    have hx := HIN.out x.1.2 x.2
    have HPS := Lib.hid (ndPre_snoc ls (bs.set t true) pre x)
    have hpl : (ndPre ls (bs.set t true) pre).length = bs.length := by rw [HPL.out pre, List.length_set]
    obtain ⟨un, hun⟩ : ∃ un : Nat, x.1.2 = un := ⟨x.1.2.toNat, by omega⟩
    have hul : un < ls.length := by omega
    have hul2 : (un : Int) < (ls.length : Int) := by omega
    have hub : un < bs.length := by have := HBL.out; omega
    have hub2 : (un : Int) < (bs.length : Int) := by omega
    generalize ndPre ls (bs.set t true) pre = bk at *
    rw [hun] at HPS ⊢
    have hcu : W.cell? ⟨gm, un, none⟩ = some (.bool (markB bk (un : Int))) := by rw [hO.cellAt un (by omega), Bo_get? (by omega), markB_get (by omega)]
    have hcx := hX.cell
    obtain ⟨d0, d1⟩ := hP.cells
    have hgb : gm < w4.heap.size := by have := HGL.out.2; have := HZ4.out; omega
    have hgw := HGL.out.1
    have HGG := Lib.hid hG
    rcases hm : markB bk (un : Int) with _ | _
    · have HE : Hid (markStep ls bk (un : Int) = bk) := by show _ = _; unfold markStep; rw [hm]; rfl
      rw [hm] at hcu
      clear hm
      have HI1 : Hid (NdAt bs.length ls (bs.set t true) (.slice an ls.length cn) (.slice ao l.length co) gm cm w0 w (zs := st) (pre ++ [x]) W) := ⟨by rw [HPS.out, HE.out]; exact hO, hP, hX, hB, hG, hS⟩
      clear hO hP hX hB hG
      gi_wp2
      exact ⟨KeepsFrom.refl _ _, KeepN.refl _ _ _, HI1.out⟩
    · have HE : Hid (markStep ls bk (un : Int) = nd1 bk ls[un]) := by show _ = _; unfold markStep; rw [hm, if_pos rfl, needsAt_get hul]
      rw [hm] at hcu
      clear hm
      obtain ⟨g1, o1, a2, c2, hgn, hg1, hcell1, hrow⟩ := HAT.out un hul
      subst hgn
      have hcn : W.cell? ⟨g1, o1 + un, none⟩ = some (.slice a2 ls[un].length c2) := (hB.cell (p := ⟨g1, o1 + un, none⟩) hg1).trans hcell1
      have HRW : Hid (∀ W, Below w0.heap.size w0 W → RowV W (.slice a2 ls[un].length c2) (I ls[un])) := fun W h => hrow.below h
      have hnl : ls[un].length ≤ c2 ∧ c2 ≤ 2 ^ 63 - 1 := by
        obtain ⟨_, _, h, h', h4, _⟩ := hrow.ints
        unfold maxLen at h4
        injection h with _ _ h3; omega
      obtain ⟨hnl, hc2⟩ := hnl
      have HO := Lib.hid hO
      have HP := Lib.hid hP
      have HX := Lib.hid hX
      have HB := Lib.hid hB
      have HPL2 := Lib.hid hpl
      clear hO hP hX hB hG hcell1 hrow hpl
      gi_wp2
      clear hcu hcx hcn d0 d1
      gi_loopw [30] (fun i wz => ∃ m : Nat, m ≤ ls[un].length ∧ i = .int .i64 (m : Int) ∧ Hid (wz.ownsRow w0.heap.size 4 1 (.slice (some ⟨gm, 0, none⟩) bs.length cm) bs.length (Bo (nd1 bk (ls[un].take m)))) ∧ Hid (Blk2 wz w.heap.size 26 (.slice (some ⟨g1, o1, none⟩) ls.length cn) (.slice ao l.length co)) ∧ Hid (Blk1 wz (w.heap.size + 1) 81 (.slice (some ⟨gm, 0, none⟩) bs.length cm)) ∧ Hid (Below w0.heap.size w0 wz) ∧ Hid (W.grownBy wz (some gm))) (fun i _ => ls[un].length - (intOf i).toNat)
      case atStart => exact ⟨0, Nat.zero_le _, rfl, HO, HP, HX, HB, grown_refl _ _⟩
      case round =>
        clear HO HP HX HB
        obtain ⟨m, hm, rfl, HO, HP, HX, HB, HG⟩ := hrel
        by_cases hlt2 : m < ls[un].length
        · have hxm := HND.out un hul ls[un][m] (List.getElem_mem hlt2)
          obtain ⟨kn, hkn⟩ : ∃ kn : Nat, ls[un][m] = kn := ⟨ls[un][m].toNat, by omega⟩
          have hkl : kn < bs.length := by have := HBL.out; omega
          have hkl2 : (kn : Int) < (bs.length : Int) := by omega
          obtain ⟨gr, or, hra, hcr⟩ : ∃ gr or, a2 = some ⟨gr, or, none⟩ ∧ wr.cell? ⟨gr, or + m, none⟩ = some (.int .i64 (kn : Int)) := by
            obtain ⟨aa, cc, h, _, _, hc⟩ := (HRW.out wr HB.out).ints
            injection h with h1 _ _
            obtain ⟨gr, or, h2, _, h3⟩ := hc m hlt2
            exact ⟨gr, or, by rw [h1, h2], by rw [h3, hkn]⟩
          subst hra
          have hlo : (nd1 bk (ls[un].take m)).length = bs.length := by rw [nd1_len, HPL2.out]
          have HE2 : Hid (nd1 bk (ls[un].take (m + 1)) = (nd1 bk (ls[un].take m)).set kn true) := by
            show _ = _
            rw [List.take_succ_eq_append_getElem hlt2, nd1_snoc, hkn, show ((kn : Int)).toNat = kn by omega]
          generalize nd1 bk (ls[un].take m) = bo at *
          have hck : wr.cell? ⟨gm, kn, none⟩ = some (.bool (markB bo (kn : Int))) := by rw [HO.out.cellAt kn (by omega), Bo_get? (by omega), markB_get (by omega)]
          have hf2 := HO.out.frozenAt kn
          have hcx := HX.out.cell
          have hst := HO.out.stored kn (.bool true)
          rw [Bo_set, ← HE2.out] at hst
          have HO1 := Lib.hid hst.1
          have HB1 := Lib.hid (HB.out.trans (only_below hst.2 hgw HB.out.size))
          have HP1 := Lib.hid (HP.out.beside hst.2 (by intro e; have := Option.some.inj e; have := HGL.out.2; omega))
          have HX1 := Lib.hid (HX.out.beside hst.2 (by intro e; have := Option.some.inj e; have := HGL.out.2; omega))
          have HG1 := Lib.hid (grown_trans HG.out hst.2)
          clear hst HE2 hlo hkn hxm HO HP HB HX HG
          generalize markB bo (kn : Int) = bn at *
          gi_wp2
          go_roundw
          case rel => exact ⟨m + 1, by omega, by go_num, HO1, HP1, HX1, HB1, HG1⟩
          case measure => simp [intOf]; omega
        · rw [List.take_of_length_le (by omega), ← HE.out, ← HPS.out] at HO
          have HI1 : Hid (NdAt bs.length ls (bs.set t true) (.slice (some ⟨g1, o1, none⟩) ls.length cn) (.slice ao l.length co) gm cm w0 w (zs := st) (pre ++ [x]) wr) := ⟨HO.out, HP.out, HX.out, HB.out, grown_trans HGG.out HG.out, Nat.le_trans hS HG.out.size⟩
          gi_wp2
          exact ⟨KeepsFrom.of_grownBy HG.out (fun j e => by cases e; exact hgb), fun i hi hn => HG.out.block i (by have := HZ4.out; omega) (fun e => hn (Option.some.inj e)), HI1.out⟩
  case done =>
    rintro D ys W hD rfl ⟨hO, hP, hX, hB, hG, hS⟩ hK
    rw [HALL.out] at hO
    gi_wp2
    refine ⟨by simp, .inl ⟨_, _, rfl, run_takeDeferred hK, ?_⟩⟩
    have hdd : w.heap.size ≤ D := by have := HZ4.out; omega
    have hgb := grownBy_putObj' W D (.deferred none)
    have hrr : ∀ r, some D = some r → ∃ o : Obj, W.heap[r]? = some o ∧ o.isCells = false := fun r e => by cases e; exact ⟨_, hK, rfl⟩
    refine ⟨_, results_none rfl _ _ _, rfl, hB.grown hgb hB.size (fun k e => by cases e; omega), own_kept hO hgb hrr, grown_more hG hgb (Nat.le_refl _) (fun r e => by cases e; exact hdd)⟩
  case stop =>
    rintro D c pre W _ _ h _
    exact h.elim
theorem needs_mark : MarkC 116 needsF := by
  intro ls l t bs nv ov gm cm w0 w hG hst hb hown hbl ht
  have h1 := hG.same
  have h2 := hG.low
  have h3 := hG.high
  refine (markNeedsG_any ls l l t bs _ ov gm cm w0 w hst hst.parts.2 hb hown hbl hG.high (by omega) (by omega) ht (fun x hx => by have := hG.tasks x hx; omega) (good_in hG)).mono ?_
  rintro e w' ⟨he, _, ho, hg⟩
  exact ⟨he, ho, hg⟩

set_option maxRecDepth 20000 in
set_option maxHeartbeats 1000000 in
theorem neededTest_any (ls : List (List Int)) (l cs : List Int) (v u : Value) (w : World) (hst : GraphV w v ls l) (hrow : RowV w u (I cs)) (hG : GoodG ls l) (hc : ∀ x ∈ cs, 0 ≤ x ∧ x < (ls.length : Int)) :
    Calls Try.prog 99 #[v, u] w (TestSPost (· ∈ l) (hasL (needS ls cs)) w) := by
  have HV := Lib.hid hst
  obtain ⟨nv, ov, rfl, h1, h2⟩ := hst
  obtain ⟨an, cn, rfl, hn1, hn2, hat⟩ := h1.lists
  obtain ⟨ao, co, rfl, ho1, ho2, hao⟩ := h2.ints
  clear h1 h2
  unfold maxLen at hn2 ho2
  have HAT := Lib.hid hat
  have HAO := Lib.hid hao
  clear hat hao
  obtain ⟨wa, hwa⟩ : ∃ wa, wa = w.alloc (.cells #[.slice an ls.length cn, .slice ao l.length co] 26) := ⟨_, rfl⟩
  have P0 : Hid (Blk2 wa w.heap.size 26 (.slice an ls.length cn) (.slice ao l.length co)) := by rw [hwa]; exact Blk2.new
  have HA : Hid (Below w.heap.size w wa) := by rw [hwa]; exact (Below.refl w.heap.size w).alloc (Nat.le_refl _) _
  have hsa : wa.heap.size = w.heap.size + 1 := by rw [hwa]; simp
  have HSA := Lib.hid hsa
  have hsz : w.heap.size < wa.heap.size := by omega
  have HWA := Lib.hid hwa
  obtain ⟨c0, c1⟩ := P0.out.cells
  have HM := Lib.hid (markedTest_any 116 needsF needs_mark (enters_of Try.func116 (by kernel_rfl) rfl) needsF_len ls l cs _ u wa (HV.out.below HA.out) (hrow.below HA.out) hG hc)
  have HTD := Lib.hid (needs_told hG.toP hc)
  obtain ⟨ua, uc, rfl, hu1, hu2, _⟩ := hrow.ints
  clear hwa hsa hrow hG hc
  go_enter Try.func99, Try.ntmps99
  go_wp2_with fail
  rw [← HWA.out]
  refine HM.out.mono ?_
  rintro e w1 ⟨fv, rfl, ht, hb1⟩
  have HT := Lib.hid (ht.congr HTD.out)
  have HB1 := Lib.hid (bth HA.out hb1 (Nat.le_refl _))
  clear ht hb1 c0 c1
  go_wp2_with fail
  go_ret
  exact ⟨_, rfl, HT.out, HB1.out⟩

set_option maxRecDepth 20000 in
set_option maxHeartbeats 8000000 in
theorem implNeeded_any (ls : List (List Int)) (l cs : List Int) (v ucs : Value) (w : World) (hst : GraphV w v ls l) (hcs : RowV w ucs (I cs)) :
    Calls Try.prog 42 #[v, ucs] w (ListOk (needA ls l cs) (someG ls l cs) w) := by
  have HV := Lib.hid hst
  obtain ⟨nv, ov, rfl, h1, h2⟩ := hst
  obtain ⟨an, cn, rfl, hn1, hn2, hat⟩ := h1.lists
  obtain ⟨ao, co, rfl, ho1, ho2, hao⟩ := h2.ints
  clear h1 h2
  unfold maxLen at hn2 ho2
  have HAT := Lib.hid hat
  have HAO := Lib.hid hao
  clear hat hao
  obtain ⟨wa, hwa⟩ : ∃ wa, wa = w.alloc (.cells #[.slice an ls.length cn, .slice ao l.length co] 26) := ⟨_, rfl⟩
  have P0 : Hid (Blk2 wa w.heap.size 26 (.slice an ls.length cn) (.slice ao l.length co)) := by rw [hwa]; exact Blk2.new
  have HA : Hid (Below w.heap.size w wa) := by rw [hwa]; exact (Below.refl w.heap.size w).alloc (Nat.le_refl _) _
  have hsa : wa.heap.size = w.heap.size + 1 := by rw [hwa]; simp
  have HSA := Lib.hid hsa
  have hsz : w.heap.size < wa.heap.size := by omega
  have HWA := Lib.hid hwa
  obtain ⟨c0, c1⟩ := P0.out.cells
  have HUcs := Lib.hid hcs
  obtain ⟨xacs, xccs, rfl, hxlcs, hxmcs, _⟩ := hcs.ints
  clear hcs
  unfold maxLen at hxmcs
  have HGD := Lib.hid (fun W (h : Below wa.heap.size wa W) => implGood_any ls l _ W (HV.out.below (bth HA.out h (Nat.le_refl _))))
  have HTcs := Lib.hid (fun W (h : Below wa.heap.size wa W) => areTasks_any ls l cs _ _ W (HV.out.below (bth HA.out h (Nat.le_refl _))) (HUcs.out.below (bth HA.out h (Nat.le_refl _))))
  have HEQ : Hid ((goodG ls l && riseB 0 ((ls.length : Int) - 1) cs) = someG ls l cs) := some_eq _ _ _
  have HNo : Hid ((goodG ls l && riseB 0 ((ls.length : Int) - 1) cs) = false → needA ls l cs = [] ∧ someG ls l cs = false) := fun h => by
    rw [HEQ.out] at h
    exact ⟨needA_no h, h⟩
  have HYes : Hid ((goodG ls l && riseB 0 ((ls.length : Int) - 1) cs) = true → needA ls l cs = needA_v ls l cs ∧ someG ls l cs = true ∧ GoodG ls l ∧ (Rise cs ∧ ∀ x ∈ cs, 0 ≤ x ∧ x < (ls.length : Int))) := fun h => by
    rw [HEQ.out] at h
    exact ⟨needA_yes h, h, some_yes h⟩
  clear HEQ
  generalize someG ls l cs = bb at *
  generalize needA ls l cs = R at *
  generalize goodG ls l = b0 at *
  generalize riseB 0 ((ls.length : Int) - 1) cs = bcs at *
  clear hwa
  go_enter Try.func42, Try.ntmps42
  go_wp2_with fail
  rw [← HWA.out]
  refine (HGD.out wa (Below.refl _ _)).mono ?_
  rintro e w1 ⟨rfl, hb1⟩
  have K1 := Lib.hid hb1
  obtain ⟨p1, q1⟩ := (P0.out.below K1.out hsz).cells
  clear hb1 c0 c1
  cases b0 with
  | false =>
    have hR := HNo.out rfl
    obtain ⟨rfl, rfl⟩ := hR
    clear HNo HYes HGD HTcs
    go_wp2_with fail
    go_ret2
    exact ⟨_, rfl, none_ownZ _ _ _, bth HA.out K1.out (Nat.le_refl _)⟩
  | true =>
    go_wp2_with fail
    refine (HTcs.out w1 K1.out).mono ?_
    rintro e w2 ⟨rfl, hb2⟩
    have K2 := Lib.hid (bth K1.out hb2 (Nat.le_refl _))
    obtain ⟨p2, q2⟩ := (P0.out.below K2.out hsz).cells
    clear hb2 p1 q1
    cases bcs with
    | false =>
      have hR := HNo.out rfl
      obtain ⟨rfl, rfl⟩ := hR
      clear HNo HYes HGD HTcs
      go_wp2_with fail
      go_ret2
      exact ⟨_, rfl, none_ownZ _ _ _, bth HA.out K2.out (Nat.le_refl _)⟩
    | true =>
      obtain ⟨hR, rfl, hG, hccs⟩ := HYes.out rfl
      clear HNo HYes HGD HTcs
      have HKW := Lib.hid (bth HA.out K2.out (Nat.le_refl _))
      have PW := Lib.hid (P0.out.below K2.out hsz)
      have hszW := Nat.lt_of_lt_of_le hsz K2.out.size
      have HR : Hid (R = needS ls cs) := hR
      have HGP := Lib.hid hG.toP
      have HPI : Hid ((upto ls.length).filter (hasL (needS ls cs)) = needS ls cs) := by
        show _ = _
        refine rise_ext (filter_rise (upto_rise _)) (needS_rise _ _) (fun x => ?_)
        rw [List.mem_filter, mem_upto, hasL, decide_eq_true_iff]
        exact ⟨fun h => h.2, fun h => ⟨(mem_needS.1 h).1, h⟩⟩
      have HTS := Lib.hid (fun W (h : Below w.heap.size w W) => neededTest_any ls l cs _ _ W (HV.out.below h) (HUcs.out.below h) hG hccs.2)
      have PD : Hid (Blk2 w2.drew w.heap.size 26 (.slice an ls.length cn) (.slice ao l.length co)) := PW.out
      have ks := PD.out.cells
      have hszD : w.heap.size < w2.drew.heap.size := hszW
      have HKD : Hid (Below w.heap.size w w2.drew) := Below.drew HKW.out
      clear hR hG hccs p2 q2
      go_wp2_with fail
      go_region_held3 (fun w' => w'.cell? ⟨w.heap.size, 0, none⟩ = some (.slice an ls.length cn) ∧ w'.cell? ⟨w.heap.size, 1, none⟩ = some (.slice ao l.length co)) (first | exact ks)
        (first
          | (go_at_call 99; refine (HTS.out _ (by exact HKD.out)).mono ?_; rintro e w7 ⟨fv, rfl, ht7, hb7⟩
             have ks := (PD.out.below hb7 hszD).cells
             have HT7 := Lib.hid ht7.toV
             have K7 := Lib.hid (bth HKD.out hb7 (Nat.le_refl _))
             have C7 := Lib.hid hb7
             clear ht7 hb7)
          | (go_at_call 93; refine (rising_any ls l (hasL (needS ls cs)) _ _ _ (HV.out.below K7.out) HT7.out HGP.out).mono ?_; rintro e w8 ⟨v8, rfl, ho8, hb8⟩
             have HO8 := Lib.hid ho8
             have K8 := Lib.hid (bth K7.out hb8 (Nat.le_refl _))
             have ks := (PD.out.below (bth C7.out hb8 (Nat.le_refl _)) hszD).cells
             clear ho8 hb8))
      all_goals
        rw [HPI.out, ← HR.out] at HO8
        go_wp2_with fail
        go_ret2
        exact ⟨_, rfl, own_base HO8.out K7.out.size, K8.out⟩
end Go.Proofs.Ytpjmdljjmknpkaa
