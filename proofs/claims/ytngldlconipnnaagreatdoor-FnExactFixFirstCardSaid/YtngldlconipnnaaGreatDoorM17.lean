/- Texts of one claim, joined in their order. -/
import Derived.Test.YtngldlconipnnaaGreatDoorM16
import Derived.Test.YtngldlconipnnaaGreatDoorM15

/- Walks: markedTest at a function value, touchedTest, TouchedBy of the program. -/
namespace Go.Proofs.YtngldlconipnnaaGreatDoor
open Go.RowKit Pth

theorem Blk1.beside {w w' : World} {b t : Nat} {x : Value} {r : Option Nat} (h : Blk1 w b t x) (hg : w.grownBy w' r) (hne : r ≠ some b) : Blk1 w' b t x := (hg.block b (lt_of_block h) (fun e => hne e.symm)).trans h
theorem TestS.congr {w : World} {fv : Value} {D : Int → Prop} {p q : Int → Bool} (h : TestS w fv D p) (he : ∀ x, D x → p x = q x) : TestS w fv D q := by
  obtain ⟨K, cap, h1, h2, h3⟩ := h
  exact ⟨K, cap, h1, h2, fun W hW x hx => by rw [← he x hx]; exact h3 W hW x hx⟩
theorem TestV.congr {w : World} {fv : Value} {D : Int → Prop} {p q : Int → Bool} (h : TestV w fv D p) (he : ∀ x, D x → p x = q x) : TestV w fv D q := by
  obtain ⟨K, cap, h1, h2, h3⟩ := h
  exact ⟨K, cap, h1, h2, fun W hW x hx => by rw [← he x hx]; exact h3 W hW x hx⟩

/-- A function that marks: what it makes of the marks, and that nothing else has turned. -/
def MarkC (K : FuncId) (F : List (List Int) → List Int → Nat → List Bool → List Bool) : Prop :=
  ∀ (ls : List (List Int)) (l : List Int) (t : Nat) (bs : List Bool) (nv ov : Value) (gm cm : Nat) (w0 w : World), GoodG ls l → GraphV w0 (.agg #[nv, ov]) ls l → Below w0.heap.size w0 w →
    w.ownsRow w0.heap.size 4 1 (.slice (some ⟨gm, 0, none⟩) bs.length cm) bs.length (Bo bs) → bs.length = ls.length → t < ls.length →
    Calls Tryz.prog K #[.agg #[nv, ov], ov, .int .i64 (t : Int), .slice (some ⟨gm, 0, none⟩) bs.length cm] w fun e w' => e = .returned (.tuple #[]) ∧ w'.ownsRow w0.heap.size 4 1 (.slice (some ⟨gm, 0, none⟩) bs.length cm) bs.length (Bo (F ls l t bs)) ∧ w.grownBy w' (some gm)
theorem users_mark : MarkC 180 usersF := by
  intro ls l t bs nv ov gm cm w0 w hG hst hb hown hbl ht
  refine (markUsersG_any ls l l t bs _ ov gm cm w0 w hst hst.parts.2 hb hown hbl hG.high ht (fun x hx => by have := hG.tasks x hx; omega) (good_in hG)).mono ?_
  rintro e w' ⟨he, _, ho, hg⟩
  exact ⟨he, ho, hg⟩

set_option maxRecDepth 20000 in
set_option maxHeartbeats 1000000 in
theorem marked1_any (bs : List Bool) (x : Int) (b : Nat) (u : Value) (w : World) (hrow : RowV w u (Bo bs)) (hb : Blk1 w b 27 u) (h0 : 0 ≤ x) (h1 : x < (bs.length : Int)) :
    Calls Tryz.prog 199 #[.int .i64 x, .pointer (some ⟨b, 0, none⟩)] w (BoolS (markB bs x) w) := by
  obtain ⟨n, rfl⟩ : ∃ n : Nat, x = n := ⟨x.toNat, by omega⟩
  have hn : n < bs.length := by omega
  have hc := hb.cell
  obtain ⟨a, cap, rfl, hc1, hc2, hat⟩ := hrow.bools
  obtain ⟨g, o, rfl, hg, hcell⟩ := hat n hn
  rw [← markB_get hn] at hcell
  unfold maxLen at hc2
  clear hrow hb hat
  generalize markB bs (n : Int) = y at *
  go_enter Tryz.func199, Tryz.ntmps199
  go_wp2_with fail
  go_ret
  exact ⟨rfl, rfl⟩

set_option maxRecDepth 20000 in
set_option maxHeartbeats 8000000 in
theorem markedTest_any (K : FuncId) (F : List (List Int) → List Int → Nat → List Bool → List Bool) (hF : MarkC K F) (hent : ∀ args w, (callFunc K args).run Tryz.prog w = .ok (.enter K args) w) (hlen : ∀ ls l t bs, (F ls l t bs).length = bs.length)
    (ls : List (List Int)) (l cs : List Int) (v u : Value) (w : World) (hst : GraphV w v ls l) (hrow : RowV w u (I cs)) (hG : GoodG ls l) (hc : ∀ x ∈ cs, 0 ≤ x ∧ x < (ls.length : Int)) :
    Calls Tryz.prog 179 #[v, u, .func (.func K) #[] #[]] w (TestSPost (· ∈ l) (markB (marksOf F ls l cs)) w) := by
  have HV := Lib.hid hst
  obtain ⟨nv, ov, rfl, h1, h2⟩ := hst
  obtain ⟨an, cn, rfl, hn1, hn2, hat⟩ := h1.lists
  obtain ⟨ao, co, rfl, ho1, ho2, hao⟩ := h2.ints
  clear h1 h2
  unfold maxLen at hn2 ho2
  have HAT := Lib.hid hat
  have HAO := Lib.hid hao
  clear hat hao
  obtain ⟨wa, hwa⟩ : ∃ wa, wa = w.alloc (.cells #[.slice an ls.length cn, .slice ao l.length co] 26) := ⟨_, rfl⟩
  have P0 : Hid (Blk2 wa w.heap.size 26 (.slice an ls.length cn) (.slice ao l.length co)) := by rw [hwa]; exact Blk2.new
  have HA : Hid (Below w.heap.size w wa) := by rw [hwa]; exact (Below.refl w.heap.size w).alloc (Nat.le_refl _) _
  have hsa : wa.heap.size = w.heap.size + 1 := by rw [hwa]; simp
  have HSA := Lib.hid hsa
  have hsz : w.heap.size < wa.heap.size := by omega
  have HWA := Lib.hid hwa
  obtain ⟨c0, c1⟩ := P0.out.cells
  have HU := Lib.hid hrow
  obtain ⟨ua, uc, rfl, hu1, hu2, hau⟩ := hrow.ints
  have HAU := Lib.hid hau
  clear hrow hau
  unfold maxLen at hu2
  have hmf : ∀ (fn : Fn) (first cap : Array Value) (w : World), (Instr.makeFunc fn first cap).run Tryz.prog w = .ok (.func fn first cap) w := fun _ _ _ _ => rfl
  have h10 := hG.high
  have HGG := Lib.hid hG
  have HC := Lib.hid hc
  have HML := Lib.hid (fun k => marksOf_len hlen ls l (cs.take k))
  have HF := Lib.hid hF
  have HSN := Lib.hid (fun k (hk : k < cs.length) => show marksOf F ls l (cs.take (k + 1)) = F ls l cs[k].toNat (marksOf F ls l (cs.take k)) by rw [List.take_succ_eq_append_getElem hk, marksOf_snoc])
  obtain ⟨csB, hcB, mB⟩ := make_alloc elemB rfl ls.length (by omega)
  have hH := (own_of_heap (w := wa.alloc (.cells csB 4)) (B := wa.heap.size) (heap_alloc_new wa _) (Nat.le_refl _) hcB (by simp) (show ls.length ≤ maxLen by unfold maxLen; omega))
  obtain ⟨w2, hw2⟩ : ∃ w2, w2 = wa.alloc (.cells csB 4) := ⟨_, rfl⟩
  obtain ⟨w3, hw3⟩ : ∃ w3, w3 = w2.alloc (.cells #[.slice (some ⟨w.heap.size + 1, 0, none⟩) ls.length ls.length] 27) := ⟨_, rfl⟩
  have hs2 : w2.heap.size = w.heap.size + 2 := by rw [hw2, World.size_alloc, hsa]
  have hs3 : w3.heap.size = w.heap.size + 3 := by rw [hw3, World.size_alloc, hs2]
  have hb2 : Below wa.heap.size wa w2 := by rw [hw2]; exact (Below.refl _ wa).alloc (Nat.le_refl _) _
  have hb3 : Below w2.heap.size w2 w3 := by rw [hw3]; exact (Below.refl _ w2).alloc (Nat.le_refl _) _
  rw [← hw2, hsa] at hH
  have HO0 : Hid (w3.ownsRow w.heap.size 4 1 (.slice (some ⟨w.heap.size + 1, 0, none⟩) ls.length ls.length) ls.length (Bo (List.replicate ls.length false))) := by
    rw [Bo_rep]
    exact own_base (own_below hH hb3) (by omega)
  have HX0 : Hid (Blk1 w3 (w.heap.size + 2) 27 (.slice (some ⟨w.heap.size + 1, 0, none⟩) ls.length ls.length)) := by rw [hw3, ← hs2]; exact Blk1.new
  have HP0 := Lib.hid ((P0.out.below hb2 hsz).below hb3 (by omega))
  have HB0 := Lib.hid (bth HA.out (bth hb2 hb3 (Nat.le_refl _)) (Nat.le_refl _))
  have HW3 : Hid (w3 = ((w.alloc (.cells #[.slice an ls.length cn, .slice ao l.length co] 26)).alloc (.cells csB 4)).alloc (.cells #[.slice (some ⟨w.heap.size + 1, 0, none⟩) ls.length ls.length] 27)) := by show _ = _; rw [hw3, hw2, hwa]
  rw [hwa] at c0
  clear hwa hsa hw2 hw3 hs2 hs3 hb2 hb3 hH hG hc hF hcB hlen c1 HSA
  go_enter Tryz.func179, Tryz.ntmps179
  go_wp2_with fail
  rw [← HW3.out]
  clear c0 mB
  go_loopw [16] (fun i wr => ∃ k : Nat, k ≤ cs.length ∧ i = .int .i64 (k : Int) ∧ Hid (wr.ownsRow w.heap.size 4 1 (.slice (some ⟨w.heap.size + 1, 0, none⟩) ls.length ls.length) ls.length (Bo (marksOf F ls l (cs.take k)))) ∧ Hid (Blk1 wr (w.heap.size + 2) 27 (.slice (some ⟨w.heap.size + 1, 0, none⟩) ls.length ls.length)) ∧ Hid (Blk2 wr w.heap.size 26 (.slice an ls.length cn) (.slice ao l.length co)) ∧ Hid (Below w.heap.size w wr)) (fun i _ => cs.length - (intOf i).toNat)
  case atStart => exact ⟨0, Nat.zero_le _, rfl, HO0, HX0, HP0, HB0⟩
  case round =>
    clear HO0 HX0 HP0 HB0
    obtain ⟨k, hk, rfl, HO, HX, HP, HB⟩ := hrel
    by_cases hlt : k < cs.length
    · obtain ⟨g, o, hgo, hg, hcell0⟩ := HAU.out k hlt
      subst hgo
      have hxr := HC.out cs[k] (List.getElem_mem hlt)
      obtain ⟨t, ht⟩ : ∃ t : Nat, cs[k] = t := ⟨cs[k].toNat, by omega⟩
      have htl : t < ls.length := by omega
      have hcell : wr.cell? ⟨g, o + k, none⟩ = some (.int .i64 (t : Int)) := by rw [HB.out.cell (p := ⟨g, o + k, none⟩) hg, hcell0, ht]
      obtain ⟨d0, d1⟩ := HP.out.cells
      have d2 := HX.out.cell
      have hml := HML.out k
      have HSK : Hid (marksOf F ls l (cs.take (k + 1)) = F ls l t (marksOf F ls l (cs.take k))) := by
        show _ = _
        rw [HSN.out k hlt, ht, show ((t : Int)).toNat = t by omega]
      generalize marksOf F ls l (cs.take k) = bk at *
      have hCC := HF.out ls l t bk (.slice an ls.length cn) (.slice ao l.length co) (w.heap.size + 1) ls.length w wr HGG.out HV.out HB.out (by rw [hml]; exact HO.out) hml htl
      rw [hml] at hCC
      have HCC := Lib.hid hCC
      clear hCC hcell0 hxr ht hml
      go_wp2_with fail
      refine HCC.out.mono ?_
      rintro e w8 ⟨rfl, ho8, hg8⟩
      have HO8 := Lib.hid ho8
      rw [← HSK.out] at HO8
      have HX8 := Lib.hid (HX.out.beside hg8 (by intro e; have := Option.some.inj e; omega))
      have HP8 := Lib.hid (HP.out.beside hg8 (by intro e; have := Option.some.inj e; omega))
      have HB8 := Lib.hid (HB.out.trans (only_below hg8 (by omega) HB.out.size))
      clear ho8 hg8 d0 d1 d2 hcell
      go_wp2_with fail
      go_roundw
      case rel => exact ⟨k + 1, by omega, by go_num, HO8, HX8, HP8, HB8⟩
      case measure => simp [intOf]; omega
    · have hml := HML.out k
      rw [List.take_of_length_le (by omega)] at HO hml
      have HM := Lib.hid hml
      have HGP := Lib.hid HGG.out.toP
      clear hml
      go_wp2_with fail
      go_ret
      refine ⟨_, rfl, ⟨199, #[.pointer (some ⟨w.heap.size + 2, 0, none⟩)], rfl, enters_of Tryz.func199 (by kernel_rfl) rfl, fun W hW x hx => ?_⟩, HB.out⟩
      have hxr := HGP.out.range x hx
      exact marked1_any (marksOf F ls l cs) x (w.heap.size + 2) _ W (RowV.of_own (own_below HO.out hW)) (HX.out.below hW (lt_of_block HX.out)) hxr.1 (by rw [HM.out]; exact hxr.2)

set_option maxRecDepth 20000 in
set_option maxHeartbeats 1000000 in
theorem touchedTest_any (ls : List (List Int)) (l cs : List Int) (v u : Value) (w : World) (hst : GraphV w v ls l) (hrow : RowV w u (I cs)) (hG : GoodG ls l) (hc : ∀ x ∈ cs, 0 ≤ x ∧ x < (ls.length : Int)) :
    Calls Tryz.prog 142 #[v, u] w (TestSPost (· ∈ l) (hasL (touchS ls cs)) w) := by
  have HV := Lib.hid hst
  obtain ⟨nv, ov, rfl, h1, h2⟩ := hst
  obtain ⟨an, cn, rfl, hn1, hn2, hat⟩ := h1.lists
  obtain ⟨ao, co, rfl, ho1, ho2, hao⟩ := h2.ints
  clear h1 h2
  unfold maxLen at hn2 ho2
  have HAT := Lib.hid hat
  have HAO := Lib.hid hao
  clear hat hao
  obtain ⟨wa, hwa⟩ : ∃ wa, wa = w.alloc (.cells #[.slice an ls.length cn, .slice ao l.length co] 26) := ⟨_, rfl⟩
  have P0 : Hid (Blk2 wa w.heap.size 26 (.slice an ls.length cn) (.slice ao l.length co)) := by rw [hwa]; exact Blk2.new
  have HA : Hid (Below w.heap.size w wa) := by rw [hwa]; exact (Below.refl w.heap.size w).alloc (Nat.le_refl _) _
  have hsa : wa.heap.size = w.heap.size + 1 := by rw [hwa]; simp
  have HSA := Lib.hid hsa
  have hsz : w.heap.size < wa.heap.size := by omega
  have HWA := Lib.hid hwa
  obtain ⟨c0, c1⟩ := P0.out.cells
  have HM := Lib.hid (markedTest_any 180 usersF users_mark (enters_of Tryz.func180 (by kernel_rfl) rfl) usersF_len ls l cs _ u wa (HV.out.below HA.out) (hrow.below HA.out) hG hc)
  have HTD := Lib.hid (users_told hG.toP hc)
  obtain ⟨ua, uc, rfl, hu1, hu2, _⟩ := hrow.ints
  clear hwa hsa hrow hG hc
  go_enter Tryz.func142, Tryz.ntmps142
  go_wp2_with fail
  rw [← HWA.out]
  refine HM.out.mono ?_
  rintro e w1 ⟨fv, rfl, ht, hb1⟩
  have HT := Lib.hid (ht.congr HTD.out)
  have HB1 := Lib.hid (bth HA.out hb1 (Nat.le_refl _))
  clear ht hb1 c0 c1
  go_wp2_with fail
  go_ret
  exact ⟨_, rfl, HT.out, HB1.out⟩

set_option maxRecDepth 20000 in
set_option maxHeartbeats 8000000 in
theorem implTouched_any (ls : List (List Int)) (l cs : List Int) (v ucs : Value) (w : World) (hst : GraphV w v ls l) (hcs : RowV w ucs (I cs)) :
    Calls Tryz.prog 84 #[v, ucs] w (ListOk (touchA ls l cs) (someG ls l cs) w) := by
  have HV := Lib.hid hst
  obtain ⟨nv, ov, rfl, h1, h2⟩ := hst
  obtain ⟨an, cn, rfl, hn1, hn2, hat⟩ := h1.lists
  obtain ⟨ao, co, rfl, ho1, ho2, hao⟩ := h2.ints
  clear h1 h2
  unfold maxLen at hn2 ho2
  have HAT := Lib.hid hat
  have HAO := Lib.hid hao
  clear hat hao
  obtain ⟨wa, hwa⟩ : ∃ wa, wa = w.alloc (.cells #[.slice an ls.length cn, .slice ao l.length co] 26) := ⟨_, rfl⟩
  have P0 : Hid (Blk2 wa w.heap.size 26 (.slice an ls.length cn) (.slice ao l.length co)) := by rw [hwa]; exact Blk2.new
  have HA : Hid (Below w.heap.size w wa) := by rw [hwa]; exact (Below.refl w.heap.size w).alloc (Nat.le_refl _) _
  have hsa : wa.heap.size = w.heap.size + 1 := by rw [hwa]; simp
  have HSA := Lib.hid hsa
  have hsz : w.heap.size < wa.heap.size := by omega
  have HWA := Lib.hid hwa
  obtain ⟨c0, c1⟩ := P0.out.cells
  have HUcs := Lib.hid hcs
  obtain ⟨xacs, xccs, rfl, hxlcs, hxmcs, _⟩ := hcs.ints
  clear hcs
  unfold maxLen at hxmcs
  have HGD := Lib.hid (fun W (h : Below wa.heap.size wa W) => implGood_any ls l _ W (HV.out.below (bth HA.out h (Nat.le_refl _))))
  have HTcs := Lib.hid (fun W (h : Below wa.heap.size wa W) => areTasks_any ls l cs _ _ W (HV.out.below (bth HA.out h (Nat.le_refl _))) (HUcs.out.below (bth HA.out h (Nat.le_refl _))))
  have HEQ : Hid ((goodG ls l && riseB 0 ((ls.length : Int) - 1) cs) = someG ls l cs) := some_eq _ _ _
  have HNo : Hid ((goodG ls l && riseB 0 ((ls.length : Int) - 1) cs) = false → touchA ls l cs = [] ∧ someG ls l cs = false) := fun h => by
    rw [HEQ.out] at h
    exact ⟨touchA_no h, h⟩
  have HYes : Hid ((goodG ls l && riseB 0 ((ls.length : Int) - 1) cs) = true → touchA ls l cs = touchA_v ls l cs ∧ someG ls l cs = true ∧ GoodG ls l ∧ (Rise cs ∧ ∀ x ∈ cs, 0 ≤ x ∧ x < (ls.length : Int))) := fun h => by
    rw [HEQ.out] at h
    exact ⟨touchA_yes h, h, some_yes h⟩
  clear HEQ
  generalize someG ls l cs = bb at *
  generalize touchA ls l cs = R at *
  generalize goodG ls l = b0 at *
  generalize riseB 0 ((ls.length : Int) - 1) cs = bcs at *
  clear hwa
  go_enter Tryz.func84, Tryz.ntmps84
  go_wp2_with fail
  rw [← HWA.out]
  refine (HGD.out wa (Below.refl _ _)).mono ?_
  rintro e w1 ⟨rfl, hb1⟩
  have K1 := Lib.hid hb1
  obtain ⟨p1, q1⟩ := (P0.out.below K1.out hsz).cells
  clear hb1 c0 c1
  cases b0 with
  | false =>
    have hR := HNo.out rfl
    obtain ⟨rfl, rfl⟩ := hR
    clear HNo HYes HGD HTcs
    go_wp2_with fail
    go_ret2
    exact ⟨_, rfl, none_ownZ _ _ _, bth HA.out K1.out (Nat.le_refl _)⟩
  | true =>
    go_wp2_with fail
    refine (HTcs.out w1 K1.out).mono ?_
    rintro e w2 ⟨rfl, hb2⟩
    have K2 := Lib.hid (bth K1.out hb2 (Nat.le_refl _))
    obtain ⟨p2, q2⟩ := (P0.out.below K2.out hsz).cells
    clear hb2 p1 q1
    cases bcs with
    | false =>
      have hR := HNo.out rfl
      obtain ⟨rfl, rfl⟩ := hR
      clear HNo HYes HGD HTcs
      go_wp2_with fail
      go_ret2
      exact ⟨_, rfl, none_ownZ _ _ _, bth HA.out K2.out (Nat.le_refl _)⟩
    | true =>
      obtain ⟨hR, rfl, hG, hccs⟩ := HYes.out rfl
      clear HNo HYes HGD HTcs
      have HKW := Lib.hid (bth HA.out K2.out (Nat.le_refl _))
      have PW := Lib.hid (P0.out.below K2.out hsz)
      have hszW := Nat.lt_of_lt_of_le hsz K2.out.size
      have HR : Hid (R = touchS ls cs) := hR
      have HGP := Lib.hid hG.toP
      have HPI : Hid ((upto ls.length).filter (hasL (touchS ls cs)) = touchS ls cs) := by
        show _ = _
        refine rise_ext (filter_rise (upto_rise _)) (touchS_rise _ _) (fun x => ?_)
        rw [List.mem_filter, mem_upto, hasL, decide_eq_true_iff]
        exact ⟨fun h => h.2, fun h => ⟨(mem_touchS.1 h).1, h⟩⟩
      have HTS := Lib.hid (fun W (h : Below w.heap.size w W) => touchedTest_any ls l cs _ _ W (HV.out.below h) (HUcs.out.below h) hG hccs.2)
      have PD : Hid (Blk2 w2.drew w.heap.size 26 (.slice an ls.length cn) (.slice ao l.length co)) := PW.out
      have ks := PD.out.cells
      have hszD : w.heap.size < w2.drew.heap.size := hszW
      have HKD : Hid (Below w.heap.size w w2.drew) := Below.drew HKW.out
      clear hR hG hccs p2 q2
      go_wp2_with fail
      go_region_held3 (fun w' => w'.cell? ⟨w.heap.size, 0, none⟩ = some (.slice an ls.length cn) ∧ w'.cell? ⟨w.heap.size, 1, none⟩ = some (.slice ao l.length co)) (first | exact ks)
        (first
          | (go_at_call 142; refine (HTS.out _ (by exact HKD.out)).mono ?_; rintro e w7 ⟨fv, rfl, ht7, hb7⟩
             have ks := (PD.out.below hb7 hszD).cells
             have HT7 := Lib.hid ht7.toV
             have K7 := Lib.hid (bth HKD.out hb7 (Nat.le_refl _))
             have C7 := Lib.hid hb7
             clear ht7 hb7)
          | (go_at_call 141; refine (rising_any ls l (hasL (touchS ls cs)) _ _ _ (HV.out.below K7.out) HT7.out HGP.out).mono ?_; rintro e w8 ⟨v8, rfl, ho8, hb8⟩
             have HO8 := Lib.hid ho8
             have K8 := Lib.hid (bth K7.out hb8 (Nat.le_refl _))
             have ks := (PD.out.below (bth C7.out hb8 (Nat.le_refl _)) hszD).cells
             clear ho8 hb8))
      all_goals
        rw [HPI.out, ← HR.out] at HO8
        go_wp2_with fail
        go_ret2
        exact ⟨_, rfl, own_base HO8.out K7.out.size, K8.out⟩
end Go.Proofs.YtngldlconipnnaaGreatDoor

/- Walks: what is made anew after a change, of the program. -/
namespace Go.Proofs.YtngldlconipnnaaGreatDoor
open Go.RowKit Pth

theorem pass_in (one : List ResT → Nat → ResT) (due : List ResT → Nat → Bool) (l : List Int) (s : List ResT × List Int) : ∀ x ∈ (passM one due l s).2, x ∈ s.2 ∨ x ∈ l := by
  induction l generalizing s with
  | nil => intro x hx; exact .inl hx
  | cons k t ih =>
    intro x hx
    simp only [passM] at hx
    rcases ih _ x hx with h | h
    · split at h
      · simp only [List.mem_append, List.mem_singleton] at h
        rcases h with h | h
        · exact .inl h
        · exact .inr (by simp [h])
      · exact .inl h
    · exact .inr (by simp [h])

set_option maxRecDepth 20000 in
set_option maxHeartbeats 8000000 in
theorem again1_any (ls : List (List Int)) (l : List Int) (bs : List Bool) (rs : List (List OpT)) (m0 m : List ResT) (ts : List (List UInt8)) (T : List Int) (y : Nat) (b : Nat) (ta : Option Addr) (tc : Nat) (v : Value) (w : World) (hrem : RemV w v ls l bs rs ts m0 m) (hc : w.cell? ⟨b, 0, none⟩ = some (.slice ta T.length tc)) (hb : b < w.heap.size) (ht : RowV w (.slice ta T.length tc) (I T)) :
    Calls Tryz.prog 85 #[v, .int .i64 (y : Int), .pointer (some ⟨b, 0, none⟩)] w (BoolB (hasL T (y : Int)) w) := by
  have HTT := Lib.hid ht
  have hbw : b < w.heap.size := hb
  obtain ⟨nv, ov, sv, rv, x, u, y, rfl, hp, hts, hr0, hr⟩ := hrem
  have HV := Lib.hid hp
  have HT := Lib.hid hts
  have HR0 := Lib.hid hr0
  have HR := Lib.hid hr
  obtain ⟨nv', ov', sv', rv', he, h1, h2, h3, h4⟩ := hp
  injection he with he
  simp only [Array.mk.injEq, List.cons.injEq, and_true] at he
  obtain ⟨rfl, rfl, rfl, rfl⟩ := he
  obtain ⟨as0, cs, rfl, hs1, hs2, _⟩ := h3.boolsW
  obtain ⟨an, cn, rfl, hn1, hn2, _⟩ := h1.lists
  obtain ⟨ao, co, rfl, ho1, ho2, _⟩ := h2.ints
  obtain ⟨ar, cr, rfl, hr1, hr2, _⟩ := h4.lists
  obtain ⟨at0, ct, rfl, ht1, ht2, _⟩ := hts.texts
  obtain ⟨am, cm, rfl, hm1, hm2, _⟩ := hr0.res
  obtain ⟨az, cz, rfl, hz1, hz2, _⟩ := hr.res
  clear h1 h2 h3 h4 hts hr0 hr
  unfold maxLen at hs2 hn2 ho2 hr2 ht2 hm2 hz2
  obtain ⟨wa, hwa⟩ : ∃ wa, wa = w.alloc (.cells #[.slice an ls.length cn, .slice ao l.length co, .slice as0 bs.length cs, .slice ar rs.length cr, .slice at0 ts.length ct, .slice am m0.length cm, .slice az m.length cz] 121) := ⟨_, rfl⟩
  have hsz : w.heap.size < wa.heap.size := by rw [hwa]; simp
  have P0 : Hid (Blk7 wa w.heap.size 121 (.slice an ls.length cn) (.slice ao l.length co) (.slice as0 bs.length cs) (.slice ar rs.length cr) (.slice at0 ts.length ct) (.slice am m0.length cm) (.slice az m.length cz)) := by rw [hwa]; exact Blk7.new
  have HA : Hid (Below w.heap.size w wa) := by rw [hwa]; exact (Below.refl w.heap.size w).alloc (Nat.le_refl _) _
  have HWA : Hid (w.alloc (.cells #[.slice an ls.length cn, .slice ao l.length co, .slice as0 bs.length cs, .slice ar rs.length cr, .slice at0 ts.length ct, .slice am m0.length cm, .slice az m.length cz] 121) = wa) := by rw [hwa]; rfl
  clear hwa
  have HCO := Lib.hid (contains_any T (y : Int) _ wa (HTT.out.below HA.out))
  clear ht
  go_enter Tryz.func85, Tryz.ntmps85
  go_wp2_with fail
  rw [HWA.out]
  refine HCO.out.mono ?_
  rintro e w1 ⟨rfl, hw1⟩
  subst hw1
  clear HCO
  go_wp2_with fail
  go_ret
  exact ⟨rfl, HA.out⟩

set_option maxRecDepth 20000 in
set_option maxHeartbeats 8000000 in
theorem implAgainAll_any (ls : List (List Int)) (l : List Int) (bs : List Bool) (rs : List (List OpT)) (m : List ResT) (ts : List (List UInt8)) (cs' : List Int) (v u x z : Value) (w : World) (hp : PlanV w v ls l bs rs) (hr : RowR w u m) (hts : RowV w x (S ts)) (hcs : RowV w z (I cs')) (hx : ∀ l ∈ rs, ∀ f ∈ l, f.2.2.length ≤ maxLen) (hxm0 : ∀ f ∈ m, f.1.length ≤ maxLen) (hxt0 : ∀ x ∈ ts, x.length ≤ maxLen) :
    Calls Tryz.prog 28 #[v, u, x, z] w (ResNOk (allR ls l bs rs m ts cs') (allN ls l bs rs m ts cs') (goodC8 ls l bs rs m ts cs') w) := by
  have HV := Lib.hid hp
  obtain ⟨nv, ov, sv, rv, rfl, h1, h2, h3, h4⟩ := hp
  obtain ⟨as0, cs, rfl, hs1, hs2, _⟩ := h3.boolsW
  obtain ⟨an, cn, rfl, hn1, hn2, _⟩ := h1.lists
  obtain ⟨ao, co, rfl, ho1, ho2, _⟩ := h2.ints
  obtain ⟨ar, cr, rfl, hr1, hr2, _⟩ := h4.lists
  clear h1 h2 h3 h4
  have HR := Lib.hid hr
  obtain ⟨am, cm, rfl, hm1, hm2, _⟩ := hr.res
  clear hr
  have HT := Lib.hid hts
  obtain ⟨at0, ct, rfl, ht1, ht2, _⟩ := hts.texts
  clear hts
  unfold maxLen at hs2 hn2 ho2 hr2 hm2 ht2
  have HZ := Lib.hid hcs
  obtain ⟨az, cz, rfl, hz1, hz2, _⟩ := hcs.ints
  clear hcs
  unfold maxLen at hz2
  obtain ⟨wa, hwa⟩ : ∃ wa, wa = w.alloc (.cells #[.slice an ls.length cn, .slice ao l.length co, .slice as0 bs.length cs, .slice ar rs.length cr] 30) := ⟨_, rfl⟩
  have hsz : w.heap.size < wa.heap.size := by rw [hwa]; simp
  have P0 : Hid (Blk4 wa w.heap.size 30 (.slice an ls.length cn) (.slice ao l.length co) (.slice as0 bs.length cs) (.slice ar rs.length cr)) := by rw [hwa]; exact Blk4.new
  have HA : Hid (Below w.heap.size w wa) := by rw [hwa]; exact (Below.refl w.heap.size w).alloc (Nat.le_refl _) _
  have HWA : Hid (w.alloc (.cells #[.slice an ls.length cn, .slice ao l.length co, .slice as0 bs.length cs, .slice ar rs.length cr] 30) = wa) := by rw [hwa]; rfl
  clear hwa
  have HPV : Hid (∀ W, Below w.heap.size w W → PlanV W (.agg #[.slice an ls.length cn, .slice ao l.length co, .slice as0 bs.length cs, .slice ar rs.length cr]) ls l bs rs) := fun W h => HV.out.below h
  have HRV : Hid (∀ W, Below w.heap.size w W → RowR W (.slice am m.length cm) m) := fun W h => HR.out.below h
  have HTV : Hid (∀ W, Below w.heap.size w W → RowV W (.slice at0 ts.length ct) (S ts)) := fun W h => HT.out.below h
  have HGV : Hid (∀ W, Below w.heap.size w W → GraphV W (.agg #[.slice an ls.length cn, .slice ao l.length co]) ls l) := fun W h => by
    obtain ⟨_, _, _, _, he, k1, k2, _, _⟩ := HPV.out W h
    injection he with he
    simp only [Array.mk.injEq, List.cons.injEq, and_true] at he
    obtain ⟨rfl, rfl, _, _⟩ := he
    exact ⟨_, _, rfl, k1, k2⟩
  have HZV : Hid (∀ W, Below w.heap.size w W → RowV W (.slice az cs'.length cz) (I cs')) := fun W h => HZ.out.below h
  obtain ⟨s, hs⟩ : ∃ s, someG ls l cs' = s := ⟨_, rfl⟩
  have HC := Lib.hid (implTouched_any ls l cs' _ _ wa (HGV.out wa HA.out) (HZV.out wa HA.out))
  rw [hs] at HC
  rcases s with _ | _
  · have hgc : goodC8 ls l bs rs m ts cs' = false := by unfold goodC8; rw [hs]; simp
    have HE1 : Hid (allR ls l bs rs m ts cs' = []) := by show _ = _; unfold allR; rw [hgc]; rfl
    have HE2 : Hid (allN ls l bs rs m ts cs' = 0) := by show _ = _; unfold allN; rw [hgc]; rfl
    rw [HE1.out, HE2.out, hgc]
    obtain ⟨c0, c1, c2, c3⟩ := P0.out.cells
    clear hs hx hxm0 hxt0 hgc HE1 HE2
    go_enter Tryz.func28, Tryz.ntmps28
    go_wp2_with fail
    rw [HWA.out]
    refine HC.out.mono ?_
    rintro e w1 ⟨v1, rfl, ho1, hb1⟩
    have HW1 := Lib.hid ((bth HA.out hb1 (Nat.le_refl _)).alloc (Nat.le_trans HA.out.size hb1.size) (.cells #[v1] 24))
    obtain ⟨q1, q2, rfl⟩ := own_slice ho1
    clear hb1 ho1 c0 c1 c2 c3 HC
    go_wp2_with fail
    go_ret3
    exact ⟨_, rfl, none_ownR _ _, HW1.out⟩
  have htl : (touchS ls cs').length ≤ 1000000 := by have := touchA_short ls l cs'; rw [touchA_yes hs] at this; exact this
  rw [show touchA ls l cs' = touchS ls cs' from touchA_yes hs] at HC
  have HOR : Hid (∀ x ∈ (allP ls l bs rs m ts cs').2, x ∈ l) := fun x h => by
    rcases pass_in _ _ _ _ x h with h1 | h1
    · simp at h1
    · exact h1
  have HPLEN : Hid ((allP ls l bs rs m ts cs').2.length ≤ l.length) := by
    show (allP ls l bs rs m ts cs').2.length ≤ l.length
    unfold allP
    exact Nat.le_trans (pass_made _ _ _ _) (by simp)
  obtain ⟨T, hT⟩ : ∃ T, touchS ls cs' = T := ⟨_, rfl⟩
  obtain ⟨g8, hg8⟩ : ∃ g8, goodA8 ls l bs rs m ts = g8 := ⟨_, rfl⟩
  have HSG := (some_yes hs).1
  have hrng : ∀ x ∈ l, 0 ≤ x ∧ x < (ls.length : Int) := fun x hx2 => by have := HSG.tasks x hx2; omega
  have hl10 : l.length ≤ 10 := by have := HSG.same; have := HSG.high; omega
  have HDUE : Hid (∀ W W0 (b : Nat) (ta : Option Addr) (tc : Nat), W0.cell? ⟨b, 0, none⟩ = some (.slice ta T.length tc) → b < W0.heap.size → RowV W0 (.slice ta T.length tc) (I T) → W = W0 → DueV W (.func (.func 85) #[] #[.pointer (some ⟨b, 0, none⟩)]) ls l bs rs ts m (fun _ k => hasL T (k : Int))) := fun W W0 b ta tc h1 h2 h3 h4 => by
    subst h4
    refine ⟨85, #[.pointer (some ⟨b, 0, none⟩)], rfl, enters_of Tryz.func85 (by kernel_rfl) rfl, fun W' hW v M y hrem _ _ _ => ?_⟩
    exact again1_any ls l bs rs m M ts T y b ta tc v W' hrem ((hW.cell (p := ⟨b, 0, none⟩) h2).trans h1) (Nat.lt_of_lt_of_le h2 hW.size) (h3.below hW)
  have HRN : Hid (∀ W z d, Below w.heap.size w W → RowV W z (I d) → (∀ x ∈ d, 0 ≤ x ∧ x < (bs.length : Int)) → d.length ≤ 1000 → Calls Tryz.prog 88 #[.agg #[.slice an ls.length cn, .slice ao l.length co, .slice as0 bs.length cs, .slice ar rs.length cr], z] W fun e w' => e = .returned (.int .i64 (runsL bs d : Int)) ∧ Below W.heap.size W w') := fun W z d h1 h2 h3 h4 => runsIn_any ls l bs rs d _ z W (HPV.out W h1) h2 h3 h4
  rcases g8 with _ | _
  · have hgc : goodC8 ls l bs rs m ts cs' = false := by unfold goodC8; rw [hg8]; rfl
    have HE1 : Hid (allR ls l bs rs m ts cs' = []) := by show _ = _; unfold allR; rw [hgc]; rfl
    have HE2 : Hid (allN ls l bs rs m ts cs' = 0) := by show _ = _; unfold allN; rw [hgc]; rfl
    rw [HE1.out, HE2.out, hgc]
    have HMW := Lib.hid (fun W fv (h : Below w.heap.size w W) => makeWhere_no ls l bs rs m ts an ao as0 ar at0 am cn co cs cr ct cm fv (fun _ _ => false) W (HPV.out W h) (HRV.out W h) (HTV.out W h) hx hxm0 hxt0 hg8)
    rw [hT] at HC
    obtain ⟨c0, c1, c2, c3⟩ := P0.out.cells
    clear hs hx hxm0 hxt0 hgc HE1 HE2 hg8 hT HOR HPLEN HSG hrng htl
    go_enter Tryz.func28, Tryz.ntmps28
    go_wp2_with fail
    rw [HWA.out]
    refine HC.out.mono ?_
    rintro e w1 ⟨v1, rfl, ho1, hb1⟩
    have HB1 := Lib.hid hb1
    have HT1 := Lib.hid (RowV.of_own ho1)
    obtain ⟨ta, tc, rfl⟩ := own_slice ho1
    obtain ⟨wb, hwb⟩ : ∃ wb, wb = w1.alloc (.cells #[.slice ta T.length tc] 24) := ⟨_, rfl⟩
    have hBB : Below w1.heap.size w1 wb := by rw [hwb]; exact (Below.refl _ w1).alloc (Nat.le_refl _) _
    have HWB : Hid (w1.alloc (.cells #[.slice ta T.length tc] 24) = wb) := by rw [hwb]; rfl
    have Q0 : Hid (Blk1 wb w1.heap.size 24 (.slice ta T.length tc)) := by rw [hwb]; exact Blk1.new
    have hsb : w1.heap.size < wb.heap.size := by rw [hwb]; simp
    have KB := Lib.hid (bth HB1.out hBB (Nat.le_refl _))
    have KW := Lib.hid (bth HA.out KB.out (Nat.le_refl _))
    have HTB := Lib.hid (HT1.out.below hBB)
    have hlt1 : w.heap.size < w1.heap.size := Nat.lt_of_lt_of_le hsz hb1.size
    have HM := Lib.hid (HMW.out wb (.func (.func 85) #[] #[.pointer (some ⟨w1.heap.size, 0, none⟩)]) KW.out)
    clear hb1 ho1 c0 c1 c2 c3 HC hwb hBB
    obtain ⟨c0, c1, c2, c3⟩ := (P0.out.below HB1.out hsz).cells
    go_wp2_with fail
    rw [HWB.out]
    refine HM.out.mono ?_
    rintro e w6 ⟨v6, u6, rfl, ho6, hd6, hb6⟩
    have HR6 := Lib.hid ho6
    have HB6 := Lib.hid (bth KB.out hb6 (Nat.le_refl _))
    have HW6 := Lib.hid (bth KW.out hb6 (Nat.le_refl _))
    have HR7 := Lib.hid (HRN.out w6 _ _ HW6.out (RowV.of_own hd6) (fun x h => by simp at h) (by simp))
    have hs6 : w.heap.size ≤ wb.heap.size := Nat.le_trans HA.out.size KB.out.size
    obtain ⟨q1, q2, rfl⟩ := own_sliceG ho6
    obtain ⟨q3, q4, rfl⟩ := own_slice hd6
    clear hb6 ho6 hd6 c0 c1 c2 c3 HM
    obtain ⟨c0, c1, c2, c3⟩ := (P0.out.below HB6.out hsz).cells
    go_wp2_with fail
    refine HR7.out.mono ?_
    rintro e w7 ⟨rfl, hb7⟩
    have HW7 := Lib.hid (bth HW6.out hb7 (Nat.le_refl _))
    have HR6 := Lib.hid (own_belowG HR6.out hb7)
    clear hb7 c0 c1 c2 c3
    go_wp2_with fail
    go_ret3
    exact ⟨_, rfl, own_baseG HR6.out hs6, HW7.out⟩
  have hgc : goodC8 ls l bs rs m ts cs' = true := by unfold goodC8; rw [hg8, hs]; rfl
  have hE1 : allR ls l bs rs m ts cs' = (allP ls l bs rs m ts cs').1 := by unfold allR; rw [hgc]; rfl
  have hE2 : allN ls l bs rs m ts cs' = (runsL bs (allP ls l bs rs m ts cs').2 : Int) := by unfold allN; rw [hgc]; rfl
  rw [hE1, hE2, hgc]
  have hbl := (plan_parts (good8_parts hg8).1).2.1
  have HMW := Lib.hid (fun W fv (h : Below w.heap.size w W) (hd : DueV W fv ls l bs rs ts m (fun _ k => hasL T (k : Int))) => makeWhere_yes ls l bs rs m ts an ao as0 ar at0 am cn co cs cr ct cm fv (fun _ k => hasL T (k : Int)) W (HPV.out W h) (HRV.out W h) (HTV.out W h) hx hxm0 hxt0 hg8 hd)
  have hAP : allP ls l bs rs m ts cs' = passM (oneM ls bs rs ts) (fun _ k => hasL T (k : Int)) l (m, []) := by unfold allP; rw [hT]
  have HDR : Hid (∀ x ∈ (allP ls l bs rs m ts cs').2, 0 ≤ x ∧ x < (bs.length : Int)) := fun x h => by have := hrng x (HOR.out x h); omega
  rw [← hAP] at HMW
  rw [hT] at HC
  obtain ⟨P, hP⟩ : ∃ P, allP ls l bs rs m ts cs' = P := ⟨_, rfl⟩
  rw [hP] at HMW HDR HPLEN ⊢
  obtain ⟨R, D⟩ := P
  simp only at HMW HDR HPLEN ⊢
  have HD10 : Hid (D.length ≤ 1000) := by have := HPLEN.out; show _ ≤ _; omega
  obtain ⟨c0, c1, c2, c3⟩ := P0.out.cells
  clear hs hx hxm0 hxt0 hgc hE1 hE2 hg8 hT HOR HPLEN HSG hrng htl hbl hAP hP
  go_enter Tryz.func28, Tryz.ntmps28
  go_wp2_with fail
  rw [HWA.out]
  refine HC.out.mono ?_
  rintro e w1 ⟨v1, rfl, ho1, hb1⟩
  have HB1 := Lib.hid hb1
  have HT1 := Lib.hid (RowV.of_own ho1)
  obtain ⟨ta, tc, rfl⟩ := own_slice ho1
  obtain ⟨wb, hwb⟩ : ∃ wb, wb = w1.alloc (.cells #[.slice ta T.length tc] 24) := ⟨_, rfl⟩
  have hBB : Below w1.heap.size w1 wb := by rw [hwb]; exact (Below.refl _ w1).alloc (Nat.le_refl _) _
  have HWB : Hid (w1.alloc (.cells #[.slice ta T.length tc] 24) = wb) := by rw [hwb]; rfl
  have Q0 : Hid (Blk1 wb w1.heap.size 24 (.slice ta T.length tc)) := by rw [hwb]; exact Blk1.new
  have hsb : w1.heap.size < wb.heap.size := by rw [hwb]; simp
  have KB := Lib.hid (bth HB1.out hBB (Nat.le_refl _))
  have KW := Lib.hid (bth HA.out KB.out (Nat.le_refl _))
  have HTB := Lib.hid (HT1.out.below hBB)
  have hlt1 : w.heap.size < w1.heap.size := Nat.lt_of_lt_of_le hsz hb1.size
  have HM := Lib.hid (HMW.out wb _ KW.out (HDUE.out wb wb w1.heap.size ta tc Q0.out.cell hsb HTB.out rfl))
  clear hb1 ho1 c0 c1 c2 c3 HC hwb hBB
  obtain ⟨c0, c1, c2, c3⟩ := (P0.out.below HB1.out hsz).cells
  go_wp2_with fail
  rw [HWB.out]
  refine HM.out.mono ?_
  rintro e w6 ⟨v6, u6, rfl, ho6, hd6, hb6⟩
  have HR6 := Lib.hid ho6
  have HB6 := Lib.hid (bth KB.out hb6 (Nat.le_refl _))
  have HW6 := Lib.hid (bth KW.out hb6 (Nat.le_refl _))
  have HR7 := Lib.hid (HRN.out w6 _ _ HW6.out (RowV.of_own hd6) HDR.out HD10.out)
  have hs6 : w.heap.size ≤ wb.heap.size := Nat.le_trans HA.out.size KB.out.size
  obtain ⟨q1, q2, rfl⟩ := own_sliceG ho6
  obtain ⟨q3, q4, rfl⟩ := own_slice hd6
  clear hb6 ho6 hd6 c0 c1 c2 c3 HM
  obtain ⟨c0, c1, c2, c3⟩ := (P0.out.below HB6.out hsz).cells
  go_wp2_with fail
  refine HR7.out.mono ?_
  rintro e w7 ⟨rfl, hb7⟩
  have HW7 := Lib.hid (bth HW6.out hb7 (Nat.le_refl _))
  have HR6 := Lib.hid (own_belowG HR6.out hb7)
  clear hb7 c0 c1 c2 c3
  go_wp2_with fail
  go_ret3
  exact ⟨_, rfl, own_baseG HR6.out hs6, HW7.out⟩

end Go.Proofs.YtngldlconipnnaaGreatDoor

/- Walks: the first that is stale is made, as long as some are, of the program. -/
namespace Go.Proofs.YtngldlconipnnaaGreatDoor
open Go.RowKit Pth

set_option maxRecDepth 20000 in
set_option maxHeartbeats 8000000 in
theorem implFixFirst_any (ls : List (List Int)) (l : List Int) (bs : List Bool) (rs : List (List OpT)) (m : List ResT) (ts : List (List UInt8)) (v u x : Value) (w : World) (hp : PlanV w v ls l bs rs) (hr : RowR w u m) (hts : RowV w x (S ts)) (hx : ∀ l ∈ rs, ∀ f ∈ l, f.2.2.length ≤ maxLen) (hxm0 : ∀ f ∈ m, f.1.length ≤ maxLen) (hxt0 : ∀ x ∈ ts, x.length ≤ maxLen) :
    Calls Tryz.prog 41 #[v, u, x] w (ResNOk (fixR ls l bs rs m ts) (fixN ls l bs rs m ts) (goodA8 ls l bs rs m ts) w) := by
  have HV := Lib.hid hp
  obtain ⟨nv, ov, sv, rv, rfl, h1, h2, h3, h4⟩ := hp
  obtain ⟨as0, cs, rfl, hs1, hs2, _⟩ := h3.boolsW
  obtain ⟨an, cn, rfl, hn1, hn2, _⟩ := h1.lists
  obtain ⟨ao, co, rfl, ho1, ho2, _⟩ := h2.ints
  obtain ⟨ar, cr, rfl, hr1, hr2, _⟩ := h4.lists
  clear h1 h2 h3 h4
  have HR := Lib.hid hr
  obtain ⟨am, cm, rfl, hm1, hm2, _⟩ := hr.res
  clear hr
  have HT := Lib.hid hts
  obtain ⟨at0, ct, rfl, ht1, ht2, _⟩ := hts.texts
  clear hts
  unfold maxLen at hs2 hn2 ho2 hr2 hm2 ht2
  obtain ⟨wa, hwa⟩ : ∃ wa, wa = w.alloc (.cells #[.slice an ls.length cn, .slice ao l.length co, .slice as0 bs.length cs, .slice ar rs.length cr] 30) := ⟨_, rfl⟩
  have hsz : w.heap.size < wa.heap.size := by rw [hwa]; simp
  have P0 : Hid (Blk4 wa w.heap.size 30 (.slice an ls.length cn) (.slice ao l.length co) (.slice as0 bs.length cs) (.slice ar rs.length cr)) := by rw [hwa]; exact Blk4.new
  have HA : Hid (Below w.heap.size w wa) := by rw [hwa]; exact (Below.refl w.heap.size w).alloc (Nat.le_refl _) _
  have HWA : Hid (w.alloc (.cells #[.slice an ls.length cn, .slice ao l.length co, .slice as0 bs.length cs, .slice ar rs.length cr] 30) = wa) := by rw [hwa]; rfl
  clear hwa
  have HPV : Hid (∀ W, Below w.heap.size w W → PlanV W (.agg #[.slice an ls.length cn, .slice ao l.length co, .slice as0 bs.length cs, .slice ar rs.length cr]) ls l bs rs) := fun W h => HV.out.below h
  have HRV : Hid (∀ W, Below w.heap.size w W → RowR W (.slice am m.length cm) m) := fun W h => HR.out.below h
  have HTV : Hid (∀ W, Below w.heap.size w W → RowV W (.slice at0 ts.length ct) (S ts)) := fun W h => HT.out.below h
  have HGV : Hid (∀ W, Below w.heap.size w W → GraphV W (.agg #[.slice an ls.length cn, .slice ao l.length co]) ls l) := fun W h => by
    obtain ⟨_, _, _, _, he, k1, k2, _, _⟩ := HPV.out W h
    injection he with he
    simp only [Array.mk.injEq, List.cons.injEq, and_true] at he
    obtain ⟨rfl, rfl, _, _⟩ := he
    exact ⟨_, _, rfl, k1, k2⟩
  obtain ⟨g8, hg8⟩ : ∃ g8, goodA8 ls l bs rs m ts = g8 := ⟨_, rfl⟩
  rcases g8 with _ | _
  · have HE1 : Hid (fixR ls l bs rs m ts = []) := by show _ = _; unfold fixR; rw [hg8]; rfl
    have HE2 : Hid (fixN ls l bs rs m ts = 0) := by show _ = _; unfold fixN; rw [hg8]; rfl
    rw [HE1.out, HE2.out, hg8]
    have HM := Lib.hid (makeWhere_no ls l bs rs m ts an ao as0 ar at0 am cn co cs cr ct cm (.func (.func 99) #[] #[]) (fun _ _ => false) wa (HPV.out wa HA.out) (HRV.out wa HA.out) (HTV.out wa HA.out) hx hxm0 hxt0 hg8)
    obtain ⟨c0, c1, c2, c3⟩ := P0.out.cells
    clear hx hxm0 hxt0 HE1 HE2 hg8
    go_enter Tryz.func41, Tryz.ntmps41
    go_wp2_with fail
    rw [HWA.out]
    refine HM.out.mono ?_
    rintro e w6 ⟨v6, u6, rfl, ho6, hd6, hb6⟩
    have HR6 := Lib.hid ho6
    have HB6 := Lib.hid hb6
    have HW6 := Lib.hid (bth HA.out hb6 (Nat.le_refl _))
    obtain ⟨q1, q2, rfl⟩ := own_sliceG ho6
    obtain ⟨q3, q4, rfl⟩ := own_slice hd6
    have HW7 := HW6
    clear hb6 ho6 hd6 c0 c1 c2 c3 HM
    go_wp2_with fail
    go_ret3
    exact ⟨_, rfl, own_baseG HR6.out HA.out.size, HW7.out⟩
  have hE1 : fixR ls l bs rs m ts = (fixP ls l bs rs m ts).1 := by unfold fixR; rw [hg8]; rfl
  have hE2 : fixN ls l bs rs m ts = ((fixP ls l bs rs m ts).2.length : Int) := by unfold fixN; rw [hg8]; rfl
  rw [hE1, hE2, hg8]
  obtain ⟨hpl, hmb, htb, hsm, hst, _, _⟩ := good8_parts hg8
  have hbl := (plan_parts hpl).2.1
  have hG := (plan_parts hpl).1
  have hDUE : DueV wa (.func (.func 99) #[] #[]) ls l bs rs ts m (staleP (oneM ls bs rs ts)) := ⟨99, #[], rfl, enters_of Tryz.func99 (by kernel_rfl) rfl, fun W hW v M y hrem hml hms hy => isStale_any ls l bs rs m M ts y v W hrem hpl hml htb hy hms hst⟩
  have HM := Lib.hid (makeWhere_yes ls l bs rs m ts an ao as0 ar at0 am cn co cs cr ct cm (.func (.func 99) #[] #[]) (staleP (oneM ls bs rs ts)) wa (HPV.out wa HA.out) (HRV.out wa HA.out) (HTV.out wa HA.out) hx hxm0 hxt0 hg8 hDUE)
  have hAP : fixP ls l bs rs m ts = passM (oneM ls bs rs ts) (staleP (oneM ls bs rs ts)) l (m, []) := rfl
  have HDR : Hid (∀ x ∈ (fixP ls l bs rs m ts).2, 0 ≤ x ∧ x < (bs.length : Int)) := fun x h => by
    rcases pass_in _ _ _ _ x h with h1 | h1
    · simp at h1
    · have := hG.tasks x h1; omega
  have HD10 : Hid ((fixP ls l bs rs m ts).2.length ≤ 1000) := by
    have h1 := hG.same
    have h2 := hG.high
    show (fixP ls l bs rs m ts).2.length ≤ 1000
    rw [hAP]
    refine Nat.le_trans (pass_made _ _ _ _) ?_
    simp only [List.length_nil]
    omega
  rw [← hAP] at HM
  obtain ⟨P, hP⟩ : ∃ P, fixP ls l bs rs m ts = P := ⟨_, rfl⟩
  rw [hP] at HM HDR HD10 ⊢
  obtain ⟨R, D⟩ := P
  simp only at HM HDR HD10 ⊢
  obtain ⟨c0, c1, c2, c3⟩ := P0.out.cells
  clear hx hxm0 hxt0 hE1 hE2 hg8 hpl hmb htb hsm hst hbl hG hDUE hAP hP
  go_enter Tryz.func41, Tryz.ntmps41
  go_wp2_with fail
  rw [HWA.out]
  refine HM.out.mono ?_
  rintro e w6 ⟨v6, u6, rfl, ho6, hd6, hb6⟩
  have HR6 := Lib.hid ho6
  have HB6 := Lib.hid hb6
  have HW6 := Lib.hid (bth HA.out hb6 (Nat.le_refl _))
  obtain ⟨q1, q2, rfl⟩ := own_sliceG ho6
  obtain ⟨q3, q4, rfl⟩ := own_slice hd6
  have HW7 := HW6
  clear hb6 ho6 hd6 c0 c1 c2 c3 HM
  go_wp2_with fail
  go_ret3
  exact ⟨_, rfl, own_baseG HR6.out HA.out.size, HW7.out⟩

end Go.Proofs.YtngldlconipnnaaGreatDoor
