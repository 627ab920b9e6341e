/- Texts of one claim, joined in their order. -/
import Derived.Test.YtpjmdljjmknpkaaM8

/- Walks: markedTest at a function value, touchedTest, TouchedBy of the program. -/
namespace Go.Proofs.Ytpjmdljjmknpkaa
open Go.RowKit Pth

theorem Blk1.beside {w w' : World} {b t : Nat} {x : Value} {r : Option Nat} (h : Blk1 w b t x) (hg : w.grownBy w' r) (hne : r ≠ some b) : Blk1 w' b t x := (hg.block b (lt_of_block h) (fun e => hne e.symm)).trans h
theorem TestS.congr {w : World} {fv : Value} {D : Int → Prop} {p q : Int → Bool} (h : TestS w fv D p) (he : ∀ x, D x → p x = q x) : TestS w fv D q := by
  obtain ⟨K, cap, h1, h2, h3⟩ := h
  exact ⟨K, cap, h1, h2, fun W hW x hx => by rw [← he x hx]; exact h3 W hW x hx⟩
theorem TestV.congr {w : World} {fv : Value} {D : Int → Prop} {p q : Int → Bool} (h : TestV w fv D p) (he : ∀ x, D x → p x = q x) : TestV w fv D q := by
  obtain ⟨K, cap, h1, h2, h3⟩ := h
  exact ⟨K, cap, h1, h2, fun W hW x hx => by rw [← he x hx]; exact h3 W hW x hx⟩

/-- A function that marks: what it makes of the marks, and that nothing else has turned. -/
def MarkC (K : FuncId) (F : List (List Int) → List Int → Nat → List Bool → List Bool) : Prop :=
  ∀ (ls : List (List Int)) (l : List Int) (t : Nat) (bs : List Bool) (nv ov : Value) (gm cm : Nat) (w0 w : World), GoodG ls l → GraphV w0 (.agg #[nv, ov]) ls l → Below w0.heap.size w0 w →
    w.ownsRow w0.heap.size 4 1 (.slice (some ⟨gm, 0, none⟩) bs.length cm) bs.length (Bo bs) → bs.length = ls.length → t < ls.length →
    Calls Try.prog K #[.agg #[nv, ov], ov, .int .i64 (t : Int), .slice (some ⟨gm, 0, none⟩) bs.length cm] w fun e w' => e = .returned (.tuple #[]) ∧ w'.ownsRow w0.heap.size 4 1 (.slice (some ⟨gm, 0, none⟩) bs.length cm) bs.length (Bo (F ls l t bs)) ∧ w.grownBy w' (some gm)
theorem users_mark : MarkC 118 usersF := by
  intro ls l t bs nv ov gm cm w0 w hG hst hb hown hbl ht
  refine (markUsersG_any ls l l t bs _ ov gm cm w0 w hst hst.parts.2 hb hown hbl hG.high ht (fun x hx => by have := hG.tasks x hx; omega) (good_in hG)).mono ?_
  rintro e w' ⟨he, _, ho, hg⟩
  exact ⟨he, ho, hg⟩

set_option maxRecDepth 20000 in
set_option maxHeartbeats 1000000 in
theorem marked1_any (bs : List Bool) (x : Int) (b : Nat) (u : Value) (w : World) (hrow : RowV w u (Bo bs)) (hb : Blk1 w b 81 u) (h0 : 0 ≤ x) (h1 : x < (bs.length : Int)) :
    Calls Try.prog 139 #[.int .i64 x, .pointer (some ⟨b, 0, none⟩)] w (BoolS (markB bs x) w) := by
  obtain ⟨n, rfl⟩ : ∃ n : Nat, x = n := ⟨x.toNat, by omega⟩
  have hn : n < bs.length := by omega
  have hc := hb.cell
  obtain ⟨a, cap, rfl, hc1, hc2, hat⟩ := hrow.bools
  obtain ⟨g, o, rfl, hg, hcell⟩ := hat n hn
  rw [← markB_get hn] at hcell
  unfold maxLen at hc2
  clear hrow hb hat
  generalize markB bs (n : Int) = y at *
  go_enter Try.func139, Try.ntmps139
  go_wp2_with fail
  go_ret
  exact ⟨rfl, rfl⟩

set_option maxRecDepth 20000 in
set_option maxHeartbeats 8000000 in
theorem markedTest_any (K : FuncId) (F : List (List Int) → List Int → Nat → List Bool → List Bool) (hF : MarkC K F) (hent : ∀ args w, (callFunc K args).run Try.prog w = .ok (.enter K args) w) (hlen : ∀ ls l t bs, (F ls l t bs).length = bs.length)
    (ls : List (List Int)) (l cs : List Int) (v u : Value) (w : World) (hst : GraphV w v ls l) (hrow : RowV w u (I cs)) (hG : GoodG ls l) (hc : ∀ x ∈ cs, 0 ≤ x ∧ x < (ls.length : Int)) :
    Calls Try.prog 123 #[v, u, .func (.func K) #[] #[]] w (TestSPost (· ∈ l) (markB (marksOf F ls l cs)) w) := by
  have HV := Lib.hid hst
  obtain ⟨nv, ov, rfl, h1, h2⟩ := hst
  obtain ⟨an, cn, rfl, hn1, hn2, hat⟩ := h1.lists
  obtain ⟨ao, co, rfl, ho1, ho2, hao⟩ := h2.ints
  clear h1 h2
  unfold maxLen at hn2 ho2
  have HAT := Lib.hid hat
  have HAO := Lib.hid hao
  clear hat hao
  obtain ⟨wa, hwa⟩ : ∃ wa, wa = w.alloc (.cells #[.slice an ls.length cn, .slice ao l.length co] 26) := ⟨_, rfl⟩
  have P0 : Hid (Blk2 wa w.heap.size 26 (.slice an ls.length cn) (.slice ao l.length co)) := by rw [hwa]; exact Blk2.new
  have HA : Hid (Below w.heap.size w wa) := by rw [hwa]; exact (Below.refl w.heap.size w).alloc (Nat.le_refl _) _
  have hsa : wa.heap.size = w.heap.size + 1 := by rw [hwa]; simp
  have HSA := Lib.hid hsa
  have hsz : w.heap.size < wa.heap.size := by omega
  have HWA := Lib.hid hwa
  obtain ⟨c0, c1⟩ := P0.out.cells
  have HU := Lib.hid hrow
  obtain ⟨ua, uc, rfl, hu1, hu2, hau⟩ := hrow.ints
  have HAU := Lib.hid hau
  clear hrow hau
  unfold maxLen at hu2
  have hmf : ∀ (fn : Fn) (first cap : Array Value) (w : World), (Instr.makeFunc fn first cap).run Try.prog w = .ok (.func fn first cap) w := fun _ _ _ _ => rfl
  have h10 := hG.high
  have HGG := Lib.hid hG
  have HC := Lib.hid hc
  have HML := Lib.hid (fun k => marksOf_len hlen ls l (cs.take k))
  have HF := Lib.hid hF
  have HSN := Lib.hid (fun k (hk : k < cs.length) => show marksOf F ls l (cs.take (k + 1)) = F ls l cs[k].toNat (marksOf F ls l (cs.take k)) by rw [List.take_succ_eq_append_getElem hk, marksOf_snoc])
  obtain ⟨csB, hcB, mB⟩ := make_alloc elemB rfl ls.length (by omega)
  have hH := (own_of_heap (w := wa.alloc (.cells csB 4)) (B := wa.heap.size) (heap_alloc_new wa _) (Nat.le_refl _) hcB (by simp) (show ls.length ≤ maxLen by unfold maxLen; omega))
  obtain ⟨w2, hw2⟩ : ∃ w2, w2 = wa.alloc (.cells csB 4) := ⟨_, rfl⟩
  obtain ⟨w3, hw3⟩ : ∃ w3, w3 = w2.alloc (.cells #[.slice (some ⟨w.heap.size + 1, 0, none⟩) ls.length ls.length] 81) := ⟨_, rfl⟩
  have hs2 : w2.heap.size = w.heap.size + 2 := by rw [hw2, World.size_alloc, hsa]
  have hs3 : w3.heap.size = w.heap.size + 3 := by rw [hw3, World.size_alloc, hs2]
  have hb2 : Below wa.heap.size wa w2 := by rw [hw2]; exact (Below.refl _ wa).alloc (Nat.le_refl _) _
  have hb3 : Below w2.heap.size w2 w3 := by rw [hw3]; exact (Below.refl _ w2).alloc (Nat.le_refl _) _
  rw [← hw2, hsa] at hH
  have HO0 : Hid (w3.ownsRow w.heap.size 4 1 (.slice (some ⟨w.heap.size + 1, 0, none⟩) ls.length ls.length) ls.length (Bo (List.replicate ls.length false))) := by
    rw [Bo_rep]
    exact own_base (own_below hH hb3) (by omega)
  have HX0 : Hid (Blk1 w3 (w.heap.size + 2) 81 (.slice (some ⟨w.heap.size + 1, 0, none⟩) ls.length ls.length)) := by rw [hw3, ← hs2]; exact Blk1.new
  have HP0 := Lib.hid ((P0.out.below hb2 hsz).below hb3 (by omega))
  have HB0 := Lib.hid (bth HA.out (bth hb2 hb3 (Nat.le_refl _)) (Nat.le_refl _))
  have HW3 : Hid (w3 = ((w.alloc (.cells #[.slice an ls.length cn, .slice ao l.length co] 26)).alloc (.cells csB 4)).alloc (.cells #[.slice (some ⟨w.heap.size + 1, 0, none⟩) ls.length ls.length] 81)) := by show _ = _; rw [hw3, hw2, hwa]
  rw [hwa] at c0
  clear hwa hsa hw2 hw3 hs2 hs3 hb2 hb3 hH hG hc hF hcB hlen c1 HSA
  go_enter Try.func123, Try.ntmps123
  go_wp2_with fail
  rw [← HW3.out]
  clear c0 mB
  go_loopw [16] (fun i wr => ∃ k : Nat, k ≤ cs.length ∧ i = .int .i64 (k : Int) ∧ Hid (wr.ownsRow w.heap.size 4 1 (.slice (some ⟨w.heap.size + 1, 0, none⟩) ls.length ls.length) ls.length (Bo (marksOf F ls l (cs.take k)))) ∧ Hid (Blk1 wr (w.heap.size + 2) 81 (.slice (some ⟨w.heap.size + 1, 0, none⟩) ls.length ls.length)) ∧ Hid (Blk2 wr w.heap.size 26 (.slice an ls.length cn) (.slice ao l.length co)) ∧ Hid (Below w.heap.size w wr)) (fun i _ => cs.length - (intOf i).toNat)
  case atStart => exact ⟨0, Nat.zero_le _, rfl, HO0, HX0, HP0, HB0⟩
  case round =>
    clear HO0 HX0 HP0 HB0
    obtain ⟨k, hk, rfl, HO, HX, HP, HB⟩ := hrel
    by_cases hlt : k < cs.length
    · obtain ⟨g, o, hgo, hg, hcell0⟩ := HAU.out k hlt
      subst hgo
      have hxr := HC.out cs[k] (List.getElem_mem hlt)
      obtain ⟨t, ht⟩ : ∃ t : Nat, cs[k] = t := ⟨cs[k].toNat, by omega⟩
      have htl : t < ls.length := by omega
      have hcell : wr.cell? ⟨g, o + k, none⟩ = some (.int .i64 (t : Int)) := by rw [HB.out.cell (p := ⟨g, o + k, none⟩) hg, hcell0, ht]
      obtain ⟨d0, d1⟩ := HP.out.cells
      have d2 := HX.out.cell
      have hml := HML.out k
      have HSK : Hid (marksOf F ls l (cs.take (k + 1)) = F ls l t (marksOf F ls l (cs.take k))) := by
        show _ = _
        rw [HSN.out k hlt, ht, show ((t : Int)).toNat = t by omega]
      generalize marksOf F ls l (cs.take k) = bk at *
      have hCC := HF.out ls l t bk (.slice an ls.length cn) (.slice ao l.length co) (w.heap.size + 1) ls.length w wr HGG.out HV.out HB.out (by rw [hml]; exact HO.out) hml htl
      rw [hml] at hCC
      have HCC := Lib.hid hCC
      clear hCC hcell0 hxr ht hml
      go_wp2_with fail
      refine HCC.out.mono ?_
      rintro e w8 ⟨rfl, ho8, hg8⟩
      have HO8 := Lib.hid ho8
      rw [← HSK.out] at HO8
      have HX8 := Lib.hid (HX.out.beside hg8 (by intro e; have := Option.some.inj e; omega))
      have HP8 := Lib.hid (HP.out.beside hg8 (by intro e; have := Option.some.inj e; omega))
      have HB8 := Lib.hid (HB.out.trans (only_below hg8 (by omega) HB.out.size))
      clear ho8 hg8 d0 d1 d2 hcell
      go_wp2_with fail
      go_roundw
      case rel => exact ⟨k + 1, by omega, by go_num, HO8, HX8, HP8, HB8⟩
      case measure => simp [intOf]; omega
    · have hml := HML.out k
      rw [List.take_of_length_le (by omega)] at HO hml
      have HM := Lib.hid hml
      have HGP := Lib.hid HGG.out.toP
      clear hml
      go_wp2_with fail
      go_ret
      refine ⟨_, rfl, ⟨139, #[.pointer (some ⟨w.heap.size + 2, 0, none⟩)], rfl, enters_of Try.func139 (by kernel_rfl) rfl, fun W hW x hx => ?_⟩, HB.out⟩
      have hxr := HGP.out.range x hx
      exact marked1_any (marksOf F ls l cs) x (w.heap.size + 2) _ W (RowV.of_own (own_below HO.out hW)) (HX.out.below hW (lt_of_block HX.out)) hxr.1 (by rw [HM.out]; exact hxr.2)

set_option maxRecDepth 20000 in
set_option maxHeartbeats 1000000 in
theorem touchedTest_any (ls : List (List Int)) (l cs : List Int) (v u : Value) (w : World) (hst : GraphV w v ls l) (hrow : RowV w u (I cs)) (hG : GoodG ls l) (hc : ∀ x ∈ cs, 0 ≤ x ∧ x < (ls.length : Int)) :
    Calls Try.prog 94 #[v, u] w (TestSPost (· ∈ l) (hasL (touchS ls cs)) w) := by
  have HV := Lib.hid hst
  obtain ⟨nv, ov, rfl, h1, h2⟩ := hst
  obtain ⟨an, cn, rfl, hn1, hn2, hat⟩ := h1.lists
  obtain ⟨ao, co, rfl, ho1, ho2, hao⟩ := h2.ints
  clear h1 h2
  unfold maxLen at hn2 ho2
  have HAT := Lib.hid hat
  have HAO := Lib.hid hao
  clear hat hao
  obtain ⟨wa, hwa⟩ : ∃ wa, wa = w.alloc (.cells #[.slice an ls.length cn, .slice ao l.length co] 26) := ⟨_, rfl⟩
  have P0 : Hid (Blk2 wa w.heap.size 26 (.slice an ls.length cn) (.slice ao l.length co)) := by rw [hwa]; exact Blk2.new
  have HA : Hid (Below w.heap.size w wa) := by rw [hwa]; exact (Below.refl w.heap.size w).alloc (Nat.le_refl _) _
  have hsa : wa.heap.size = w.heap.size + 1 := by rw [hwa]; simp
  have HSA := Lib.hid hsa
  have hsz : w.heap.size < wa.heap.size := by omega
  have HWA := Lib.hid hwa
  obtain ⟨c0, c1⟩ := P0.out.cells
  have HM := Lib.hid (markedTest_any 118 usersF users_mark (enters_of Try.func118 (by kernel_rfl) rfl) usersF_len ls l cs _ u wa (HV.out.below HA.out) (hrow.below HA.out) hG hc)
  have HTD := Lib.hid (users_told hG.toP hc)
  obtain ⟨ua, uc, rfl, hu1, hu2, _⟩ := hrow.ints
  clear hwa hsa hrow hG hc
  go_enter Try.func94, Try.ntmps94
  go_wp2_with fail
  rw [← HWA.out]
  refine HM.out.mono ?_
  rintro e w1 ⟨fv, rfl, ht, hb1⟩
  have HT := Lib.hid (ht.congr HTD.out)
  have HB1 := Lib.hid (bth HA.out hb1 (Nat.le_refl _))
  clear ht hb1 c0 c1
  go_wp2_with fail
  go_ret
  exact ⟨_, rfl, HT.out, HB1.out⟩

set_option maxRecDepth 20000 in
set_option maxHeartbeats 8000000 in
theorem implTouched_any (ls : List (List Int)) (l cs : List Int) (v ucs : Value) (w : World) (hst : GraphV w v ls l) (hcs : RowV w ucs (I cs)) :
    Calls Try.prog 39 #[v, ucs] w (ListOk (touchA ls l cs) (someG ls l cs) w) := by
  have HV := Lib.hid hst
  obtain ⟨nv, ov, rfl, h1, h2⟩ := hst
  obtain ⟨an, cn, rfl, hn1, hn2, hat⟩ := h1.lists
  obtain ⟨ao, co, rfl, ho1, ho2, hao⟩ := h2.ints
  clear h1 h2
  unfold maxLen at hn2 ho2
  have HAT := Lib.hid hat
  have HAO := Lib.hid hao
  clear hat hao
  obtain ⟨wa, hwa⟩ : ∃ wa, wa = w.alloc (.cells #[.slice an ls.length cn, .slice ao l.length co] 26) := ⟨_, rfl⟩
  have P0 : Hid (Blk2 wa w.heap.size 26 (.slice an ls.length cn) (.slice ao l.length co)) := by rw [hwa]; exact Blk2.new
  have HA : Hid (Below w.heap.size w wa) := by rw [hwa]; exact (Below.refl w.heap.size w).alloc (Nat.le_refl _) _
  have hsa : wa.heap.size = w.heap.size + 1 := by rw [hwa]; simp
  have HSA := Lib.hid hsa
  have hsz : w.heap.size < wa.heap.size := by omega
  have HWA := Lib.hid hwa
  obtain ⟨c0, c1⟩ := P0.out.cells
  have HUcs := Lib.hid hcs
  obtain ⟨xacs, xccs, rfl, hxlcs, hxmcs, _⟩ := hcs.ints
  clear hcs
  unfold maxLen at hxmcs
  have HGD := Lib.hid (fun W (h : Below wa.heap.size wa W) => implGood_any ls l _ W (HV.out.below (bth HA.out h (Nat.le_refl _))))
  have HTcs := Lib.hid (fun W (h : Below wa.heap.size wa W) => areTasks_any ls l cs _ _ W (HV.out.below (bth HA.out h (Nat.le_refl _))) (HUcs.out.below (bth HA.out h (Nat.le_refl _))))
  have HEQ : Hid ((goodG ls l && riseB 0 ((ls.length : Int) - 1) cs) = someG ls l cs) := some_eq _ _ _
  have HNo : Hid ((goodG ls l && riseB 0 ((ls.length : Int) - 1) cs) = false → touchA ls l cs = [] ∧ someG ls l cs = false) := fun h => by
    rw [HEQ.out] at h
    exact ⟨touchA_no h, h⟩
  have HYes : Hid ((goodG ls l && riseB 0 ((ls.length : Int) - 1) cs) = true → touchA ls l cs = touchA_v ls l cs ∧ someG ls l cs = true ∧ GoodG ls l ∧ (Rise cs ∧ ∀ x ∈ cs, 0 ≤ x ∧ x < (ls.length : Int))) := fun h => by
    rw [HEQ.out] at h
    exact ⟨touchA_yes h, h, some_yes h⟩
  clear HEQ
  generalize someG ls l cs = bb at *
  generalize touchA ls l cs = R at *
  generalize goodG ls l = b0 at *
  generalize riseB 0 ((ls.length : Int) - 1) cs = bcs at *
  clear hwa
  go_enter Try.func39, Try.ntmps39
  go_wp2_with fail
  rw [← HWA.out]
  refine (HGD.out wa (Below.refl _ _)).mono ?_
  rintro e w1 ⟨rfl, hb1⟩
  have K1 := Lib.hid hb1
  obtain ⟨p1, q1⟩ := (P0.out.below K1.out hsz).cells
  clear hb1 c0 c1
  cases b0 with
  | false =>
    have hR := HNo.out rfl
    obtain ⟨rfl, rfl⟩ := hR
    clear HNo HYes HGD HTcs
    go_wp2_with fail
    go_ret2
    exact ⟨_, rfl, none_ownZ _ _ _, bth HA.out K1.out (Nat.le_refl _)⟩
  | true =>
    go_wp2_with fail
    refine (HTcs.out w1 K1.out).mono ?_
    rintro e w2 ⟨rfl, hb2⟩
    have K2 := Lib.hid (bth K1.out hb2 (Nat.le_refl _))
    obtain ⟨p2, q2⟩ := (P0.out.below K2.out hsz).cells
    clear hb2 p1 q1
    cases bcs with
    | false =>
      have hR := HNo.out rfl
      obtain ⟨rfl, rfl⟩ := hR
      clear HNo HYes HGD HTcs
      go_wp2_with fail
      go_ret2
      exact ⟨_, rfl, none_ownZ _ _ _, bth HA.out K2.out (Nat.le_refl _)⟩
    | true =>
      obtain ⟨hR, rfl, hG, hccs⟩ := HYes.out rfl
      clear HNo HYes HGD HTcs
      have HKW := Lib.hid (bth HA.out K2.out (Nat.le_refl _))
      have PW := Lib.hid (P0.out.below K2.out hsz)
      have hszW := Nat.lt_of_lt_of_le hsz K2.out.size
      have HR : Hid (R = touchS ls cs) := hR
      have HGP := Lib.hid hG.toP
      have HPI : Hid ((upto ls.length).filter (hasL (touchS ls cs)) = touchS ls cs) := by
        show _ = _
        refine rise_ext (filter_rise (upto_rise _)) (touchS_rise _ _) (fun x => ?_)
        rw [List.mem_filter, mem_upto, hasL, decide_eq_true_iff]
        exact ⟨fun h => h.2, fun h => ⟨(mem_touchS.1 h).1, h⟩⟩
      have HTS := Lib.hid (fun W (h : Below w.heap.size w W) => touchedTest_any ls l cs _ _ W (HV.out.below h) (HUcs.out.below h) hG hccs.2)
      have PD : Hid (Blk2 w2.drew w.heap.size 26 (.slice an ls.length cn) (.slice ao l.length co)) := PW.out
      have ks := PD.out.cells
      have hszD : w.heap.size < w2.drew.heap.size := hszW
      have HKD : Hid (Below w.heap.size w w2.drew) := Below.drew HKW.out
      clear hR hG hccs p2 q2
      go_wp2_with fail
      go_region_held3 (fun w' => w'.cell? ⟨w.heap.size, 0, none⟩ = some (.slice an ls.length cn) ∧ w'.cell? ⟨w.heap.size, 1, none⟩ = some (.slice ao l.length co)) (first | exact ks)
        (first
          | (go_at_call 94; refine (HTS.out _ (by exact HKD.out)).mono ?_; rintro e w7 ⟨fv, rfl, ht7, hb7⟩
             have ks := (PD.out.below hb7 hszD).cells
             have HT7 := Lib.hid ht7.toV
             have K7 := Lib.hid (bth HKD.out hb7 (Nat.le_refl _))
             have C7 := Lib.hid hb7
             clear ht7 hb7)
          | (go_at_call 93; refine (rising_any ls l (hasL (touchS ls cs)) _ _ _ (HV.out.below K7.out) HT7.out HGP.out).mono ?_; rintro e w8 ⟨v8, rfl, ho8, hb8⟩
             have HO8 := Lib.hid ho8
             have K8 := Lib.hid (bth K7.out hb8 (Nat.le_refl _))
             have ks := (PD.out.below (bth C7.out hb8 (Nat.le_refl _)) hszD).cells
             clear ho8 hb8))
      all_goals
        rw [HPI.out, ← HR.out] at HO8
        go_wp2_with fail
        go_ret2
        exact ⟨_, rfl, own_base HO8.out K7.out.size, K8.out⟩
end Go.Proofs.Ytpjmdljjmknpkaa
