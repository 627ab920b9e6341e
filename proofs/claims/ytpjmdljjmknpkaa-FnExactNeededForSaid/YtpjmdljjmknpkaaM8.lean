/- Texts of one claim, joined in their order. -/
import Derived.Laws.EntriesVeiled
import Derived.Test.YtpjmdljjmknpkaaM7
import Derived.Test.YtpjmdljjmknpkaaM5

/- Walks: tests that leave the world as it was; ReadyWith of the program. -/
namespace Go.Proofs.Ytpjmdljjmknpkaa
open Go.RowKit Pth

theorem GraphV.parts {w : World} {a b : Value} {ls : List (List Int)} {l : List Int} (h : GraphV w (.agg #[a, b]) ls l) : RowN w a ls ∧ RowV w b (I l) := by
  obtain ⟨nv, ov, hv, h1, h2⟩ := h
  injection hv with hv
  simp only [Array.mk.injEq, List.cons.injEq, and_true] at hv
  obtain ⟨rfl, rfl⟩ := hv
  exact ⟨h1, h2⟩
/-- A yes-or-no, and the world is as it was. -/
def BoolS (b : Bool) (w : World) (e : Ending) (w' : World) : Prop := e = .returned (.bool b) ∧ w' = w
/-- A function value that tells of each number of D whether p holds, and only reads. -/
def TestS (w0 : World) (fv : Value) (D : Int → Prop) (p : Int → Bool) : Prop :=
  ∃ K cap, fv = .func (.func K) #[] cap ∧ (∀ args w, (callFunc K args).run Try.prog w = .ok (.enter K args) w) ∧ ∀ W, Below w0.heap.size w0 W → ∀ x, D x → Calls Try.prog K (#[.int .i64 x] ++ cap) W (BoolS (p x) W)
theorem TestS.below {w w' : World} {fv : Value} {D : Int → Prop} {p : Int → Bool} (h : TestS w fv D p) (hb : Below w.heap.size w w') : TestS w' fv D p := by
  obtain ⟨K, cap, h1, h2, h3⟩ := h
  exact ⟨K, cap, h1, h2, fun W hW x hx => h3 W (bth hb hW (Nat.le_refl _)) x hx⟩
theorem TestS.toV {w : World} {fv : Value} {D : Int → Prop} {p : Int → Bool} (h : TestS w fv D p) : TestV w fv D p := by
  obtain ⟨K, cap, h1, h2, h3⟩ := h
  exact ⟨K, cap, h1, h2, fun W hW x hx => (h3 W hW x hx).mono fun e w' ⟨he, hw⟩ => ⟨he, by rw [hw]; exact Below.refl _ _⟩⟩

/-- A place, or a number below 0 where there is none; the world is as it was. -/
def PlaceS (b : Bool) (w : World) (e : Ending) (w' : World) : Prop := ∃ i : Int, e = .returned (.int .i64 i) ∧ (0 ≤ i ↔ b = true) ∧ w' = w

set_option maxRecDepth 20000 in
set_option maxHeartbeats 2000000 in
theorem indexFuncS_any (l : List Int) (p : Int → Bool) (D : Int → Prop) (v fv : Value) (w : World) (hrow : RowV w v (I l)) (ht : TestS w fv D p) (hD : ∀ x ∈ l, D x) :
    Calls Try.prog 125 #[v, fv] w (PlaceS (l.any p) w) := by
  obtain ⟨a, cap0, rfl, hc1, hc2, hat⟩ := hrow.ints
  obtain ⟨K, cap, rfl, hent, ht⟩ := ht
  have HT := Lib.hid (fun x hx => ht w (Below.refl _ _) x hx)
  have HAT := Lib.hid hat
  have HD := Lib.hid hD
  clear hrow hat ht hD
  unfold maxLen at hc2
  go_enter Try.func125, Try.ntmps125
  go_wp2_with fail
  go_loop [8] (fun i => ∃ k : Nat, k ≤ l.length ∧ i = .int .i64 k ∧ Hid ((l.take k).any p = false)) (fun i => l.length - (intOf i).toNat)
  case atStart => exact ⟨0, Nat.zero_le _, by go_num, by simp [Hid]⟩
  case round =>
    obtain ⟨k, hk, rfl, HO⟩ := hrel
    by_cases hlt : k < l.length
    · obtain ⟨g, o, rfl, hg, hcell⟩ := HAT.out k hlt
      have hltz : (k : Int) < (l.length : Int) := by omega
      have HC := HT.out l[k] (HD.out _ (List.getElem_mem hlt))
      rcases hb : p l[k] with _ | _
      · have HS : Hid ((l.take (k + 1)).any p = false) := by
          show _ = _
          rw [List.take_succ_eq_append_getElem hlt, List.any_append, HO.out]
          simp [hb]
        rw [hb] at HC
        have HCC := Lib.hid HC
        clear HC hb HO
        generalize l[k] = x at *
        go_wp2_with fail
        refine HCC.out.mono ?_
        rintro e w1 ⟨rfl, rfl⟩
        go_wp2_with fail
        go_round
        case rel => exact ⟨k + 1, by omega, by go_num, HS⟩
        case measure => simp [intOf]; omega
      · have HS : Hid (l.any p = true) := by
          show _ = _
          rw [List.any_eq_true]
          exact ⟨l[k], List.getElem_mem hlt, hb⟩
        rw [hb] at HC
        have HCC := Lib.hid HC
        clear HC hb HO
        generalize l[k] = x at *
        go_wp2_with fail
        refine HCC.out.mono ?_
        rintro e w1 ⟨rfl, rfl⟩
        go_wp2_with fail
        go_ret
        exact ⟨(k : Int), rfl, by rw [HS.out]; simp, rfl⟩
    · have HS : Hid (l.any p = false) := by
        show _ = _
        have := HO.out
        rwa [List.take_of_length_le (by omega)] at this
      have hltz : ¬ ((k : Int) < (l.length : Int)) := by omega
      clear HO
      go_wp2_with fail
      go_ret
      exact ⟨-1, rfl, by rw [HS.out]; simp, rfl⟩

set_option maxRecDepth 20000 in
set_option maxHeartbeats 1000000 in
theorem containsFuncS_any (l : List Int) (p : Int → Bool) (D : Int → Prop) (v fv : Value) (w : World) (hrow : RowV w v (I l)) (ht : TestS w fv D p) (hD : ∀ x ∈ l, D x) :
    Calls Try.prog 98 #[v, fv] w (BoolS (l.any p) w) := by
  have HC := Lib.hid (indexFuncS_any l p D v fv w hrow ht hD)
  clear hrow ht hD
  go_enter Try.func98, Try.ntmps98
  go_wp2_with fail
  refine HC.out.mono ?_
  rintro e w1 ⟨i, rfl, hi, rfl⟩
  have HI := Lib.hid hi
  clear hi HC
  go_wp2_with fail
  go_ret
  refine ⟨?_, rfl⟩
  show Ending.returned (.bool (decide (0 ≤ i))) = _
  congr 2
  rw [Bool.eq_iff_iff, decide_eq_true_eq]
  exact HI.out

set_option maxRecDepth 20000 in
set_option maxHeartbeats 1000000 in
theorem among1S_any (cs : List Int) (x : Int) (b : Nat) (u : Value) (w : World) (hrow : RowV w u (I cs)) (hb : Blk1 w b 24 u) :
    Calls Try.prog 124 #[.int .i64 x, .pointer (some ⟨b, 0, none⟩)] w (BoolS (hasL cs x) w) := by
  have HC := Lib.hid (contains_any cs x u w hrow)
  have hc := hb.cell
  obtain ⟨a, cap, rfl, hc1, hc2, _⟩ := hrow.ints
  clear hrow hb
  go_enter Try.func124, Try.ntmps124
  go_wp2_with fail
  refine HC.out.mono ?_
  rintro e w1 ⟨rfl, rfl⟩
  go_wp2_with fail
  go_ret
  exact ⟨rfl, rfl⟩

/-- A function value is handed back that tells whether p, and only reads. -/
def TestSPost (D : Int → Prop) (p : Int → Bool) (w : World) (e : Ending) (w' : World) : Prop := ∃ fv, e = .returned fv ∧ TestS w' fv D p ∧ Below w.heap.size w w'

set_option maxRecDepth 20000 in
set_option maxHeartbeats 1000000 in
theorem amongS_any (cs : List Int) (u : Value) (w : World) (hrow : RowV w u (I cs)) :
    Calls Try.prog 97 #[u] w (TestSPost (fun _ => True) (hasL cs) w) := by
  have HR := Lib.hid hrow
  obtain ⟨a, cap, rfl, hc1, hc2, _⟩ := hrow.ints
  clear hrow
  have hmf : ∀ (fn : Fn) (first cap : Array Value) (w : World), (Instr.makeFunc fn first cap).run Try.prog w = .ok (.func fn first cap) w := fun _ _ _ _ => rfl
  have HB : Hid (Below w.heap.size w (w.alloc (.cells #[.slice a cs.length cap] 24))) := (Below.refl w.heap.size w).alloc (Nat.le_refl _) _
  go_enter Try.func97, Try.ntmps97
  go_wp2_with fail
  go_ret
  refine ⟨_, rfl, ⟨124, #[.pointer (some ⟨w.heap.size, 0, none⟩)], rfl, enters_of Try.func124 (by kernel_rfl) rfl, fun W hW x _ => ?_⟩, HB.out⟩
  exact among1S_any cs x w.heap.size _ W (HR.out.below (bth HB.out hW (Nat.le_refl _))) (Blk1.below Blk1.new hW (by simp))

set_option maxRecDepth 20000 in
set_option maxHeartbeats 1000000 in
theorem left1_any (p : Int → Bool) (x : Int) (b : Nat) (fv : Value) (w : World) (hb : Blk1 w b 90 fv) (ht : TestS w fv (fun _ => True) p) :
    Calls Try.prog 106 #[.int .i64 x, .pointer (some ⟨b, 0, none⟩)] w (BoolS (!p x) w) := by
  have hc := hb.cell
  obtain ⟨K, cap, rfl, hent, ht⟩ := ht
  have HC := Lib.hid (ht w (Below.refl _ _) x trivial)
  clear ht hb
  generalize p x = y at *
  go_enter Try.func106, Try.ntmps106
  go_wp2_with fail
  refine HC.out.mono ?_
  rintro e w1 ⟨rfl, rfl⟩
  go_wp2_with fail
  go_ret
  exact ⟨rfl, rfl⟩

set_option maxRecDepth 20000 in
set_option maxHeartbeats 4000000 in
theorem ready2_any (ls : List (List Int)) (cs : List Int) (k : Nat) (b7 bg : Nat) (fv nv ov : Value) (w : World) (hk : k < ls.length) (hb : Blk1 w b7 90 fv) (hg : Blk2 w bg 26 nv ov) (hn : RowN w nv ls) (ht : TestS w fv (fun _ => True) (fun x => !hasL cs x)) :
    Calls Try.prog 107 #[.int .i64 (k : Int), .pointer (some ⟨b7, 0, none⟩), .pointer (some ⟨bg, 0, none⟩)] w (BoolB (readyP ls cs k) w) := by
  have hc := hb.cell
  have hc0 := hg.cells.1
  obtain ⟨an, cn, rfl, hn1, hn2, hat⟩ := hn.lists
  obtain ⟨g, o, a2, c2, rfl, hg2, hcell, hrow⟩ := hat k hk
  unfold maxLen at hn2
  have hk2 : (k : Int) < (ls.length : Int) := by omega
  have HTT := Lib.hid ht
  have HCF := Lib.hid (fun n => containsFuncS_any ls[k] (fun x => !hasL cs x) (fun _ => True) _ _ (w.drewN n) (hrow.below (below_drewN (Below.refl _ w) n)) (ht.below (below_drewN (Below.refl _ w) n)) (fun _ _ => trivial))
  obtain ⟨K, cap, rfl, hent, ht⟩ := ht
  have HC : Hid (∀ n, Calls Try.prog K (#[.int .i64 (k : Int)] ++ cap) (w.drewN n) (BoolS (!hasL cs (k : Int)) (w.drewN n))) := fun n => ht (w.drewN n) (below_drewN (Below.refl _ w) n) (k : Int) trivial
  have HP : Hid (readyP ls cs (k : Int) = (!hasL cs (k : Int) && !ls[k].any (fun x => !hasL cs x))) := by
    show _ = _
    unfold readyP; rw [needsAt_get hk]
  clear ht hb hg hn hat hrow
  rcases hx : (!hasL cs (k : Int)) with _ | _
  · rw [hx] at HC HP
    have HP2 : Hid (readyP ls cs (k : Int) = false) := by show _ = _; rw [HP.out]; rfl
    clear hx HP HCF
    generalize ls[k].length = n1 at *
    go_enter Try.func107, Try.ntmps107
    go_wp2_with fail
    go_quiet (refine Calls.quiet_of_same (HC.out _))
    go_wp2_with fail
    go_ret
    exact ⟨ret_bool HP2.out.symm, below_drewN (Below.refl _ w) _⟩
  · rw [hx] at HC HP
    have HP2 : Hid (readyP ls cs (k : Int) = (!ls[k].any (fun x => !hasL cs x))) := by show _ = _; rw [HP.out]; rfl
    clear hx HP
    generalize ls[k].any (fun x => !hasL cs x) = y at *
    generalize ls[k].length = n1 at *
    go_enter Try.func107, Try.ntmps107
    go_wp2_with fail
    go_quiet (first | (go_at_call 98; refine Calls.quiet_of_same (HCF.out _)) | (refine Calls.quiet_of_same (HC.out _)))
    go_wp2_with fail
    go_ret
    exact ⟨ret_bool HP2.out.symm, below_drewN (Below.refl _ w) _⟩

set_option maxRecDepth 20000 in
set_option maxHeartbeats 8000000 in
theorem implReady_any (ls : List (List Int)) (l cs : List Int) (v ucs : Value) (w : World) (hst : GraphV w v ls l) (hcs : RowV w ucs (I cs)) :
    Calls Try.prog 55 #[v, ucs] w (ListOk (readyA ls l cs) (someG ls l cs) w) := by
  have HV := Lib.hid hst
  obtain ⟨nv, ov, rfl, h1, h2⟩ := hst
  obtain ⟨an, cn, rfl, hn1, hn2, hat⟩ := h1.lists
  obtain ⟨ao, co, rfl, ho1, ho2, hao⟩ := h2.ints
  clear h1 h2
  unfold maxLen at hn2 ho2
  have HAT := Lib.hid hat
  have HAO := Lib.hid hao
  clear hat hao
  obtain ⟨wa, hwa⟩ : ∃ wa, wa = w.alloc (.cells #[.slice an ls.length cn, .slice ao l.length co] 26) := ⟨_, rfl⟩
  have P0 : Hid (Blk2 wa w.heap.size 26 (.slice an ls.length cn) (.slice ao l.length co)) := by rw [hwa]; exact Blk2.new
  have HA : Hid (Below w.heap.size w wa) := by rw [hwa]; exact (Below.refl w.heap.size w).alloc (Nat.le_refl _) _
  have hsa : wa.heap.size = w.heap.size + 1 := by rw [hwa]; simp
  have HSA := Lib.hid hsa
  have hsz : w.heap.size < wa.heap.size := by omega
  have HWA := Lib.hid hwa
  obtain ⟨c0, c1⟩ := P0.out.cells
  have HUcs := Lib.hid hcs
  obtain ⟨xacs, xccs, rfl, hxlcs, hxmcs, _⟩ := hcs.ints
  clear hcs
  unfold maxLen at hxmcs
  have HGD := Lib.hid (fun W (h : Below wa.heap.size wa W) => implGood_any ls l _ W (HV.out.below (bth HA.out h (Nat.le_refl _))))
  have HTcs := Lib.hid (fun W (h : Below wa.heap.size wa W) => areTasks_any ls l cs _ _ W (HV.out.below (bth HA.out h (Nat.le_refl _))) (HUcs.out.below (bth HA.out h (Nat.le_refl _))))
  have HEQ : Hid ((goodG ls l && riseB 0 ((ls.length : Int) - 1) cs) = someG ls l cs) := some_eq _ _ _
  have HNo : Hid ((goodG ls l && riseB 0 ((ls.length : Int) - 1) cs) = false → readyA ls l cs = [] ∧ someG ls l cs = false) := fun h => by
    rw [HEQ.out] at h
    exact ⟨readyA_no h, h⟩
  have HYes : Hid ((goodG ls l && riseB 0 ((ls.length : Int) - 1) cs) = true → readyA ls l cs = readyA_v ls l cs ∧ someG ls l cs = true ∧ GoodG ls l ∧ (Rise cs ∧ ∀ x ∈ cs, 0 ≤ x ∧ x < (ls.length : Int))) := fun h => by
    rw [HEQ.out] at h
    exact ⟨readyA_yes h, h, some_yes h⟩
  clear HEQ
  generalize someG ls l cs = bb at *
  generalize readyA ls l cs = R at *
  generalize goodG ls l = b0 at *
  generalize riseB 0 ((ls.length : Int) - 1) cs = bcs at *
  clear hwa
  go_enter Try.func55, Try.ntmps55
  go_wp2_with fail
  rw [← HWA.out]
  refine (HGD.out wa (Below.refl _ _)).mono ?_
  rintro e w1 ⟨rfl, hb1⟩
  have K1 := Lib.hid hb1
  obtain ⟨p1, q1⟩ := (P0.out.below K1.out hsz).cells
  clear hb1 c0 c1
  cases b0 with
  | false =>
    have hR := HNo.out rfl
    obtain ⟨rfl, rfl⟩ := hR
    clear HNo HYes HGD HTcs
    go_wp2_with fail
    go_ret2
    exact ⟨_, rfl, none_ownZ _ _ _, bth HA.out K1.out (Nat.le_refl _)⟩
  | true =>
    go_wp2_with fail
    refine (HTcs.out w1 K1.out).mono ?_
    rintro e w2 ⟨rfl, hb2⟩
    have K2 := Lib.hid (bth K1.out hb2 (Nat.le_refl _))
    obtain ⟨p2, q2⟩ := (P0.out.below K2.out hsz).cells
    clear hb2 p1 q1
    cases bcs with
    | false =>
      have hR := HNo.out rfl
      obtain ⟨rfl, rfl⟩ := hR
      clear HNo HYes HGD HTcs
      go_wp2_with fail
      go_ret2
      exact ⟨_, rfl, none_ownZ _ _ _, bth HA.out K2.out (Nat.le_refl _)⟩
    | true =>
      obtain ⟨hR, rfl, hG, hccs⟩ := HYes.out rfl
      clear HNo HYes HGD HTcs
      have HKW := Lib.hid (bth HA.out K2.out (Nat.le_refl _))
      have PW := Lib.hid (P0.out.below K2.out hsz)
      have hszW := Nat.lt_of_lt_of_le hsz K2.out.size
      have HR : Hid (R = (upto ls.length).filter (readyP ls cs)) := hR
      have HAM := Lib.hid (amongS_any cs _ w2 (HUcs.out.below HKW.out))
      have HGP := Lib.hid hG.toP
      have hmf : ∀ (fn : Fn) (first cap : Array Value) (w : World), (Instr.makeFunc fn first cap).run Try.prog w = .ok (.func fn first cap) w := fun _ _ _ _ => rfl
      clear hR hG hccs
      go_wp2_with fail
      refine HAM.out.mono ?_
      rintro e wm ⟨fv, rfl, htv, hbm⟩
      have HTV := Lib.hid htv
      have HKM := Lib.hid (bth HKW.out hbm (Nat.le_refl _))
      obtain ⟨KF, capF, hfv', hent, htf⟩ := htv
      subst hfv'
      have PM := Lib.hid (PW.out.below hbm hszW)
      have hszM := Nat.lt_of_lt_of_le hszW hbm.size
      clear hbm htf p2 q2
      obtain ⟨wx, hwx⟩ : ∃ wx, wx = wm.alloc (.cells #[.func (.func KF) #[] capF] 90) := ⟨_, rfl⟩
      have BX : Hid (Blk1 wx wm.heap.size 90 (.func (.func KF) #[] capF)) := by rw [hwx]; exact Blk1.new
      have KX : Hid (Below wm.heap.size wm wx) := by rw [hwx]; exact (Below.refl _ wm).alloc (Nat.le_refl _) _
      have hsx : wx.heap.size = wm.heap.size + 1 := by rw [hwx]; simp
      obtain ⟨wy, hwy⟩ : ∃ wy, wy = wx.alloc (.cells #[.func (.func 106) #[] #[.pointer (some ⟨wm.heap.size, 0, none⟩)]] 90) := ⟨_, rfl⟩
      have BY : Hid (Blk1 wy (wm.heap.size + 1) 90 (.func (.func 106) #[] #[.pointer (some ⟨wm.heap.size, 0, none⟩)])) := by rw [hwy, ← hsx]; exact Blk1.new
      have KY : Hid (Below wx.heap.size wx wy) := by rw [hwy]; exact (Below.refl _ wx).alloc (Nat.le_refl _) _
      have hsy : wy.heap.size = wm.heap.size + 2 := by rw [hwy, World.size_alloc, hsx]
      have KMY := Lib.hid (bth KX.out KY.out (Nat.le_refl _))
      have HTL : Hid (TestS wy (.func (.func 106) #[] #[.pointer (some ⟨wm.heap.size, 0, none⟩)]) (fun _ => True) (fun x => !hasL cs x)) :=
        ⟨_, _, rfl, enters_of Try.func106 (by kernel_rfl) rfl, fun W hW x _ => left1_any (hasL cs) x wm.heap.size _ W ((BX.out.below KY.out (by omega)).below hW (by omega)) (HTV.out.below (bth KMY.out hW (Nat.le_refl _)))⟩
      have HVY := Lib.hid (HV.out.below (bth HKM.out KMY.out (Nat.le_refl _)))
      have PY := Lib.hid (PM.out.below KMY.out hszM)
      have HTR : Hid (TestV wy (.func (.func 107) #[] #[.pointer (some ⟨wm.heap.size + 1, 0, none⟩), .pointer (some ⟨w.heap.size, 0, none⟩)]) (· ∈ l) (readyP ls cs)) := by
        refine ⟨_, _, rfl, enters_of Try.func107 (by kernel_rfl) rfl, fun W hW x hx => ?_⟩
        have hxr := HGP.out.range x hx
        obtain ⟨xn, rfl⟩ : ∃ xn : Nat, x = xn := ⟨x.toNat, by omega⟩
        have hN := (HVY.out.below hW).parts.1
        exact ready2_any ls cs xn (wm.heap.size + 1) w.heap.size _ _ _ W (by omega) (BY.out.below hW (by omega)) (PY.out.below hW (by omega)) hN (HTL.out.below hW)
      have HRI := Lib.hid (rising_any ls l (readyP ls cs) _ _ wy HVY.out HTR.out HGP.out)
      have KWY := Lib.hid (bth HKM.out KMY.out (Nat.le_refl _))
      rw [← HR.out] at HRI
      have HWX : Hid (wy = (wm.alloc (.cells #[.func (.func KF) #[] capF] 90)).alloc (.cells #[.func (.func 106) #[] #[.pointer (some ⟨wm.heap.size, 0, none⟩)]] 90)) := by show _ = _; rw [hwy, hwx]
      have d0 := PY.out.cells.1
      have d1 := PY.out.cells.2
      rw [HWX.out] at d0 d1
      clear hwx hwy hsx hsy
      go_wp2_with fail
      rw [← HWX.out]
      refine HRI.out.mono ?_
      rintro e wz ⟨vz, rfl, hoz, hbz⟩
      have HOZ := Lib.hid (own_base hoz KWY.out.size)
      have HBZ := Lib.hid (bth KWY.out hbz (Nat.le_refl _))
      clear hoz hbz d0 d1
      go_wp2_with fail
      go_ret2
      exact ⟨_, rfl, HOZ.out, HBZ.out⟩
end Go.Proofs.Ytpjmdljjmknpkaa

/- Walks: the reference's l6Some, l6Touched, TouchedBy, IsClosed. -/
namespace Go.Proofs.Ytpjmdljjmknpkaa
open Go.RowKit Pth

theorem touch1_in {n : Nat} {k : Int} (hk : 0 ≤ k ∧ k < (n : Int)) (nd : List Int) : ∀ {out : List Int}, (∀ x ∈ out, 0 ≤ x ∧ x < (n : Int)) → ∀ x ∈ touch1 k out nd, 0 ≤ x ∧ x < (n : Int) := by
  induction nd with
  | nil => intro out h; exact h
  | cons a b ih =>
    intro o ho
    refine ih (fun x hx0 => ?_)
    have hx : x ∈ (if hasL o a then putL o k else o) := hx0
    split at hx
    · rcases mem_put.1 hx with rfl | hx
      · exact hk
      · exact ho x hx
    · exact ho x hx
theorem short_in {l : List Int} {n : Nat} (hr : Rise l) (h : ∀ x ∈ l, 0 ≤ x ∧ x < (n : Int)) : l.length ≤ n := by
  have := rise_len (lo := 0) (hi := (n : Int) - 1) hr (fun x hx => by have := h x hx; omega) (by omega)
  omega

set_option maxRecDepth 20000 in
set_option maxHeartbeats 2000000 in
theorem l6Some_any (ls : List (List Int)) (l cs : List Int) (v u : Value) (w : World) (hst : GraphV w v ls l) (hrow : RowV w u (I cs)) :
    Calls Try.prog 95 #[v, u] w (BoolB (someG ls l cs) w) := by
  have HV := Lib.hid hst
  obtain ⟨nv, ov, rfl, h1, h2⟩ := hst
  obtain ⟨an, cn, rfl, hn1, hn2, hat⟩ := h1.lists
  obtain ⟨ao, co, rfl, ho1, ho2, hao⟩ := h2.ints
  clear h1 h2
  unfold maxLen at hn2 ho2
  have HAT := Lib.hid hat
  have HAO := Lib.hid hao
  clear hat hao
  obtain ⟨wa, hwa⟩ : ∃ wa, wa = w.alloc (.cells #[.slice an ls.length cn, .slice ao l.length co] 26) := ⟨_, rfl⟩
  have P0 : Hid (Blk2 wa w.heap.size 26 (.slice an ls.length cn) (.slice ao l.length co)) := by rw [hwa]; exact Blk2.new
  have HA : Hid (Below w.heap.size w wa) := by rw [hwa]; exact (Below.refl w.heap.size w).alloc (Nat.le_refl _) _
  have hsa : wa.heap.size = w.heap.size + 1 := by rw [hwa]; simp
  have HSA := Lib.hid hsa
  have hsz : w.heap.size < wa.heap.size := by omega
  have HWA := Lib.hid hwa
  obtain ⟨c0, c1⟩ := P0.out.cells
  have HU := Lib.hid hrow
  obtain ⟨ua, uc, rfl, hu1, hu2, _⟩ := hrow.ints
  clear hrow
  unfold maxLen at hu2
  have HC := specGood_any ls l _ wa (HV.out.below HA.out)
  have HE := Lib.hid (some_eq ls l cs)
  clear hwa
  rcases hG : goodG ls l with _ | _
  · rw [hG] at HC HE
    have HE2 : Hid (someG ls l cs = false) := HE.out.symm
    have HCC := Lib.hid HC
    clear HC hG HE
    go_enter Try.func95, Try.ntmps95
    go_wp2_with fail
    rw [← HWA.out]
    refine HCC.out.mono ?_
    rintro e w1 ⟨rfl, hb1⟩
    have HB1 := Lib.hid (bth HA.out hb1 (Nat.le_refl _))
    clear hb1 c0 c1
    go_wp2_with fail
    go_ret
    exact ⟨ret_bool HE2.out.symm, HB1.out⟩
  · rw [hG] at HC HE
    have HE2 : Hid (someG ls l cs = riseB 0 ((ls.length : Int) - 1) cs) := HE.out.symm
    have HCC := Lib.hid HC
    have hlow := (goodG_iff.1 hG).low
    have hhi := (goodG_iff.1 hG).high
    clear HC hG HE
    have HR := Lib.hid (fun W (h : Below w.heap.size w W) => l1Rising_any cs 0 ((ls.length : Int) - 1) _ W (HU.out.below h))
    generalize riseB 0 ((ls.length : Int) - 1) cs = b at *
    go_enter Try.func95, Try.ntmps95
    go_wp2_with fail
    rw [← HWA.out]
    refine HCC.out.mono ?_
    rintro e w1 ⟨rfl, hb1⟩
    have HB1 := Lib.hid (bth HA.out hb1 (Nat.le_refl _))
    have d0 := (P0.out.below hb1 hsz).cells.1
    have HR1 := Lib.hid (HR.out w1 HB1.out)
    clear hb1 c0 c1
    go_wp2_with fail
    refine HR1.out.mono ?_
    rintro e w2 ⟨rfl, rfl⟩
    go_wp2_with fail
    go_ret
    exact ⟨ret_bool HE2.out.symm, HB1.out⟩

set_option maxRecDepth 20000 in
set_option maxHeartbeats 8000000 in
theorem l6Touched_any (ls : List (List Int)) (l cs : List Int) (v u : Value) (w : World) (hst : GraphV w v ls l) (hrow : RowV w u (I cs)) (hG : GoodG ls l) (hr : Rise cs) (hc : ∀ x ∈ cs, 0 ≤ x ∧ x < (ls.length : Int)) :
    Calls Try.prog 96 #[v, u] w (IntsPost w.heap.size (touchS ls cs) w) := by
  have HIS := Lib.hid (touchL_is hG.toP hr hc)
  have HV := Lib.hid hst
  obtain ⟨nv, ov, rfl, h1, h2⟩ := hst
  obtain ⟨an, cn, rfl, hn1, hn2, hat⟩ := h1.lists
  obtain ⟨ao, co, rfl, ho1, ho2, hao⟩ := h2.ints
  clear h1 h2
  unfold maxLen at hn2 ho2
  have HAT := Lib.hid hat
  have HAO := Lib.hid hao
  clear hat hao
  obtain ⟨wa, hwa⟩ : ∃ wa, wa = w.alloc (.cells #[.slice an ls.length cn, .slice ao l.length co] 26) := ⟨_, rfl⟩
  have P0 : Hid (Blk2 wa w.heap.size 26 (.slice an ls.length cn) (.slice ao l.length co)) := by rw [hwa]; exact Blk2.new
  have HA : Hid (Below w.heap.size w wa) := by rw [hwa]; exact (Below.refl w.heap.size w).alloc (Nat.le_refl _) _
  have hsa : wa.heap.size = w.heap.size + 1 := by rw [hwa]; simp
  have HSA := Lib.hid hsa
  have hsz : w.heap.size < wa.heap.size := by omega
  have HWA := Lib.hid hwa
  have HU := Lib.hid hrow
  obtain ⟨ua, uc, rfl, hu1, hu2, _⟩ := hrow.ints
  clear hrow
  unfold maxLen at hu2
  have h10 := hG.high
  have hlow := hG.low
  have hsm := hG.same
  have HIN := Lib.hid (good_in hG)
  have HGG := Lib.hid hG
  have HSL := Lib.hid hsm
  have hl10 : l.length ≤ 10 := by omega
  have hcl : cs.length ≤ 10 := by have := short_in hr hc; omega
  have HCR := Lib.hid hr
  have HCI := Lib.hid hc
  clear hG hsm hr hc
  obtain ⟨qa, qc, w1, run1, o1, b1⟩ := lit_row cs ua uc wa _ rfl (HU.out.below HA.out) (by omega) 24
  have HRUN := Lib.hid run1
  have HO1 := Lib.hid o1
  have HB1 := Lib.hid b1
  have d0 := (P0.out.below b1 hsz).cells.1
  have d1 := (P0.out.below b1 hsz).cells.2
  clear o1 b1 run1 hwa hsa
  go_enter Try.func96, Try.ntmps96
  go_upto_region 1 with (fail)
  rw [← HWA.out]
  go_wp2_with (at_builtin; refine wpList_runApp rfl _ _ rfl rfl rfl HRUN.out ?_)
  clear d0 d1
  go_loopw [5, 16] (fun q i wr => ∃ k : Nat, k ≤ l.length ∧ i = .int .i64 (k : Int) ∧ Hid (wr.ownsRow wa.heap.size 3 1 q (touchL ls cs (l.take k)).length (I (touchL ls cs (l.take k)))) ∧ Hid (Below wa.heap.size wa wr)) (fun _ i _ => l.length - (intOf i).toNat)
  case atStart => exact ⟨0, Nat.zero_le _, rfl, HO1, HB1⟩
  case round =>
    clear HO1 HB1
    obtain ⟨k, hk, rfl, HO, HB⟩ := hrel
    by_cases hlt : k < l.length
    · obtain ⟨g, o, hgo, hg, hcell0⟩ := HAO.out k hlt
      subst hgo
      obtain ⟨un, hun⟩ : ∃ un : Nat, l[k] = un := ⟨l[k].toNat, by have := HGG.out.tasks l[k] (List.getElem_mem hlt); omega⟩
      have hul : un < ls.length := by have := HGG.out.tasks l[k] (List.getElem_mem hlt); omega
      have hul2 : (un : Int) < (ls.length : Int) := by omega
      have hcell : wr.cell? ⟨g, o + k, none⟩ = some (.int .i64 (un : Int)) := by rw [(bth HA.out HB.out (Nat.le_refl _)).cell (p := ⟨g, o + k, none⟩) hg, hcell0, hun]
      obtain ⟨d0, d1⟩ := (P0.out.below HB.out hsz).cells
      obtain ⟨g1, o1, a2, c2, hgn, hg1, hcell1, hrow⟩ := HAT.out un hul
      subst hgn
      have hcn : wr.cell? ⟨g1, o1 + un, none⟩ = some (.slice a2 ls[un].length c2) := ((bth HA.out HB.out (Nat.le_refl _)).cell (p := ⟨g1, o1 + un, none⟩) hg1).trans hcell1
      have HRW : Hid (∀ W, Below w.heap.size w W → RowV W (.slice a2 ls[un].length c2) (I ls[un])) := fun W h => hrow.below h
      have hnl : ls[un].length ≤ c2 ∧ c2 ≤ 2 ^ 63 - 1 := by
        obtain ⟨_, _, h, h', h4, _⟩ := hrow.ints
        unfold maxLen at h4
        injection h with _ _ h3; omega
      obtain ⟨hnl, hc2⟩ := hnl
      have HBK : Hid (touchL ls cs (l.take (k + 1)) = touch1 (un : Int) (touchL ls cs (l.take k)) ls[un]) := by
        show _ = _
        rw [List.take_succ_eq_append_getElem hlt, touchL_snoc, hun, needsAt_get hul]
      have HBR : Hid (Rise (touchL ls cs (l.take k)) ∧ ∀ x ∈ touchL ls cs (l.take k), 0 ≤ x ∧ x < (ls.length : Int)) := ⟨touchL_rise _ _ HCR.out, touchL_in ls.length (fun x hx => by have := HGG.out.tasks x (List.mem_of_mem_take hx); omega) HCI.out⟩
      generalize touchL ls cs (l.take k) = bk at *
      obtain ⟨ra, rc, hq⟩ := own_slice HO.out
      subst hq
      clear hcell0 hcell1 hrow hun
      go_wp2_with fail
      clear hcell hcn d0 d1
      go_loopw [5, 26] (fun q i wz => ∃ m : Nat, m ≤ ls[un].length ∧ i = .int .i64 (m : Int) ∧ Hid (wz.ownsRow wa.heap.size 3 1 q (touch1 (un : Int) bk (ls[un].take m)).length (I (touch1 (un : Int) bk (ls[un].take m)))) ∧ Hid (Below wa.heap.size wa wz)) (fun _ i _ => ls[un].length - (intOf i).toNat)
      case atStart => exact ⟨0, Nat.zero_le _, rfl, HO, HB⟩
      case round =>
        clear HO HB
        obtain ⟨m, hm, rfl, HO, HB⟩ := hrel
        by_cases hlt2 : m < ls[un].length
        · obtain ⟨ra, rc, hq⟩ := own_slice HO.out
          subst hq
          obtain ⟨gr, or, hra, hcr⟩ : ∃ gr or, a2 = some ⟨gr, or, none⟩ ∧ wr.cell? ⟨gr, or + m, none⟩ = some (.int .i64 ls[un][m]) := by
            obtain ⟨aa, cc, h, _, _, hc⟩ := (HRW.out wr (bth HA.out HB.out (Nat.le_refl _))).ints
            injection h with h1 _ _
            obtain ⟨gr, or, h2, _, h3⟩ := hc m hlt2
            exact ⟨gr, or, by rw [h1, h2], h3⟩
          subst hra
          have hlo : (touch1 (un : Int) bk (ls[un].take m)).length ≤ 10 := by
            have := short_in (touch1_rise (k := (un : Int)) (ls[un].take m) HBR.out.1) (touch1_in (n := ls.length) ⟨by omega, hul2⟩ _ HBR.out.2)
            omega
          have HE : Hid (touch1 (un : Int) bk (ls[un].take (m + 1)) = if hasL (touch1 (un : Int) bk (ls[un].take m)) ls[un][m] then putL (touch1 (un : Int) bk (ls[un].take m)) un else touch1 (un : Int) bk (ls[un].take m)) := by
            show _ = _
            rw [List.take_succ_eq_append_getElem hlt2, touch1_snoc]
          generalize touch1 (un : Int) bk (ls[un].take m) = bo at *
          generalize ls[un][m] = xm at *
          have HH := l1Has_any bo xm _ wr (RowV.of_own HO.out)
          rcases hh : hasL bo xm with _ | _
          · rw [hh] at HE HH
            have HE2 : Hid (touch1 (un : Int) bk (ls[un].take (m + 1)) = bo) := HE.out
            have HC := Lib.hid HH
            clear HH hh HE
            go_wp2_with fail
            refine HC.out.mono ?_
            rintro e w8 ⟨rfl, rfl⟩
            go_wp2_with fail
            go_roundw
            case rel => exact ⟨m + 1, by omega, by go_num, by rw [HE2.out]; exact HO, HB⟩
            case measure => simp [intOf]; omega
          · rw [hh] at HE HH
            have HE2 : Hid (touch1 (un : Int) bk (ls[un].take (m + 1)) = putL bo un) := HE.out
            have HC := Lib.hid HH
            have HP := Lib.hid (l1Put_any bo un wa.heap.size _ wr HO.out HB.out.size (by omega))
            clear HH hh HE
            go_wp2_with fail
            refine HC.out.mono ?_
            rintro e w8 ⟨rfl, rfl⟩
            go_wp2_with fail
            refine HP.out.mono ?_
            rintro e w9 ⟨v9, rfl, ho9, hb9⟩
            have HO9 := Lib.hid ho9
            have HB9 := Lib.hid (bth HB.out hb9 (Nat.le_refl _))
            clear ho9 hb9
            go_wp2_with fail
            go_roundw
            case rel => exact ⟨m + 1, by omega, by go_num, by rw [HE2.out]; exact HO9, HB9⟩
            case measure => simp [intOf]; omega
        · rw [List.take_of_length_le (by omega), ← HBK.out] at HO
          obtain ⟨ra, rc, hq⟩ := own_slice HO.out
          subst hq
          go_wp2_with fail
          go_roundw
          case rel => exact ⟨k + 1, by omega, by go_num, HO, HB⟩
          case measure => simp [intOf]; omega
    · rw [List.take_of_length_le (by omega), HIS.out] at HO
      obtain ⟨ra, rc, hq⟩ := own_slice HO.out
      subst hq
      go_wp2_with fail
      go_ret
      exact ⟨_, rfl, own_base HO.out (by omega), bth HA.out HB.out (Nat.le_refl _)⟩

set_option maxRecDepth 20000 in
set_option maxHeartbeats 8000000 in
theorem specTouched_any (ls : List (List Int)) (l cs : List Int) (v ucs : Value) (w : World) (hst : GraphV w v ls l) (hcs : RowV w ucs (I cs)) :
    Calls Try.prog 40 #[v, ucs] w (ListOk (touchA ls l cs) (someG ls l cs) w) := by
  have HV := Lib.hid hst
  obtain ⟨nv, ov, rfl, h1, h2⟩ := hst
  obtain ⟨an, cn, rfl, hn1, hn2, hat⟩ := h1.lists
  obtain ⟨ao, co, rfl, ho1, ho2, hao⟩ := h2.ints
  clear h1 h2
  unfold maxLen at hn2 ho2
  have HAT := Lib.hid hat
  have HAO := Lib.hid hao
  clear hat hao
  obtain ⟨wa, hwa⟩ : ∃ wa, wa = w.alloc (.cells #[.slice an ls.length cn, .slice ao l.length co] 26) := ⟨_, rfl⟩
  have P0 : Hid (Blk2 wa w.heap.size 26 (.slice an ls.length cn) (.slice ao l.length co)) := by rw [hwa]; exact Blk2.new
  have HA : Hid (Below w.heap.size w wa) := by rw [hwa]; exact (Below.refl w.heap.size w).alloc (Nat.le_refl _) _
  have hsa : wa.heap.size = w.heap.size + 1 := by rw [hwa]; simp
  have HSA := Lib.hid hsa
  have hsz : w.heap.size < wa.heap.size := by omega
  have HWA := Lib.hid hwa
  obtain ⟨c0, c1⟩ := P0.out.cells
  have HUcs := Lib.hid hcs
  obtain ⟨xacs, xccs, rfl, hxlcs, hxmcs, _⟩ := hcs.ints
  clear hcs
  unfold maxLen at hxmcs
  have HTcs := Lib.hid (fun W (h : Below wa.heap.size wa W) => l6Some_any ls l cs _ _ W (HV.out.below (bth HA.out h (Nat.le_refl _))) (HUcs.out.below (bth HA.out h (Nat.le_refl _))))
  have HNo : Hid ((someG ls l cs) = false → touchA ls l cs = []) := fun h => touchA_no h
  have HYes : Hid ((someG ls l cs) = true → touchA ls l cs = touchA_v ls l cs ∧ GoodG ls l ∧ (Rise cs ∧ ∀ x ∈ cs, 0 ≤ x ∧ x < (ls.length : Int))) := fun h => ⟨touchA_yes h, some_yes h⟩
  generalize touchA ls l cs = R at *
  generalize someG ls l cs = bcs at *
  clear hwa
  go_enter Try.func40, Try.ntmps40
  go_wp2_with fail
  rw [← HWA.out]
  refine (HTcs.out wa (Below.refl _ _)).mono ?_
  rintro e w1 ⟨rfl, hb1⟩
  have K1 := Lib.hid hb1
  obtain ⟨p1, q1⟩ := (P0.out.below K1.out hsz).cells
  clear hb1 c0 c1
  cases bcs with
  | false =>
    have hR := HNo.out rfl
    subst hR
    clear HNo HYes HTcs
    go_wp2_with fail
    go_ret2
    exact ⟨_, rfl, none_ownZ _ _ _, bth HA.out K1.out (Nat.le_refl _)⟩
  | true =>
    obtain ⟨hR, hG, hccs⟩ := HYes.out rfl
    clear HNo HYes HTcs
    have HKW := Lib.hid (bth HA.out K1.out (Nat.le_refl _))
    have PW := Lib.hid (P0.out.below K1.out hsz)
    have hszW := Nat.lt_of_lt_of_le hsz K1.out.size
    have HR : Hid (R = touchS ls cs) := hR
    have HC := Lib.hid (l6Touched_any ls l cs _ _ w1 (HV.out.below HKW.out) (HUcs.out.below HKW.out) hG hccs.1 hccs.2)
    rw [← HR.out] at HC
    clear hR hG hccs
    go_wp2_with fail
    refine HC.out.mono ?_
    rintro e wz ⟨vz, rfl, hoz, hbz⟩
    have HOZ := Lib.hid (own_base hoz HKW.out.size)
    have HBZ := Lib.hid (bth HKW.out hbz (Nat.le_refl _))
    clear hoz hbz p1 q1
    go_wp2_with fail
    go_ret2
    exact ⟨_, rfl, HOZ.out, HBZ.out⟩

set_option maxRecDepth 20000 in
set_option maxHeartbeats 8000000 in
theorem specClosed_any (ls : List (List Int)) (l cs : List Int) (v ucs : Value) (w : World) (hst : GraphV w v ls l) (hcs : RowV w ucs (I cs)) :
    Calls Try.prog 47 #[v, ucs] w (PairOk (shutA ls l cs) (someG ls l cs) w) := by
  have HV := Lib.hid hst
  obtain ⟨nv, ov, rfl, h1, h2⟩ := hst
  obtain ⟨an, cn, rfl, hn1, hn2, hat⟩ := h1.lists
  obtain ⟨ao, co, rfl, ho1, ho2, hao⟩ := h2.ints
  clear h1 h2
  unfold maxLen at hn2 ho2
  have HAT := Lib.hid hat
  have HAO := Lib.hid hao
  clear hat hao
  obtain ⟨wa, hwa⟩ : ∃ wa, wa = w.alloc (.cells #[.slice an ls.length cn, .slice ao l.length co] 26) := ⟨_, rfl⟩
  have P0 : Hid (Blk2 wa w.heap.size 26 (.slice an ls.length cn) (.slice ao l.length co)) := by rw [hwa]; exact Blk2.new
  have HA : Hid (Below w.heap.size w wa) := by rw [hwa]; exact (Below.refl w.heap.size w).alloc (Nat.le_refl _) _
  have hsa : wa.heap.size = w.heap.size + 1 := by rw [hwa]; simp
  have HSA := Lib.hid hsa
  have hsz : w.heap.size < wa.heap.size := by omega
  have HWA := Lib.hid hwa
  obtain ⟨c0, c1⟩ := P0.out.cells
  have HUcs := Lib.hid hcs
  obtain ⟨xacs, xccs, rfl, hxlcs, hxmcs, _⟩ := hcs.ints
  clear hcs
  unfold maxLen at hxmcs
  have HTcs := Lib.hid (fun W (h : Below wa.heap.size wa W) => l6Some_any ls l cs _ _ W (HV.out.below (bth HA.out h (Nat.le_refl _))) (HUcs.out.below (bth HA.out h (Nat.le_refl _))))
  have HNo : Hid ((someG ls l cs) = false → shutA ls l cs = false) := fun h => shutA_no h
  have HYes : Hid ((someG ls l cs) = true → shutA ls l cs = shutA_v ls l cs ∧ GoodG ls l ∧ (Rise cs ∧ ∀ x ∈ cs, 0 ≤ x ∧ x < (ls.length : Int))) := fun h => ⟨shutA_yes h, some_yes h⟩
  generalize shutA ls l cs = R at *
  generalize someG ls l cs = bcs at *
  clear hwa
  go_enter Try.func47, Try.ntmps47
  go_wp2_with fail
  rw [← HWA.out]
  refine (HTcs.out wa (Below.refl _ _)).mono ?_
  rintro e w1 ⟨rfl, hb1⟩
  have K1 := Lib.hid hb1
  obtain ⟨p1, q1⟩ := (P0.out.below K1.out hsz).cells
  clear hb1 c0 c1
  cases bcs with
  | false =>
    have hR := HNo.out rfl
    subst hR
    clear HNo HYes HTcs
    go_wp2_with fail
    go_ret2
    exact ⟨rfl, bth HA.out K1.out (Nat.le_refl _)⟩
  | true =>
    obtain ⟨hR, hG, hccs⟩ := HYes.out rfl
    clear HNo HYes HTcs
    have HKW := Lib.hid (bth HA.out K1.out (Nat.le_refl _))
    have PW := Lib.hid (P0.out.below K1.out hsz)
    have hszW := Nat.lt_of_lt_of_le hsz K1.out.size
    have HR : Hid (R = decide ((touchS ls cs).length = cs.length)) := hR.trans (shutB_len hccs.1 hccs.2).symm
    have HC := Lib.hid (l6Touched_any ls l cs _ _ w1 (HV.out.below HKW.out) (HUcs.out.below HKW.out) hG hccs.1 hccs.2)
    clear hR hG hccs
    go_wp2_with fail
    refine HC.out.mono ?_
    rintro e wz ⟨vz, rfl, hoz, hbz⟩
    have HBZ := Lib.hid (bth HKW.out hbz (Nat.le_refl _))
    obtain ⟨za, zc, hq⟩ := own_slice hoz
    subst hq
    clear hoz hbz p1 q1
    have HEB : Hid (((((touchS ls cs).length : Nat) : Int) == ((cs.length : Nat) : Int)) = R) := by
      show _ = _
      rw [HR.out, Bool.eq_iff_iff, decide_eq_true_iff, beq_iff_eq]
      omega
    generalize (touchS ls cs).length = n1 at *
    go_wp2_with fail
    go_ret2
    exact ⟨by rw [← HEB.out]; rfl, HBZ.out⟩
end Go.Proofs.Ytpjmdljjmknpkaa

/- Walks: the reference's l6Needed, NeededFor. -/
namespace Go.Proofs.Ytpjmdljjmknpkaa
open Go.RowKit Pth

set_option maxRecDepth 20000 in
set_option maxHeartbeats 8000000 in
theorem l6Needed_any (ls : List (List Int)) (l cs : List Int) (v u : Value) (w : World) (hst : GraphV w v ls l) (hrow : RowV w u (I cs)) (hG : GoodG ls l) (hr : Rise cs) (hc : ∀ x ∈ cs, 0 ≤ x ∧ x < (ls.length : Int)) :
    Calls Try.prog 102 #[v, u] w (IntsPost w.heap.size (needS ls cs) w) := by
  have HIS := Lib.hid (needF_is hG.toP hr hc)
  have HNR := Lib.hid hG.toP.needs_range
  have HV := Lib.hid hst
  obtain ⟨nv, ov, rfl, h1, h2⟩ := hst
  obtain ⟨an, cn, rfl, hn1, hn2, hat⟩ := h1.lists
  obtain ⟨ao, co, rfl, ho1, ho2, hao⟩ := h2.ints
  clear h1 h2
  unfold maxLen at hn2 ho2
  have HAT := Lib.hid hat
  have HAO := Lib.hid hao
  clear hat hao
  obtain ⟨wa, hwa⟩ : ∃ wa, wa = w.alloc (.cells #[.slice an ls.length cn, .slice ao l.length co] 26) := ⟨_, rfl⟩
  have P0 : Hid (Blk2 wa w.heap.size 26 (.slice an ls.length cn) (.slice ao l.length co)) := by rw [hwa]; exact Blk2.new
  have HA : Hid (Below w.heap.size w wa) := by rw [hwa]; exact (Below.refl w.heap.size w).alloc (Nat.le_refl _) _
  have hsa : wa.heap.size = w.heap.size + 1 := by rw [hwa]; simp
  have HSA := Lib.hid hsa
  have hsz : w.heap.size < wa.heap.size := by omega
  have HWA := Lib.hid hwa
  have HU := Lib.hid hrow
  obtain ⟨ua, uc, rfl, hu1, hu2, _⟩ := hrow.ints
  clear hrow
  unfold maxLen at hu2
  have h10 := hG.high
  have hlow := hG.low
  have hsm := hG.same
  have HIN := Lib.hid (good_in hG)
  have HGG := Lib.hid hG
  have HSL := Lib.hid hsm
  have hl10 : l.length ≤ 10 := by omega
  have hcl : cs.length ≤ 10 := by have := short_in hr hc; omega
  have HCR := Lib.hid hr
  have HCI := Lib.hid hc
  clear hG hsm hr hc
  obtain ⟨qa, qc, w1, run1, o1, b1⟩ := lit_row cs ua uc wa _ rfl (HU.out.below HA.out) (by omega) 24
  have HRUN := Lib.hid run1
  have HO1 := Lib.hid o1
  have HB1 := Lib.hid b1
  have d0 := (P0.out.below b1 hsz).cells.1
  have d1 := (P0.out.below b1 hsz).cells.2
  clear o1 b1 run1 hwa hsa
  go_enter Try.func102, Try.ntmps102
  go_upto_region 1 with (fail)
  rw [← HWA.out]
  go_wp2_with (at_builtin; refine wpList_runApp rfl _ _ rfl rfl rfl HRUN.out ?_)
  clear d0 d1
  go_loopw [5, 6] (fun q i wr => ∃ k : Nat, k ≤ l.length ∧ i = .int .i64 ((k : Int) - 1) ∧ Hid (wr.ownsRow wa.heap.size 3 1 q (needF ls cs (l.drop k)).length (I (needF ls cs (l.drop k)))) ∧ Hid (Below wa.heap.size wa wr)) (fun _ i _ => (intOf i + 1).toNat)
  case atStart => exact ⟨l.length, Nat.le_refl _, by go_num, by rw [List.drop_length]; exact HO1, HB1⟩
  case round =>
    clear HO1 HB1
    obtain ⟨k0, hk0, rfl, HO, HB⟩ := hrel
    by_cases hz : 0 < k0
    · obtain ⟨ra, rc, hq⟩ := own_slice HO.out
      subst hq
      obtain ⟨k, rfl⟩ : ∃ k, k0 = k + 1 := ⟨k0 - 1, by omega⟩
      have hkk : (((k + 1 : Nat) : Int) - 1) = (k : Int) := by omega
      rw [hkk]
      have hlt : k < l.length := by omega
      have hlt2 : (k : Int) < (l.length : Int) := by omega
      obtain ⟨g, o, hgo, hg, hcell0⟩ := HAO.out k hlt
      subst hgo
      obtain ⟨un, hun⟩ : ∃ un : Nat, l[k] = un := ⟨l[k].toNat, by have := HGG.out.tasks l[k] (List.getElem_mem hlt); omega⟩
      have hul : un < ls.length := by have := HGG.out.tasks l[k] (List.getElem_mem hlt); omega
      have hul2 : (un : Int) < (ls.length : Int) := by omega
      have hcell : wr.cell? ⟨g, o + k, none⟩ = some (.int .i64 (un : Int)) := by rw [(bth HA.out HB.out (Nat.le_refl _)).cell (p := ⟨g, o + k, none⟩) hg, hcell0, hun]
      obtain ⟨d0, d1⟩ := (P0.out.below HB.out hsz).cells
      obtain ⟨g1, o1, a2, c2, hgn, hg1, hcell1, hrow⟩ := HAT.out un hul
      subst hgn
      have hcn : wr.cell? ⟨g1, o1 + un, none⟩ = some (.slice a2 ls[un].length c2) := ((bth HA.out HB.out (Nat.le_refl _)).cell (p := ⟨g1, o1 + un, none⟩) hg1).trans hcell1
      have HRW : Hid (∀ W, Below w.heap.size w W → RowV W (.slice a2 ls[un].length c2) (I ls[un])) := fun W h => hrow.below h
      have hnl : ls[un].length ≤ c2 ∧ c2 ≤ 2 ^ 63 - 1 := by
        obtain ⟨_, _, h, h', h4, _⟩ := hrow.ints
        unfold maxLen at h4
        injection h with _ _ h3; omega
      obtain ⟨hnl, hc2⟩ := hnl
      have HBK : Hid (needF ls cs (l.drop k) = if hasL (needF ls cs (l.drop (k + 1))) (un : Int) then need1 (needF ls cs (l.drop (k + 1))) ls[un] else needF ls cs (l.drop (k + 1))) := by
        show _ = _
        rw [needF_drop hlt, hun, needsAt_get hul]
      have HBR : Hid (Rise (needF ls cs (l.drop (k + 1))) ∧ ∀ x ∈ needF ls cs (l.drop (k + 1)), 0 ≤ x ∧ x < (ls.length : Int)) := ⟨needF_rise _ _ HCR.out _, needF_in HNR.out HCI.out _ (fun x hx => by have := HGG.out.tasks x (List.mem_of_mem_drop hx); omega)⟩
      generalize needF ls cs (l.drop (k + 1)) = bk at *
      have HH := l1Has_any bk un _ wr (RowV.of_own HO.out)
      clear hcell0 hcell1 hrow hun
      rcases hh : hasL bk (un : Int) with _ | _
      · rw [hh] at HBK HH
        have HE2 : Hid (needF ls cs (l.drop k) = bk) := HBK.out
        have HC := Lib.hid HH
        clear HH hh HBK
        go_wp2_with fail
        refine HC.out.mono ?_
        rintro e w8 ⟨rfl, rfl⟩
        go_wp2_with fail
        go_roundw
        case rel => exact ⟨k, by omega, by go_num, by rw [HE2.out]; exact HO, HB⟩
        case measure => simp [intOf]
      · rw [hh] at HBK HH
        have HE2 : Hid (needF ls cs (l.drop k) = need1 bk ls[un]) := HBK.out
        have HC := Lib.hid HH
        clear HH hh HBK
        go_wp2_with fail
        refine HC.out.mono ?_
        rintro e w8 ⟨rfl, rfl⟩
        go_wp2_with fail
        clear hcell hcn d0 d1
        go_loopw [5, 35] (fun q i wz => ∃ m : Nat, m ≤ ls[un].length ∧ i = .int .i64 (m : Int) ∧ Hid (wz.ownsRow wa.heap.size 3 1 q (need1 bk (ls[un].take m)).length (I (need1 bk (ls[un].take m)))) ∧ Hid (Below wa.heap.size wa wz)) (fun _ i _ => ls[un].length - (intOf i).toNat)
        case atStart => exact ⟨0, Nat.zero_le _, rfl, HO, HB⟩
        case round =>
          clear HO HB
          obtain ⟨m, hm, rfl, HO, HB⟩ := hrel
          by_cases hlt3 : m < ls[un].length
          · obtain ⟨ra, rc, hq⟩ := own_slice HO.out
            subst hq
            obtain ⟨gr, or, hra, hcr⟩ : ∃ gr or, a2 = some ⟨gr, or, none⟩ ∧ wr.cell? ⟨gr, or + m, none⟩ = some (.int .i64 ls[un][m]) := by
              obtain ⟨aa, cc, h, _, _, hc⟩ := (HRW.out wr (bth HA.out HB.out (Nat.le_refl _))).ints
              injection h with h1 _ _
              obtain ⟨gr, or, h2, _, h3⟩ := hc m hlt3
              exact ⟨gr, or, by rw [h1, h2], h3⟩
            subst hra
            have hlo : (need1 bk (ls[un].take m)).length ≤ 10 := by
              have := short_in (need1_rise (ls[un].take m) HBR.out.1) (n := ls.length) (fun x hx => by
                rcases need1_mem.1 hx with h | h
                · exact HBR.out.2 x h
                · exact HIN.out un hul x (List.mem_of_mem_take h))
              omega
            have HE : Hid (need1 bk (ls[un].take (m + 1)) = putL (need1 bk (ls[un].take m)) ls[un][m]) := by
              show _ = _
              rw [List.take_succ_eq_append_getElem hlt3, need1_snoc]
            generalize need1 bk (ls[un].take m) = bo at *
            generalize ls[un][m] = xm at *
            have HP := Lib.hid (l1Put_any bo xm wa.heap.size _ wr HO.out HB.out.size (by omega))
            go_wp2_with fail
            refine HP.out.mono ?_
            rintro e w9 ⟨v9, rfl, ho9, hb9⟩
            have HO9 := Lib.hid ho9
            have HB9 := Lib.hid (bth HB.out hb9 (Nat.le_refl _))
            clear ho9 hb9
            go_wp2_with fail
            go_roundw
            case rel => exact ⟨m + 1, by omega, by go_num, by rw [HE.out]; exact HO9, HB9⟩
            case measure => simp [intOf]; omega
          · rw [List.take_of_length_le (by omega), ← HE2.out] at HO
            obtain ⟨ra, rc, hq⟩ := own_slice HO.out
            subst hq
            go_wp2_with fail
            go_roundw
            case rel => exact ⟨k, by omega, by go_num, HO, HB⟩
            case measure => simp [intOf]
    · obtain rfl : k0 = 0 := by omega
      have hz0 : (((0 : Nat) : Int) - 1) = -1 := by omega
      rw [hz0]
      rw [List.drop_zero, HIS.out] at HO
      obtain ⟨ra, rc, hq⟩ := own_slice HO.out
      subst hq
      go_wp2_with fail
      go_ret
      exact ⟨_, rfl, own_base HO.out (by omega), bth HA.out HB.out (Nat.le_refl _)⟩

set_option maxRecDepth 20000 in
set_option maxHeartbeats 8000000 in
theorem specNeeded_any (ls : List (List Int)) (l cs : List Int) (v ucs : Value) (w : World) (hst : GraphV w v ls l) (hcs : RowV w ucs (I cs)) :
    Calls Try.prog 58 #[v, ucs] w (ListOk (needA ls l cs) (someG ls l cs) w) := by
  have HV := Lib.hid hst
  obtain ⟨nv, ov, rfl, h1, h2⟩ := hst
  obtain ⟨an, cn, rfl, hn1, hn2, hat⟩ := h1.lists
  obtain ⟨ao, co, rfl, ho1, ho2, hao⟩ := h2.ints
  clear h1 h2
  unfold maxLen at hn2 ho2
  have HAT := Lib.hid hat
  have HAO := Lib.hid hao
  clear hat hao
  obtain ⟨wa, hwa⟩ : ∃ wa, wa = w.alloc (.cells #[.slice an ls.length cn, .slice ao l.length co] 26) := ⟨_, rfl⟩
  have P0 : Hid (Blk2 wa w.heap.size 26 (.slice an ls.length cn) (.slice ao l.length co)) := by rw [hwa]; exact Blk2.new
  have HA : Hid (Below w.heap.size w wa) := by rw [hwa]; exact (Below.refl w.heap.size w).alloc (Nat.le_refl _) _
  have hsa : wa.heap.size = w.heap.size + 1 := by rw [hwa]; simp
  have HSA := Lib.hid hsa
  have hsz : w.heap.size < wa.heap.size := by omega
  have HWA := Lib.hid hwa
  obtain ⟨c0, c1⟩ := P0.out.cells
  have HUcs := Lib.hid hcs
  obtain ⟨xacs, xccs, rfl, hxlcs, hxmcs, _⟩ := hcs.ints
  clear hcs
  unfold maxLen at hxmcs
  have HTcs := Lib.hid (fun W (h : Below wa.heap.size wa W) => l6Some_any ls l cs _ _ W (HV.out.below (bth HA.out h (Nat.le_refl _))) (HUcs.out.below (bth HA.out h (Nat.le_refl _))))
  have HNo : Hid ((someG ls l cs) = false → needA ls l cs = []) := fun h => needA_no h
  have HYes : Hid ((someG ls l cs) = true → needA ls l cs = needA_v ls l cs ∧ GoodG ls l ∧ (Rise cs ∧ ∀ x ∈ cs, 0 ≤ x ∧ x < (ls.length : Int))) := fun h => ⟨needA_yes h, some_yes h⟩
  generalize needA ls l cs = R at *
  generalize someG ls l cs = bcs at *
  clear hwa
  go_enter Try.func58, Try.ntmps58
  go_wp2_with fail
  rw [← HWA.out]
  refine (HTcs.out wa (Below.refl _ _)).mono ?_
  rintro e w1 ⟨rfl, hb1⟩
  have K1 := Lib.hid hb1
  obtain ⟨p1, q1⟩ := (P0.out.below K1.out hsz).cells
  clear hb1 c0 c1
  cases bcs with
  | false =>
    have hR := HNo.out rfl
    subst hR
    clear HNo HYes HTcs
    go_wp2_with fail
    go_ret2
    exact ⟨_, rfl, none_ownZ _ _ _, bth HA.out K1.out (Nat.le_refl _)⟩
  | true =>
    obtain ⟨hR, hG, hccs⟩ := HYes.out rfl
    clear HNo HYes HTcs
    have HKW := Lib.hid (bth HA.out K1.out (Nat.le_refl _))
    have PW := Lib.hid (P0.out.below K1.out hsz)
    have hszW := Nat.lt_of_lt_of_le hsz K1.out.size
    have HR : Hid (R = needS ls cs) := hR
    have HC := Lib.hid (l6Needed_any ls l cs _ _ w1 (HV.out.below HKW.out) (HUcs.out.below HKW.out) hG hccs.1 hccs.2)
    rw [← HR.out] at HC
    clear hR hG hccs
    go_wp2_with fail
    refine HC.out.mono ?_
    rintro e wz ⟨vz, rfl, hoz, hbz⟩
    have HOZ := Lib.hid (own_base hoz HKW.out.size)
    have HBZ := Lib.hid (bth HKW.out hbz (Nat.le_refl _))
    clear hoz hbz p1 q1
    go_wp2_with fail
    go_ret2
    exact ⟨_, rfl, HOZ.out, HBZ.out⟩
end Go.Proofs.Ytpjmdljjmknpkaa

/- Walks: the reference's ReadyWith and MustMake. -/
namespace Go.Proofs.Ytpjmdljjmknpkaa
open Go.RowKit Pth

/-- One that is not among some, and so many of what it needs are. -/
def readyK (cs : List Int) (k : Int) (nd : List Int) : Bool := !hasL cs k && !nd.any (fun x => !hasL cs x)
theorem readyK_snoc (cs : List Int) (k : Int) (nd : List Int) (x : Int) : readyK cs k (nd ++ [x]) = (readyK cs k nd && hasL cs x) := by
  unfold readyK
  rw [List.any_append]
  cases hasL cs k <;> cases nd.any (fun x => !hasL cs x) <;> cases hx : hasL cs x <;> simp [hx]
theorem readyK_nil (cs : List Int) (k : Int) : readyK cs k [] = !hasL cs k := by unfold readyK; simp
theorem readyK_all {ls : List (List Int)} {cs : List Int} {k : Nat} (hk : k < ls.length) : readyK cs k ls[k] = readyP ls cs k := by unfold readyK readyP; rw [needsAt_get hk]
theorem upto_yes {p : Int → Bool} {k : Nat} (h : p (k : Int) = true) : (upto (k + 1)).filter p = (upto k).filter p ++ [(k : Int)] := by
  rw [upto_succ, List.filter_append, List.filter_cons, h]; rfl
theorem upto_no {p : Int → Bool} {k : Nat} (h : p (k : Int) = false) : (upto (k + 1)).filter p = (upto k).filter p := by
  rw [upto_succ, List.filter_append, List.filter_cons, h]; simp

set_option maxRecDepth 20000 in
set_option maxHeartbeats 8000000 in
theorem specReady_any (ls : List (List Int)) (l cs : List Int) (v ucs : Value) (w : World) (hst : GraphV w v ls l) (hcs : RowV w ucs (I cs)) :
    Calls Try.prog 56 #[v, ucs] w (ListOk (readyA ls l cs) (someG ls l cs) w) := by
  have HV := Lib.hid hst
  obtain ⟨nv, ov, rfl, h1, h2⟩ := hst
  obtain ⟨an, cn, rfl, hn1, hn2, hat⟩ := h1.lists
  obtain ⟨ao, co, rfl, ho1, ho2, hao⟩ := h2.ints
  clear h1 h2
  unfold maxLen at hn2 ho2
  have HAT := Lib.hid hat
  have HAO := Lib.hid hao
  clear hat hao
  obtain ⟨wa, hwa⟩ : ∃ wa, wa = w.alloc (.cells #[.slice an ls.length cn, .slice ao l.length co] 26) := ⟨_, rfl⟩
  have P0 : Hid (Blk2 wa w.heap.size 26 (.slice an ls.length cn) (.slice ao l.length co)) := by rw [hwa]; exact Blk2.new
  have HA : Hid (Below w.heap.size w wa) := by rw [hwa]; exact (Below.refl w.heap.size w).alloc (Nat.le_refl _) _
  have hsa : wa.heap.size = w.heap.size + 1 := by rw [hwa]; simp
  have HSA := Lib.hid hsa
  have hsz : w.heap.size < wa.heap.size := by omega
  have HWA := Lib.hid hwa
  obtain ⟨c0, c1⟩ := P0.out.cells
  have HUcs := Lib.hid hcs
  obtain ⟨xacs, xccs, rfl, hxlcs, hxmcs, _⟩ := hcs.ints
  clear hcs
  unfold maxLen at hxmcs
  have HTcs := Lib.hid (fun W (h : Below wa.heap.size wa W) => l6Some_any ls l cs _ _ W (HV.out.below (bth HA.out h (Nat.le_refl _))) (HUcs.out.below (bth HA.out h (Nat.le_refl _))))
  have HNo : Hid ((someG ls l cs) = false → readyA ls l cs = []) := fun h => readyA_no h
  have HYes : Hid ((someG ls l cs) = true → readyA ls l cs = readyA_v ls l cs ∧ GoodG ls l ∧ (Rise cs ∧ ∀ x ∈ cs, 0 ≤ x ∧ x < (ls.length : Int))) := fun h => ⟨readyA_yes h, some_yes h⟩
  generalize readyA ls l cs = R at *
  generalize someG ls l cs = bcs at *
  clear hwa
  go_enter Try.func56, Try.ntmps56
  go_wp2_with fail
  rw [← HWA.out]
  refine (HTcs.out wa (Below.refl _ _)).mono ?_
  rintro e w1 ⟨rfl, hb1⟩
  have K1 := Lib.hid hb1
  obtain ⟨p1, q1⟩ := (P0.out.below K1.out hsz).cells
  clear hb1 c0 c1
  cases bcs with
  | false =>
    have hR := HNo.out rfl
    subst hR
    clear HNo HYes HTcs
    go_wp2_with fail
    go_ret2
    exact ⟨_, rfl, none_ownZ _ _ _, bth HA.out K1.out (Nat.le_refl _)⟩
  | true =>
    obtain ⟨hR, hG, hccs⟩ := HYes.out rfl
    clear HNo HYes HTcs
    have HKW := Lib.hid (bth HA.out K1.out (Nat.le_refl _))
    have PW := Lib.hid (P0.out.below K1.out hsz)
    have hszW := Nat.lt_of_lt_of_le hsz K1.out.size
    have HR : Hid (R = (upto ls.length).filter (readyP ls cs)) := hR
    have h10 := hG.high
    have HUC : Hid (∀ W, Below w.heap.size w W → RowV W (.slice xacs cs.length xccs) (I cs)) := fun W h => HUcs.out.below h
    clear hR hG hccs
    go_wp2_with fail
    clear p1 q1
    go_loopw [6, 19] (fun q i wr => ∃ k : Nat, k ≤ ls.length ∧ i = .int .i64 (k : Int) ∧ Hid (wr.ownsRow w.heap.size 3 1 q ((upto k).filter (readyP ls cs)).length (I ((upto k).filter (readyP ls cs)))) ∧ Hid (Below w.heap.size w wr)) (fun _ i _ => ls.length - (intOf i).toNat)
    case atStart => exact ⟨0, Nat.zero_le _, rfl, none_ownZ _ _ _, HKW⟩
    case round =>
      obtain ⟨k, hk, rfl, HO, HB⟩ := hrel
      by_cases hlt : k < ls.length
      · obtain ⟨ra, rc, hq⟩ := own_slice HO.out
        subst hq
        obtain ⟨g, o, a2, c2, hgo, hg, hcell0, hrow⟩ := HAT.out k hlt
        subst hgo
        have hcell : wr.cell? ⟨g, o + k, none⟩ = some (.slice a2 ls[k].length c2) := (HB.out.cell (p := ⟨g, o + k, none⟩) hg).trans hcell0
        have HRW : Hid (∀ W, Below w.heap.size w W → RowV W (.slice a2 ls[k].length c2) (I ls[k])) := fun W h => hrow.below h
        have hnl : ls[k].length ≤ c2 ∧ c2 ≤ 2 ^ 63 - 1 := by
          obtain ⟨_, _, h, h', h4, _⟩ := hrow.ints
          unfold maxLen at h4
          injection h with _ _ h3; omega
        obtain ⟨hnl, hc2⟩ := hnl
        have hfl : ((upto k).filter (readyP ls cs)).length ≤ 10 := by
          have := List.length_filter_le (readyP ls cs) (upto k); rw [upto_len] at this; omega
        have HH := l1Has_any cs (k : Int) _ wr (HUC.out wr HB.out)
        have HNL := Lib.hid (readyK_nil cs (k : Int))
        have HAL := Lib.hid (readyK_all (cs := cs) hlt)
        have HYE : Hid (readyP ls cs (k : Int) = true → (upto (k + 1)).filter (readyP ls cs) = (upto k).filter (readyP ls cs) ++ [(k : Int)]) := fun h => upto_yes h
        have HNE : Hid (readyP ls cs (k : Int) = false → (upto (k + 1)).filter (readyP ls cs) = (upto k).filter (readyP ls cs)) := fun h => upto_no h
        generalize (upto k).filter (readyP ls cs) = mm at *
        generalize hasL cs (k : Int) = b0 at *
        have HC := Lib.hid HH
        clear HH hcell0 hrow
        go_wp2_with fail
        refine HC.out.mono ?_
        rintro e w8 ⟨rfl, rfl⟩
        go_wp2_with fail
        clear hcell
        go_loopw [9, 30] (fun q i wz => ∃ m : Nat, m ≤ ls[k].length ∧ q = .bool (readyK cs k (ls[k].take m)) ∧ i = .int .i64 (m : Int) ∧ wz = wr) (fun _ i _ => ls[k].length - (intOf i).toNat)
        case atStart => exact ⟨0, Nat.zero_le _, by rw [List.take_zero, HNL.out], rfl, rfl⟩
        case round =>
          obtain ⟨m, hm, rfl, rfl, rfl⟩ := hrel
          by_cases hlt2 : m < ls[k].length
          · obtain ⟨gr, or, hra, hcr⟩ : ∃ gr or, a2 = some ⟨gr, or, none⟩ ∧ wr.cell? ⟨gr, or + m, none⟩ = some (.int .i64 ls[k][m]) := by
              obtain ⟨aa, cc, h, _, _, hc⟩ := (HRW.out wr HB.out).ints
              injection h with h1 _ _
              obtain ⟨gr, or, h2, _, h3⟩ := hc m hlt2
              exact ⟨gr, or, by rw [h1, h2], h3⟩
            subst hra
            have HE : Hid (readyK cs (k : Int) (ls[k].take (m + 1)) = (readyK cs (k : Int) (ls[k].take m) && hasL cs ls[k][m])) := by
              show _ = _
              rw [List.take_succ_eq_append_getElem hlt2, readyK_snoc]
            have HH2 := Lib.hid (l1Has_any cs ls[k][m] _ wr (HUC.out wr HB.out))
            generalize readyK cs (k : Int) (ls[k].take m) = r0 at *
            generalize ls[k][m] = xm at *
            generalize hasL cs xm = bx at *
            cases r0 with
            | false =>
              go_wp2_with fail
              go_roundw
              case rel => exact ⟨m + 1, by omega, by rw [HE.out]; rfl, by go_num, trivial⟩
              case measure => simp [intOf]; omega
            | true =>
              go_wp2_with fail
              refine HH2.out.mono ?_
              rintro e w9 ⟨rfl, rfl⟩
              go_wp2_with fail
              go_roundw
              case rel => exact ⟨m + 1, by omega, by rw [HE.out]; rfl, by go_num, trivial⟩
              case measure => simp [intOf]; omega
          · have HTT : Hid (readyK cs (k : Int) (ls[k].take m) = readyP ls cs (k : Int)) := by
              show _ = _
              rw [List.take_of_length_le (by omega)]
              exact HAL.out
            generalize readyK cs (k : Int) (ls[k].take m) = r0 at *
            cases r0 with
            | false =>
              have HE2 := Lib.hid (HNE.out HTT.out.symm)
              go_wp2_with fail
              go_roundw
              case rel => exact ⟨k + 1, by omega, by go_num, by rw [HE2.out]; exact HO, HB⟩
              case measure => simp [intOf]; omega
            | true =>
              have HE2 := Lib.hid (HYE.out HTT.out.symm)
              have HNA := Lib.hid (own_Z HO.out)
              have hIl : (I mm).length ≤ 1000000 := by rw [I_len]; omega
              clear HO
              go_wp2_with (at_builtin; refine wpAppOne elemI rfl _ _ rfl w.heap.size _ (I mm) rfl HNA.out _ rfl rfl rfl hIl HB.out.size ?_; intro v7 w7 hown7 hg7; have HN7 := Lib.hid (own_Z2 hown7); have HB7 := Lib.hid (HB.out.trans (below_own HNA.out hg7 HB.out.size)); clear hown7 hg7)
              go_roundw
              case rel => exact ⟨k + 1, by omega, by go_num, by rw [HE2.out]; exact HN7, HB7⟩
              case measure => simp [intOf]; omega
      · obtain rfl : k = ls.length := by omega
        rw [← HR.out] at HO
        obtain ⟨ra, rc, hq⟩ := own_slice HO.out
        subst hq
        go_wp2_with fail
        go_ret2
        exact ⟨_, rfl, HO.out, HB.out⟩

/-- One that is touched and needed. -/
noncomputable def mustP (ls : List (List Int)) (cs ds : List Int) (y : Int) : Bool := hasL (touchS ls cs) y && hasL (needS ls ds) y
noncomputable def mustA_v (ls : List (List Int)) (l cs ds : List Int) : List Int := l.filter (mustP ls cs ds)
noncomputable def mustA (ls : List (List Int)) (l cs ds : List Int) : List Int := if someG ls l cs && someG ls l ds then mustA_v ls l cs ds else []
theorem mustA_no {ls : List (List Int)} {l cs ds : List Int} (h : (someG ls l cs && someG ls l ds) = false) : mustA ls l cs ds = [] := by unfold mustA; rw [h]; rfl
theorem mustA_yes {ls : List (List Int)} {l cs ds : List Int} (h : (someG ls l cs && someG ls l ds) = true) : mustA ls l cs ds = mustA_v ls l cs ds := by unfold mustA; rw [h]; rfl
theorem mustA_short (ls : List (List Int)) (l cs ds : List Int) : (mustA ls l cs ds).length ≤ 1000000 := by
  rcases h : (someG ls l cs && someG ls l ds) with _ | _
  · rw [mustA_no h]; simp
  · rw [mustA_yes h]
    have h1 := (some_yes2 h).1.high
    have h2 := (some_yes2 h).1.same
    exact Nat.le_trans (List.length_filter_le _ _) (by omega)

set_option maxRecDepth 20000 in
set_option maxHeartbeats 8000000 in
theorem specMust_any (ls : List (List Int)) (l cs ds : List Int) (v ucs uds : Value) (w : World) (hst : GraphV w v ls l) (hcs : RowV w ucs (I cs)) (hds : RowV w uds (I ds)) :
    Calls Try.prog 45 #[v, ucs, uds] w (ListOk (mustA ls l cs ds) (someG ls l cs && someG ls l ds) w) := by
  have HV := Lib.hid hst
  obtain ⟨nv, ov, rfl, h1, h2⟩ := hst
  obtain ⟨an, cn, rfl, hn1, hn2, hat⟩ := h1.lists
  obtain ⟨ao, co, rfl, ho1, ho2, hao⟩ := h2.ints
  clear h1 h2
  unfold maxLen at hn2 ho2
  have HAT := Lib.hid hat
  have HAO := Lib.hid hao
  clear hat hao
  obtain ⟨wa, hwa⟩ : ∃ wa, wa = w.alloc (.cells #[.slice an ls.length cn, .slice ao l.length co] 26) := ⟨_, rfl⟩
  have P0 : Hid (Blk2 wa w.heap.size 26 (.slice an ls.length cn) (.slice ao l.length co)) := by rw [hwa]; exact Blk2.new
  have HA : Hid (Below w.heap.size w wa) := by rw [hwa]; exact (Below.refl w.heap.size w).alloc (Nat.le_refl _) _
  have hsa : wa.heap.size = w.heap.size + 1 := by rw [hwa]; simp
  have HSA := Lib.hid hsa
  have hsz : w.heap.size < wa.heap.size := by omega
  have HWA := Lib.hid hwa
  obtain ⟨c0, c1⟩ := P0.out.cells
  have HUcs := Lib.hid hcs
  obtain ⟨xacs, xccs, rfl, hxlcs, hxmcs, _⟩ := hcs.ints
  clear hcs
  unfold maxLen at hxmcs
  have HUds := Lib.hid hds
  obtain ⟨xads, xcds, rfl, hxlds, hxmds, _⟩ := hds.ints
  clear hds
  unfold maxLen at hxmds
  have HTcs := Lib.hid (fun W (h : Below wa.heap.size wa W) => l6Some_any ls l cs _ _ W (HV.out.below (bth HA.out h (Nat.le_refl _))) (HUcs.out.below (bth HA.out h (Nat.le_refl _))))
  have HTds := Lib.hid (fun W (h : Below wa.heap.size wa W) => l6Some_any ls l ds _ _ W (HV.out.below (bth HA.out h (Nat.le_refl _))) (HUds.out.below (bth HA.out h (Nat.le_refl _))))
  have HNo : Hid ((someG ls l cs && someG ls l ds) = false → mustA ls l cs ds = []) := fun h => mustA_no h
  have HYes : Hid ((someG ls l cs && someG ls l ds) = true → mustA ls l cs ds = mustA_v ls l cs ds ∧ GoodG ls l ∧ (Rise cs ∧ ∀ x ∈ cs, 0 ≤ x ∧ x < (ls.length : Int)) ∧ (Rise ds ∧ ∀ x ∈ ds, 0 ≤ x ∧ x < (ls.length : Int))) := fun h => ⟨mustA_yes h, some_yes2 h⟩
  generalize mustA ls l cs ds = R at *
  generalize someG ls l cs = bcs at *
  generalize someG ls l ds = bds at *
  clear hwa
  go_enter Try.func45, Try.ntmps45
  go_wp2_with fail
  rw [← HWA.out]
  refine (HTcs.out wa (Below.refl _ _)).mono ?_
  rintro e w1 ⟨rfl, hb1⟩
  have K1 := Lib.hid hb1
  obtain ⟨p1, q1⟩ := (P0.out.below K1.out hsz).cells
  clear hb1 c0 c1
  cases bcs with
  | false =>
    have hR := HNo.out rfl
    subst hR
    clear HNo HYes HTcs HTds
    go_wp2_with fail
    go_ret2
    exact ⟨_, rfl, none_ownZ _ _ _, bth HA.out K1.out (Nat.le_refl _)⟩
  | true =>
    go_wp2_with fail
    refine (HTds.out w1 K1.out).mono ?_
    rintro e w2 ⟨rfl, hb2⟩
    have K2 := Lib.hid (bth K1.out hb2 (Nat.le_refl _))
    obtain ⟨p2, q2⟩ := (P0.out.below K2.out hsz).cells
    clear hb2 p1 q1
    cases bds with
    | false =>
      have hR := HNo.out rfl
      subst hR
      clear HNo HYes HTcs HTds
      go_wp2_with fail
      go_ret2
      exact ⟨_, rfl, none_ownZ _ _ _, bth HA.out K2.out (Nat.le_refl _)⟩
    | true =>
      obtain ⟨hR, hG, hccs, hcds⟩ := HYes.out rfl
      clear HNo HYes HTcs HTds
      have HKW := Lib.hid (bth HA.out K2.out (Nat.le_refl _))
      have PW := Lib.hid (P0.out.below K2.out hsz)
      have hszW := Nat.lt_of_lt_of_le hsz K2.out.size
      have HR : Hid (R = l.filter (mustP ls cs ds)) := hR
      have h10 : l.length ≤ 10 := by have := hG.high; have := hG.same; omega
      have HC := Lib.hid (l6Touched_any ls l cs _ _ w2 (HV.out.below HKW.out) (HUcs.out.below HKW.out) hG hccs.1 hccs.2)
      have HD := Lib.hid (fun W (h : Below w.heap.size w W) => l6Needed_any ls l ds _ _ W (HV.out.below h) (HUds.out.below h) hG hcds.1 hcds.2)
      have HP : Hid (∀ y, mustP ls cs ds y = (hasL (touchS ls cs) y && hasL (needS ls ds) y)) := fun _ => rfl
      clear hR hG hccs hcds
      generalize touchS ls cs = ta at *
      generalize needS ls ds = tb at *
      generalize mustP ls cs ds = mp at *
      go_wp2_with fail
      refine HC.out.mono ?_
      rintro e wx ⟨vx, rfl, hox, hbx⟩
      have KX := Lib.hid (bth HKW.out hbx (Nat.le_refl _))
      have HOX := Lib.hid hox
      have d0 := (PW.out.below hbx hszW).cells.1
      have d1 := (PW.out.below hbx hszW).cells.2
      have PX := Lib.hid (PW.out.below hbx hszW)
      have hszX := Nat.lt_of_lt_of_le hszW hbx.size
      obtain ⟨xa, xc, hqx⟩ := own_slice hox
      subst hqx
      clear hox hbx p2 q2
      go_wp2_with fail
      refine (HD.out wx KX.out).mono ?_
      rintro e wy ⟨vy, rfl, hoy, hby⟩
      have KY := Lib.hid (bth KX.out hby (Nat.le_refl _))
      have HRX := Lib.hid (RowV.of_own (own_below HOX.out hby))
      have HRY := Lib.hid (RowV.of_own hoy)
      have e1 := (PX.out.below hby hszX).cells.2
      obtain ⟨ya, yc, hqy⟩ := own_slice hoy
      subst hqy
      clear hoy hby d0 d1
      go_wp2_with fail
      clear e1
      go_loopw [10, 32] (fun q i wr => ∃ k : Nat, k ≤ l.length ∧ i = .int .i64 (k : Int) ∧ Hid (wr.ownsRow wy.heap.size 3 1 q ((l.take k).filter mp).length (I ((l.take k).filter mp))) ∧ Hid (Below wy.heap.size wy wr)) (fun _ i _ => l.length - (intOf i).toNat)
      case atStart => exact ⟨0, Nat.zero_le _, rfl, none_ownZ _ _ _, Below.refl _ _⟩
      case round =>
        obtain ⟨k, hk, rfl, HO, HB⟩ := hrel
        have HBW := Lib.hid (bth KY.out HB.out (Nat.le_refl _))
        by_cases hlt : k < l.length
        · obtain ⟨ra, rc, hq⟩ := own_slice HO.out
          subst hq
          obtain ⟨g, o, hgo, hg, hcell0⟩ := HAO.out k hlt
          subst hgo
          have hcell : wr.cell? ⟨g, o + k, none⟩ = some (.int .i64 l[k]) := (HBW.out.cell (p := ⟨g, o + k, none⟩) hg).trans hcell0
          have HH1 := l1Has_any ta l[k] _ wr (HRX.out.below HB.out)
          have HH2 := l1Has_any tb l[k] _ wr (HRY.out.below HB.out)
          have hfl : ((l.take k).filter mp).length ≤ 10 := by have := List.length_filter_le mp (l.take k); rw [List.length_take] at this; omega
          have HYE : Hid (mp l[k] = true → (l.take (k + 1)).filter mp = (l.take k).filter mp ++ [l[k]]) := fun h => filter_yes hlt h
          have HNE : Hid (mp l[k] = false → (l.take (k + 1)).filter mp = (l.take k).filter mp) := fun h => filter_no hlt h
          have HPK := Lib.hid (HP.out l[k])
          generalize (l.take k).filter mp = mm at *
          generalize l[k] = xk at *
          have HC1 := Lib.hid HH1
          have HC2 := Lib.hid HH2
          clear HH1 HH2 hcell0
          generalize hasL ta xk = ba at *
          generalize hasL tb xk = bb at *
          cases ba with
          | false =>
            have HE2 := Lib.hid (HNE.out HPK.out)
            go_wp2_with fail
            refine HC1.out.mono ?_
            rintro e w8 ⟨rfl, rfl⟩
            go_wp2_with fail
            go_roundw
            case rel => exact ⟨k + 1, by omega, by go_num, by rw [HE2.out]; exact HO, HB⟩
            case measure => simp [intOf]; omega
          | true =>
            cases bb with
            | false =>
              have HE2 := Lib.hid (HNE.out HPK.out)
              go_wp2_with fail
              refine HC1.out.mono ?_
              rintro e w8 ⟨rfl, rfl⟩
              go_wp2_with fail
              refine HC2.out.mono ?_
              rintro e w9 ⟨rfl, rfl⟩
              go_wp2_with fail
              go_roundw
              case rel => exact ⟨k + 1, by omega, by go_num, by rw [HE2.out]; exact HO, HB⟩
              case measure => simp [intOf]; omega
            | true =>
              have HE2 := Lib.hid (HYE.out HPK.out)
              have HNA := Lib.hid (own_Z HO.out)
              have hIl : (I mm).length ≤ 1000000 := by rw [I_len]; omega
              clear HO
              go_wp2_with fail
              refine HC1.out.mono ?_
              rintro e w8 ⟨rfl, rfl⟩
              go_wp2_with fail
              refine HC2.out.mono ?_
              rintro e w9 ⟨rfl, rfl⟩
              go_wp2_with (at_builtin; refine wpAppOne elemI rfl _ _ rfl wy.heap.size _ (I mm) rfl HNA.out _ rfl rfl rfl hIl HB.out.size ?_; intro v7 w7 hown7 hg7; have HN7 := Lib.hid (own_Z2 hown7); have HB7 := Lib.hid (HB.out.trans (below_own HNA.out hg7 HB.out.size)); clear hown7 hg7)
              go_roundw
              case rel => exact ⟨k + 1, by omega, by go_num, by rw [HE2.out]; exact HN7, HB7⟩
              case measure => simp [intOf]; omega
        · rw [List.take_of_length_le (by omega), ← HR.out] at HO
          obtain ⟨ra, rc, hq⟩ := own_slice HO.out
          subst hq
          go_wp2_with fail
          go_ret2
          exact ⟨_, rfl, own_base HO.out KY.out.size, HBW.out⟩
end Go.Proofs.Ytpjmdljjmknpkaa

/- Marks as mathematics; markUsers again, with what it leaves as it was. -/
namespace Go.Proofs.Ytpjmdljjmknpkaa
open Go.RowKit Pth

theorem Up.congr {ls : List (List Int)} {l : List Int} (hg : GoodP ls l) {P Q : Int → Prop} (h : ∀ z ∈ l, P z → Q z) {y : Int} (hy : y ∈ l) (hu : Up ls P y) : Up ls Q y := by
  induction hu with
  | base hp => exact .base (h _ hy hp)
  | @step k x h0 hx _ ih =>
    obtain ⟨i, hi, rfl⟩ := List.getElem_of_mem hy
    exact .step h0 hx (ih (List.mem_of_mem_take (hg.needs_take hi hx)))
theorem Dn.congr {ls : List (List Int)} {l : List Int} (hg : GoodP ls l) {P Q : Int → Prop} (h : ∀ z ∈ l, P z → Q z) (hP : ∀ z, P z → z ∈ l) {y : Int} (hu : Dn ls P y) : Dn ls Q y := by
  have key : ∀ {y}, Dn ls P y → y ∈ l := by
    intro y hy
    cases hy with
    | base hp => exact hP _ hp
    | @step k u h0 hx _ =>
      obtain ⟨i, hi, rfl⟩ := List.getElem_of_mem (hg.all.2 ⟨h0, needs_in h0 hx⟩)
      exact List.mem_of_mem_take (hg.needs_take hi hx)
  induction hu with
  | base hp => exact .base (h _ (hP _ hp) hp)
  | step h0 hx _ ih => exact .step h0 hx ih
theorem markB_set {bs : List Bool} {u : Nat} {b : Bool} {z : Int} (hu : u < bs.length) (hz : 0 ≤ z) : markB (bs.set u b) z = if z = (u : Int) then b else markB bs z := by
  obtain ⟨n, rfl⟩ : ∃ n : Nat, z = n := ⟨z.toNat, by omega⟩
  unfold markB
  rw [show ((n : Int)).toNat = n by omega, List.getD_eq_getElem?_getD, List.getD_eq_getElem?_getD, List.getElem?_set]
  by_cases h : n = u
  · subst h; simp [hu]
  · rw [if_neg (fun e => h e.symm), if_neg (by omega)]
theorem markOne_mem {u : Nat} {nd : List Int} (hn : (u : Int) ∉ nd) (h0 : ∀ x ∈ nd, 0 ≤ x) : ∀ {bs : List Bool} (_ : u < bs.length) {y : Int} (_ : 0 ≤ y), markB (markOne u bs nd) y = true ↔ markB bs y = true ∨ (y = (u : Int) ∧ ∃ x ∈ nd, markB bs x = true) := by
  induction nd with
  | nil => intro bs hu y hy; simp [markOne]
  | cons x r ih =>
    intro bs hu y hy
    rw [List.mem_cons, not_or] at hn
    have hx0 := h0 x (by simp)
    show markB (markOne u (bs.set u (markB bs u || markB bs x)) r) y = true ↔ _
    have hlen : u < (bs.set u (markB bs u || markB bs x)).length := by rw [List.length_set]; exact hu
    rw [ih hn.2 (fun z hz => h0 z (by simp [hz])) hlen hy, markB_set hu hy]
    have key : ∀ z ∈ r, markB (bs.set u (markB bs u || markB bs x)) z = markB bs z := fun z hz => by
      rw [markB_set hu (h0 z (by simp [hz])), if_neg (fun e => hn.2 (by rw [← e]; exact hz))]
    by_cases hyu : y = (u : Int)
    · subst hyu
      rw [if_pos rfl, Bool.or_eq_true]
      constructor
      · rintro ((h | h) | ⟨_, z, hz, h⟩)
        · exact .inl h
        · exact .inr ⟨rfl, x, by simp, h⟩
        · exact .inr ⟨rfl, z, by simp [hz], by rw [← key z hz]; exact h⟩
      · rintro (h | ⟨_, z, hz, h⟩)
        · exact .inl (.inl h)
        · rw [List.mem_cons] at hz
          rcases hz with rfl | hz
          · exact .inl (.inr h)
          · exact .inr ⟨rfl, z, hz, by rw [key z hz]; exact h⟩
    · rw [if_neg hyu]
      constructor
      · rintro (h | ⟨h, _⟩)
        · exact .inl h
        · exact absurd h hyu
      · rintro (h | ⟨h, _⟩)
        · exact .inl h
        · exact absurd h hyu
theorem markUs_up {ls : List (List Int)} {l : List Int} (hg : GoodP ls l) {bs : List Bool} (hb : bs.length = ls.length) : ∀ y ∈ l, (markB (markUs ls bs l) y = true ↔ Up ls (fun z => markB bs z = true) y) := by
  have := up_whole hg (P := fun z => markB bs z = true) (S := fun k y => markB (markUs ls bs (l.take k)) y = true) (fun y _ => by simp [markUs]) (fun k hk y hy => by
    show markB (markUs ls bs (l.take (k + 1))) y = true ↔ _
    have hr := hg.range _ (List.getElem_mem hk)
    obtain ⟨u, hu⟩ : ∃ u : Nat, l[k] = u := ⟨l[k].toNat, by omega⟩
    have hs := hg.self hk
    have hn0 : ∀ x ∈ needsAt ls l[k], 0 ≤ x := fun x hx => (hg.range x (List.mem_of_mem_take (hg.needs_take hk hx))).1
    rw [List.take_succ_eq_append_getElem hk, markUs_snoc]
    rw [hu] at hs hn0 ⊢
    rw [show ((u : Int)).toNat = u by omega]
    exact markOne_mem hs hn0 (by rw [markUs_len, hb]; omega) (hg.range y hy).1)
  simpa using this

/-- The marks of each of some, one by one. -/
def marksOf (F : List (List Int) → List Int → Nat → List Bool → List Bool) (ls : List (List Int)) (l cs : List Int) : List Bool := cs.foldl (fun b c => F ls l c.toNat b) (List.replicate ls.length false)
theorem marksOf_snoc (F : List (List Int) → List Int → Nat → List Bool → List Bool) (ls : List (List Int)) (l cs : List Int) (c : Int) : marksOf F ls l (cs ++ [c]) = F ls l c.toNat (marksOf F ls l cs) := by
  unfold marksOf; rw [List.foldl_append]; rfl
def usersF (ls : List (List Int)) (l : List Int) (t : Nat) (bs : List Bool) : List Bool := markUs ls (bs.set t true) l
theorem marksOf_len {F : List (List Int) → List Int → Nat → List Bool → List Bool} (hF : ∀ ls l t bs, (F ls l t bs).length = bs.length) (ls : List (List Int)) (l : List Int) (cs : List Int) : (marksOf F ls l cs).length = ls.length := by
  have key : ∀ (cs : List Int) (bs : List Bool), (cs.foldl (fun b c => F ls l c.toNat b) bs).length = bs.length := by
    intro cs
    induction cs with
    | nil => intro bs; rfl
    | cons c r ih => intro bs; rw [List.foldl_cons, ih, hF]
  unfold marksOf
  rw [key, List.length_replicate]
theorem usersF_len (ls : List (List Int)) (l : List Int) (t : Nat) (bs : List Bool) : (usersF ls l t bs).length = bs.length := by unfold usersF; rw [markUs_len, List.length_set]
theorem markB_none (n : Nat) (y : Int) : markB (List.replicate n false) y = false := by
  unfold markB
  rw [List.getD_eq_getElem?_getD, List.getElem?_replicate]
  split <;> rfl
theorem rev_ind {motive : List Int → Prop} (h0 : motive []) (hs : ∀ cs c, motive cs → motive (cs ++ [c])) : ∀ cs, motive cs := by
  intro cs
  have : ∀ n (cs : List Int), cs.length = n → motive cs := by
    intro n
    induction n with
    | zero => intro cs h; rw [List.eq_nil_of_length_eq_zero h]; exact h0
    | succ n ih =>
      intro cs h
      have hne : cs ≠ [] := fun e => by rw [e] at h; simp at h
      rw [← List.dropLast_concat_getLast hne]
      exact hs _ _ (ih _ (by rw [List.length_dropLast]; omega))
  exact this _ cs rfl
theorem users_marks {ls : List (List Int)} {l : List Int} (hg : GoodP ls l) : ∀ cs : List Int, (∀ x ∈ cs, 0 ≤ x ∧ x < (ls.length : Int)) → ∀ y ∈ l, (markB (marksOf usersF ls l cs) y = true ↔ Up ls (· ∈ cs) y) := by
  refine rev_ind ?_ ?_
  · intro _ y _
    show markB (List.replicate ls.length false) y = true ↔ _
    rw [markB_none]
    constructor
    · intro h; cases h
    · intro h; exact absurd (h.mono (Q := fun _ => False) (fun x hx => by simp at hx)) Up.none
  · intro cs c ih hc y hy
    have hcr := hc c (by simp)
    have ihc := ih (fun x hx => hc x (by simp [hx]))
    have hlen := marksOf_len usersF_len ls l cs
    obtain ⟨t, rfl⟩ : ∃ t : Nat, c = t := ⟨c.toNat, by omega⟩
    rw [marksOf_snoc, show ((t : Int)).toNat = t by omega, usersF, markUs_up hg (by rw [List.length_set, hlen]) y hy]
    have hset : ∀ z ∈ l, (markB ((marksOf usersF ls l cs).set t true) z = true ↔ z = (t : Int) ∨ Up ls (· ∈ cs) z) := fun z hz => by
      rw [markB_set (by omega) (hg.range z hz).1, ← ihc z hz]
      by_cases h : z = (t : Int)
      · simp [h]
      · rw [if_neg h]; simp [h]
    constructor
    · intro h
      refine Up.twice (P := fun z => z = (t : Int) ∨ Up ls (· ∈ cs) z) (fun x hx => ?_) (Up.congr hg (fun z hz h => (hset z hz).1 h) hy h)
      rcases hx with rfl | hx
      · exact .base (by simp)
      · exact hx.mono (fun z hz => by simp [hz])
    · intro h
      refine Up.congr hg (fun z hz h => (hset z hz).2 ?_) hy h
      rw [List.mem_append, List.mem_singleton] at h
      rcases h with h | h
      · exact .inr (.base h)
      · exact .inl h
theorem users_told {ls : List (List Int)} {l cs : List Int} (hg : GoodP ls l) (hc : ∀ x ∈ cs, 0 ≤ x ∧ x < (ls.length : Int)) : ∀ y ∈ l, markB (marksOf usersF ls l cs) y = hasL (touchS ls cs) y := by
  intro y hy
  rw [Bool.eq_iff_iff, users_marks hg cs hc y hy, hasL, decide_eq_true_iff, mem_touchS]
  exact ⟨fun h => ⟨hg.range y hy, h⟩, fun h => h.2⟩

set_option maxRecDepth 20000 in
set_option maxHeartbeats 8000000 in
theorem markUsersG_any (ls : List (List Int)) (l st : List Int) (t : Nat) (bs : List Bool) (v s : Value) (gm cm : Nat) (w0 w : World) (hst : GraphV w0 v ls l) (hsr : RowV w0 s (I st)) (hb0 : Below w0.heap.size w0 w)
    (hown : w.ownsRow w0.heap.size 4 1 (.slice (some ⟨gm, 0, none⟩) bs.length cm) bs.length (Bo bs)) (hbl : bs.length = ls.length) (h10 : ls.length ≤ 10) (ht : t < ls.length) (hin : ∀ x ∈ st, 0 ≤ x ∧ x < (ls.length : Int)) (hnd : ∀ k (hk : k < ls.length), ∀ x ∈ ls[k], 0 ≤ x ∧ x < (ls.length : Int)) :
    Calls Try.prog 118 #[v, s, .int .i64 (t : Int), .slice (some ⟨gm, 0, none⟩) bs.length cm] w fun e w' => e = .returned (.tuple #[]) ∧ Below w0.heap.size w0 w' ∧ w'.ownsRow w0.heap.size 4 1 (.slice (some ⟨gm, 0, none⟩) bs.length cm) bs.length (Bo (markUs ls (bs.set t true) st)) ∧ w.grownBy w' (some gm) := by
  have HV := Lib.hid hst
  have HS := Lib.hid hsr
  obtain ⟨B, hBB⟩ : ∃ B, B = w0.heap.size := ⟨_, rfl⟩
  rw [← hBB] at hb0 hown
  rw [← hBB]
  have hB : B ≤ w.heap.size := by have := hb0.size; omega
  have HB00 := Lib.hid hb0
  have HBB := Lib.hid hBB
  obtain ⟨nv, ov, rfl, h1, h2⟩ := hst
  obtain ⟨an, cn, rfl, hn1, hn2, hat⟩ := h1.lists
  obtain ⟨ao, co, rfl, ho1, ho2, _⟩ := h2.ints
  obtain ⟨sa, sc, rfl, hs1, hs2, hsat⟩ := hsr.ints
  clear h1 h2 hsr
  unfold maxLen at hn2 ho2 hs2
  have HAT := Lib.hid hat
  have HSA := Lib.hid hsat
  have HIN := Lib.hid hin
  have HND := Lib.hid hnd
  clear hat hsat hin hnd hb0 hBB
  obtain ⟨wa, hwa⟩ : ∃ wa, wa = w.alloc (.cells #[.slice an ls.length cn, .slice ao l.length co] 26) := ⟨_, rfl⟩
  have P0 : Hid (Blk2 wa w.heap.size 26 (.slice an ls.length cn) (.slice ao l.length co)) := by rw [hwa]; exact Blk2.new
  have HA : Hid (Below B w0 wa) := by rw [hwa]; exact HB00.out.alloc hB _
  have hgl := hown.lt gm rfl
  have hBa : B ≤ wa.heap.size := by rw [hwa]; simp; omega
  have hcm : bs.length ≤ cm ∧ cm ≤ 2 ^ 63 - 1 := by
    rcases hown.2 with ⟨h, _⟩ | ⟨g, cap, cur, hv, _, _, hcap, hmx, _⟩
    · injection h with h _ _; cases h
    · unfold maxLen at hmx; injection hv with _ _ h3; omega
  obtain ⟨hcm1, hcm2⟩ := hcm
  have ho1' := hown.alloc (.cells #[.slice an ls.length cn, .slice ao l.length co] 26)
  have htb : t < bs.length := by omega
  have htb2 : (t : Int) < (bs.length : Int) := by omega
  have hfz := ho1'.frozenAt t
  have hcz : (w.alloc (.cells #[.slice an ls.length cn, .slice ao l.length co] 26)).cell? ⟨gm, t, none⟩ = some (.bool bs[t]) := by rw [ho1'.cellAt t (by omega), Bo_get? htb]
  have hst := ho1'.stored t (.bool true)
  rw [Bo_set] at hst
  obtain ⟨w2, hw2⟩ : ∃ w2, w2 = (w.alloc (.cells #[.slice an ls.length cn, .slice ao l.length co] 26)).setCell ⟨gm, t, none⟩ (.bool true) := ⟨_, rfl⟩
  rw [← hw2, ← hwa] at hst
  have HO0 := Lib.hid hst.1
  have HB0 := Lib.hid (HA.out.trans (only_below hst.2 hgl.1 hBa))
  have HG0 : Hid (w.grownBy w2 (some gm)) := grown_trans (below_grown (show Below w.heap.size w wa by rw [hwa]; exact (Below.refl w.heap.size w).alloc (Nat.le_refl _) _)) hst.2
  have HP0 := Lib.hid (P0.out.beside hst.2 (by intro e; have := Option.some.inj e; omega))
  have HW2 := Lib.hid hw2
  have HBL := Lib.hid hbl
  have hg1 : B ≤ gm := hgl.1
  have hg2 : gm < w.heap.size := hgl.2
  have HG2 := Lib.hid hg2
  clear hown ho1' hst hw2 hwa hbl hgl hg2
  go_enter Try.func118, Try.ntmps118
  go_wp2_with fail
  rw [← HW2.out]
  clear hfz hcz HW2
  have HLN := Lib.hid (fun k => markUs_len ls (st.take k) (bs.set t true))
  go_loopw [17] (fun i wr => ∃ k : Nat, k ≤ st.length ∧ i = .int .i64 (k : Int) ∧ Hid (w.grownBy wr (some gm)) ∧ Hid (Below B w0 wr) ∧ Hid (Blk2 wr w.heap.size 26 (.slice an ls.length cn) (.slice ao l.length co)) ∧ Hid (wr.ownsRow B 4 1 (.slice (some ⟨gm, 0, none⟩) bs.length cm) bs.length (Bo (markUs ls (bs.set t true) (st.take k))))) (fun i _ => st.length - (intOf i).toNat)
  case atStart => exact ⟨0, Nat.zero_le _, rfl, HG0, HB0, HP0, HO0⟩
  case round =>
    clear HB0 HP0 HO0 HG0
    obtain ⟨k, hk, rfl, HG, HB, HP, HO⟩ := hrel
    by_cases hlt : k < st.length
    · obtain ⟨un, hun⟩ : ∃ un : Nat, st[k] = un := ⟨st[k].toNat, by have := HIN.out st[k] (List.getElem_mem hlt); omega⟩
      have hul : un < ls.length := by have := HIN.out st[k] (List.getElem_mem hlt); omega
      have hul2 : (un : Int) < (ls.length : Int) := by omega
      obtain ⟨g, o, hgo, hgg, hcell0⟩ := HSA.out k hlt
      subst hgo
      have hcell : wr.cell? ⟨g, o + k, none⟩ = some (.int .i64 (un : Int)) := by rw [HB.out.cell (p := ⟨g, o + k, none⟩) (by rw [HBB.out]; exact hgg), hcell0, hun]
      obtain ⟨d0, d1⟩ := HP.out.cells
      obtain ⟨g1, o1, a2, c2, hgn, hg1', hcell1, hrow⟩ := HAT.out un hul
      have hcn : wr.cell? ⟨g1, o1 + un, none⟩ = some (.slice a2 ls[un].length c2) := by rw [HB.out.cell (p := ⟨g1, o1 + un, none⟩) (by rw [HBB.out]; exact hg1'), hcell1]
      have hnl : ls[un].length ≤ c2 ∧ c2 ≤ 2 ^ 63 - 1 := by
        obtain ⟨_, _, h, h', h4, _⟩ := hrow.ints
        unfold maxLen at h4
        injection h with _ _ h3; omega
      obtain ⟨hnl, hc2⟩ := hnl
      subst hgn
      have HBK : Hid (markUs ls (bs.set t true) (st.take (k + 1)) = markOne un (markUs ls (bs.set t true) (st.take k)) ls[un]) := by
        show _ = _
        rw [List.take_succ_eq_append_getElem hlt, markUs_snoc, hun, needsAt_get hul]
        rfl
      have hbk : (markUs ls (bs.set t true) (st.take k)).length = bs.length := by rw [markUs_len, List.length_set]
      have HRW : Hid (∀ W, Below B w0 W → ∀ m (hm : m < ls[un].length), ∃ gr or, a2 = some ⟨gr, or, none⟩ ∧ W.cell? ⟨gr, or + m, none⟩ = some (.int .i64 ls[un][m])) := by
        intro W hW m hm
        obtain ⟨_, _, h, _, _, hc⟩ := hrow.ints
        injection h with h1 _ _
        obtain ⟨gr, or, h2, h3, h4⟩ := hc m hm
        exact ⟨gr, or, by rw [h1, h2], by rw [hW.cell (p := ⟨gr, or + m, none⟩) (by rw [HBB.out]; exact h3), h4]⟩
      generalize markUs ls (bs.set t true) (st.take k) = bk at *
      have HBKL := Lib.hid hbk
      clear hcell0 hcell1 hrow hun hbk
      go_wp2_with fail
      clear hcell hcn d0 d1
      go_loopw [27] (fun i wz => ∃ m : Nat, m ≤ ls[un].length ∧ i = .int .i64 (m : Int) ∧ Hid (w.grownBy wz (some gm)) ∧ Hid (Below B w0 wz) ∧ Hid (Blk2 wz w.heap.size 26 (.slice (some ⟨g1, o1, none⟩) ls.length cn) (.slice ao l.length co)) ∧ Hid (wz.ownsRow B 4 1 (.slice (some ⟨gm, 0, none⟩) bs.length cm) bs.length (Bo (markOne un bk (ls[un].take m))))) (fun i _ => ls[un].length - (intOf i).toNat)
      case atStart => exact ⟨0, Nat.zero_le _, rfl, HG, HB, HP, HO⟩
      case round =>
        clear HB HP HO HG
        obtain ⟨m, hm, rfl, HG, HB, HP, HO⟩ := hrel
        by_cases hlt2 : m < ls[un].length
        · have hxm := HND.out un hul ls[un][m] (List.getElem_mem hlt2)
          obtain ⟨kn, hkn⟩ : ∃ kn : Nat, ls[un][m] = kn := ⟨ls[un][m].toNat, by omega⟩
          have hkl : kn < bs.length := by have := HBL.out; omega
          have hul3 : un < bs.length := by have := HBL.out; omega
          have hkl2 : (kn : Int) < (bs.length : Int) := by omega
          have hul4 : (un : Int) < (bs.length : Int) := by omega
          obtain ⟨gr, or, hra, hcr⟩ := HRW.out wr HB.out m hlt2
          subst hra
          rw [hkn] at hcr
          have hln : (markOne un bk (ls[un].take m)).length = bs.length := by rw [markOne_len, HBKL.out]
          have HE : Hid (markOne un bk (ls[un].take (m + 1)) = (markOne un bk (ls[un].take m)).set un (markB (markOne un bk (ls[un].take m)) un || markB (markOne un bk (ls[un].take m)) kn)) := by
            show _ = _
            rw [List.take_succ_eq_append_getElem hlt2, markOne_snoc, hkn]
          generalize markOne un bk (ls[un].take m) = bo at *
          have hcu : wr.cell? ⟨gm, un, none⟩ = some (.bool (markB bo un)) := by rw [HO.out.cellAt un (by omega), Bo_get? (by omega), markB_get (by omega)]
          have hck : wr.cell? ⟨gm, kn, none⟩ = some (.bool (markB bo kn)) := by rw [HO.out.cellAt kn (by omega), Bo_get? (by omega), markB_get (by omega)]
          have hf2 := HO.out.frozenAt un
          have hst := HO.out.stored un (.bool (markB bo un || markB bo kn))
          rw [Bo_set, ← HE.out] at hst
          have HO1 := Lib.hid hst.1
          have HG1 := Lib.hid (grown_trans HG.out hst.2)
          have HB1 := Lib.hid (HB.out.trans (only_below hst.2 hg1 (by rw [HBB.out]; exact HB.out.size)))
          have HP1 := Lib.hid (HP.out.beside hst.2 (by intro e; have := Option.some.inj e; have := HG2.out; omega))
          clear hst HE hln hkn hxm HO HP HB
          generalize markB bo (un : Int) = bu at *
          generalize markB bo (kn : Int) = bn at *
          cases bu with
          | true =>
            go_wp2_with fail
            go_roundw
            case rel => exact ⟨m + 1, by omega, by go_num, HG1, HB1, HP1, HO1⟩
            case measure => simp [intOf]; omega
          | false =>
            rw [Bool.false_or] at HO1 HB1 HP1 HG1
            go_wp2_with fail
            go_roundw
            case rel => exact ⟨m + 1, by omega, by go_num, HG1, HB1, HP1, HO1⟩
            case measure => simp [intOf]; omega
        · rw [List.take_of_length_le (by omega), ← HBK.out] at HO
          go_wp2_with fail
          go_roundw
          case rel => exact ⟨k + 1, by omega, by go_num, HG, HB, HP, HO⟩
          case measure => simp [intOf]; omega
    · rw [List.take_of_length_le (by omega)] at HO
      go_wp2_with fail
      go_end0
      exact ⟨rfl, HB.out, HO.out, HG.out⟩
end Go.Proofs.Ytpjmdljjmknpkaa
