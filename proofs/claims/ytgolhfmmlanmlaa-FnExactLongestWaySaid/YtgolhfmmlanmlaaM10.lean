/- Texts of one claim, joined in their order. -/
import Derived.Maps.AppendAt
import Derived.Test.YtgolhfmmlanmlaaM8
import Derived.Test.YtgolhfmmlanmlaaM9
import Derived.Test.YtgolhfmmlanmlaaM5
import Derived.Test.YtgolhfmmlanmlaaM6

/- Plain mathematics of the longest way: where it stands; no program. -/
namespace Go.Proofs.Ytgolhfmmlanmlaa
open Go.RowKit Pth

/-- Those of the first k that need none. -/
def rootsK (ls : List (List Int)) (k : Nat) : List Int := (upto k).filter (fun i => decide ((needsAt ls i).length = 0))
theorem rootsK_yes {ls : List (List Int)} {k : Nat} (hk : k < ls.length) (h : ls[k].length = 0) : rootsK ls (k + 1) = rootsK ls k ++ [(k : Int)] := by
  unfold rootsK
  rw [upto_succ, List.filter_append]
  simp [needsAt_get hk, List.eq_nil_of_length_eq_zero h]
theorem rootsK_no {ls : List (List Int)} {k : Nat} (hk : k < ls.length) (h : ¬ ls[k].length = 0) : rootsK ls (k + 1) = rootsK ls k := by
  unfold rootsK
  rw [upto_succ, List.filter_append]
  have : (decide ((needsAt ls (k : Int)).length = 0)) = false := by rw [needsAt_get hk]; exact decide_eq_false h
  simp only [List.filter_cons, this, List.filter_nil]
  simp
theorem rootsK_all (ls : List (List Int)) : rootsK ls ls.length = rootsL ls := rfl
theorem nextW_app {tl : Int → Int} {a b : List Int} {x : Int} : nextW tl (a ++ b) x = (nextW tl a x).or (nextW tl b x) := by
  unfold nextW; rw [List.find?_append]
theorem nextW_one {tl : Int → Int} {k x : Int} : nextW tl [k] x = if tl k = x then some k else none := by
  unfold nextW
  rw [List.find?_cons]
  by_cases h : tl k = x
  · simp [h]
  · simp [h]
theorem nextW_nil {tl : Int → Int} {x : Int} : nextW tl [] x = none := rfl
/-- The way is told as far as it goes on from some task, or all of it is. -/
def WayAt (tl : Int → Int) (us : Int → List Int) (ts : Int → Int) (n : Nat) (way mo : List Int) (z : Int) : Prop :=
  (z = -1 ∧ mo = way) ∨ (∃ f : Nat, (0 ≤ z ∧ z < (n : Int)) ∧ mo ++ z :: wayF tl us ts f (us z) (tl z - ts z) = way ∧ tl z ≤ (f : Int) + 1)
theorem WayAt.len {tl ts : Int → Int} {us : Int → List Int} {n : Nat} {way mo : List Int} {z : Int} (h : WayAt tl us ts n way mo z) : mo.length ≤ way.length := by
  rcases h with ⟨_, rfl⟩ | ⟨f, _, rfl, _⟩
  · exact Nat.le_refl _
  · simp
theorem wayF_none {tl ts : Int → Int} {us : Int → List Int} {f : Nat} {cs : List Int} {x : Int} (h : nextW tl cs x = none) : wayF tl us ts f cs x = [] := by
  cases f with
  | zero => rfl
  | succ f => rw [wayF, h]
theorem wayF_some {tl ts : Int → Int} {us : Int → List Int} {f : Nat} {cs : List Int} {x k : Int} (h : nextW tl cs x = some k) : wayF tl us ts (f + 1) cs x = k :: wayF tl us ts f (us k) (x - ts k) := by
  rw [wayF, h]
theorem WayAt.step {ls : List (List Int)} {l ts : List Int} (hg : GoodP ls l) (ht : TimesT ls.length ts) {way mo : List Int} {z : Int} (h : WayAt (atI (tailsL ls l ts)) (usersL ls) (atI ts) ls.length way mo z) (hz : 0 ≤ z) :
    WayAt (atI (tailsL ls l ts)) (usersL ls) (atI ts) ls.length way (mo ++ [z]) ((nextW (atI (tailsL ls l ts)) (usersL ls z) (atI (tailsL ls l ts) z - atI ts z)).getD (-1)) := by
  rcases h with ⟨h1, _⟩ | ⟨f, hr, h1, h2⟩
  · omega
  · rcases hn : nextW (atI (tailsL ls l ts)) (usersL ls z) (atI (tailsL ls l ts) z - atI ts z) with _ | j
    · rw [wayF_none hn] at h1
      exact .inl ⟨rfl, h1⟩
    · obtain ⟨hj, he⟩ := nextW_mem hn
      have hjr := (mem_users.1 hj).1
      have h3 := (tails_at hg ht hjr).1
      have h4 := ht.at hr
      obtain ⟨f', rfl⟩ : ∃ f', f = f' + 1 := ⟨f - 1, by omega⟩
      refine .inr ⟨f', hjr, ?_, ?_⟩
      · rw [wayF, hn] at h1
        rw [← h1, List.append_assoc]
        show mo ++ ([z] ++ j :: wayF _ _ _ f' (usersL ls j) (atI (tailsL ls l ts) j - atI ts j)) = mo ++ z :: (j :: wayF _ _ _ f' (usersL ls j) (atI (tailsL ls l ts) z - atI ts z - atI ts j))
        rw [he]
        rfl
      · show atI (tailsL ls l ts) j ≤ _
        omega
theorem WayAt.less {ls : List (List Int)} {l ts : List Int} (hg : GoodP ls l) (ht : TimesT ls.length ts) {z : Int} (hz : 0 ≤ z ∧ z < (ls.length : Int)) :
    let y := (nextW (atI (tailsL ls l ts)) (usersL ls z) (atI (tailsL ls l ts) z - atI ts z)).getD (-1)
    (if y < 0 then 0 else (atI (tailsL ls l ts) y).toNat) < (atI (tailsL ls l ts) z).toNat := by
  have h1 := tails_at hg ht hz
  have h4 := ht.at hz
  rcases hn : nextW (atI (tailsL ls l ts)) (usersL ls z) (atI (tailsL ls l ts) z - atI ts z) with _ | j
  · show (if (-1 : Int) < 0 then 0 else _) < _
    rw [if_pos (by omega)]
    omega
  · obtain ⟨hj, he⟩ := nextW_mem hn
    have hjr := (mem_users.1 hj).1
    have h3 := (tails_at hg ht hjr).1
    show (if j < 0 then 0 else (atI (tailsL ls l ts) j).toNat) < _
    rw [if_neg (by omega)]
    omega
theorem WayAt.start {ls : List (List Int)} {l ts : List Int} (hg : GoodP ls l) (ht : TimesT ls.length ts) :
    WayAt (atI (tailsL ls l ts)) (usersL ls) (atI ts) ls.length (wayT ls l ts) [] ((nextW (atI (tailsL ls l ts)) (rootsL ls) (endT (tailsL ls l ts))).getD (-1)) := by
  obtain ⟨k, hk⟩ := way_starts hg ht
  obtain ⟨hm, he⟩ := nextW_mem hk
  have hkr := (mem_roots.1 hm).1
  rw [hk]
  refine .inr ⟨999, hkr, ?_, ?_⟩
  · have h := wayF_some (ts := atI ts) (us := usersL ls) (f := 999) hk
    show k :: wayF (atI (tailsL ls l ts)) (usersL ls) (atI ts) 999 (usersL ls k) (atI (tailsL ls l ts) k - atI ts k) = wayT ls l ts
    rw [he]
    exact h.symm
  · show atI (tailsL ls l ts) k ≤ _
    have := (tails_at hg ht hkr).2.2.2
    omega
/-- The same as the program goes: some to go on from, and so much left. -/
structure WayOn (ls : List (List Int)) (l ts way mo cs : List Int) (x : Int) : Prop where
  go : ∃ f : Nat, mo ++ wayF (atI (tailsL ls l ts)) (usersL ls) (atI ts) f cs x = way ∧ x ≤ (f : Int)
  low : 0 ≤ x
  some' : 0 < x → ∃ j, nextW (atI (tailsL ls l ts)) cs x = some j
  range : ∀ k ∈ cs, 0 ≤ k ∧ k < (ls.length : Int)
theorem WayOn.start {ls : List (List Int)} {l ts : List Int} (hg : GoodP ls l) (ht : TimesT ls.length ts) : WayOn ls l ts (wayT ls l ts) [] (rootsL ls) (endT (tailsL ls l ts)) :=
  ⟨⟨1000, rfl, by have := (end_at hg ht).2; omega⟩, by have := (end_at hg ht).1; omega, fun _ => way_starts hg ht, fun _ hk => (mem_roots.1 hk).1⟩
theorem WayOn.next {ls : List (List Int)} {l ts way mo cs : List Int} {x j : Int} (hg : GoodP ls l) (ht : TimesT ls.length ts) (h : WayOn ls l ts way mo cs x) (hx : 0 < x) (hj : nextW (atI (tailsL ls l ts)) cs x = some j) :
    WayOn ls l ts way (mo ++ [j]) (usersL ls j) (x - atI ts j) ∧ (0 ≤ j ∧ j < (ls.length : Int)) ∧ x - atI ts j < x ∧ x ≤ 1000 := by
  obtain ⟨hm, he⟩ := nextW_mem hj
  have hjr := h.range j hm
  have h1 := tails_at hg ht hjr
  have h2 := ht.at hjr
  obtain ⟨f, hf, hxf⟩ := h.go
  obtain ⟨f', rfl⟩ : ∃ f', f = f' + 1 := ⟨f - 1, by omega⟩
  refine ⟨⟨⟨f', ?_, by omega⟩, by omega, fun hp => ?_, fun k hk => (mem_users.1 hk).1⟩, hjr, by omega, by omega⟩
  · rw [wayF, hj] at hf
    rw [← hf, List.append_assoc]
    rfl
  · rw [← he] at hp ⊢
    exact way_goes hg hjr hp
theorem WayOn.done {ls : List (List Int)} {l ts way mo cs : List Int} {x : Int} (hg : GoodP ls l) (ht : TimesT ls.length ts) (h : WayOn ls l ts way mo cs x) (hx : ¬ 0 < x) : mo = way := by
  obtain ⟨f, hf, _⟩ := h.go
  rw [wayF_none (way_ends hg ht h.range (by omega)), List.append_nil] at hf
  exact hf
theorem WayOn.len {ls : List (List Int)} {l ts way mo cs : List Int} {x : Int} (h : WayOn ls l ts way mo cs x) : mo.length ≤ way.length := by
  obtain ⟨f, rfl, _⟩ := h.go
  simp
end Go.Proofs.Ytgolhfmmlanmlaa

/- Walks: the reference's longest way. -/
namespace Go.Proofs.Ytgolhfmmlanmlaa
open Go.RowKit Pth

set_option maxRecDepth 20000 in
set_option maxHeartbeats 16000000 in
theorem specWay_any (ls : List (List Int)) (l ts : List Int) (v u : Value) (w : World) (hst : GraphV w v ls l) (hrow : RowV w u (I ts)) :
    Calls Try.prog 13 #[v, u] w (ListNOk (ifL (timesG ls l ts) (wayT ls l ts)) (ifN (timesG ls l ts) (endT (tailsL ls l ts))) (timesG ls l ts) w) := by
  have HV := Lib.hid hst
  have HR := Lib.hid hrow
  obtain ⟨nv, ov, rfl, h1, h2⟩ := hst
  obtain ⟨an, cn, rfl, hn1, hn2, hat⟩ := h1.lists
  obtain ⟨ao, co, rfl, ho1, ho2, hao⟩ := h2.ints
  obtain ⟨tm, tc, rfl, ht1, ht2, htt⟩ := hrow.ints
  clear h1 h2 hrow
  unfold maxLen at hn2 ho2 ht2
  have HAT := Lib.hid hat
  have HAO := Lib.hid hao
  have HTT := Lib.hid htt
  clear hat hao htt
  obtain ⟨wa, hwa⟩ : ∃ wa, wa = w.alloc (.cells #[.slice an ls.length cn, .slice ao l.length co] 26) := ⟨_, rfl⟩
  have P0 : Hid (Blk2 wa w.heap.size 26 (.slice an ls.length cn) (.slice ao l.length co)) := by rw [hwa]; exact Blk2.new
  have HA : Hid (Below w.heap.size w wa) := by rw [hwa]; exact (Below.refl w.heap.size w).alloc (Nat.le_refl _) _
  have hsa : wa.heap.size = w.heap.size + 1 := by rw [hwa]; simp
  have HSA := Lib.hid hsa
  have hsz : w.heap.size < wa.heap.size := by omega
  have HWA := Lib.hid hwa
  obtain ⟨c0, c1⟩ := P0.out.cells
  have HC := l10Times_any ls l ts _ _ wa (HV.out.below HA.out) (HR.out.below HA.out)
  clear hwa hsa
  rcases hT : timesG ls l ts with _ | _
  · rw [hT] at HC
    have HCC := Lib.hid HC
    clear HC hT
    go_enter Try.func13, Try.ntmps13
    go_wp2_with fail
    rw [← HWA.out]
    refine HCC.out.mono ?_
    rintro e w1 ⟨rfl, hb1⟩
    have HB1 := Lib.hid (bth HA.out hb1 (Nat.le_refl _))
    clear hb1 c0 c1
    go_wp2_with fail
    go_ret3
    exact ⟨_, rfl, none_ownZ _ _ _, HB1.out⟩
  · rw [hT] at HC
    have HCC := Lib.hid HC
    obtain ⟨hG, hTT⟩ := timesG_yes hT
    have HG := Lib.hid hG
    have HTM := Lib.hid hTT
    clear HC hT hG hTT
    go_enter Try.func13, Try.ntmps13
    go_wp2_with fail
    rw [← HWA.out]
    refine HCC.out.mono ?_
    rintro e w1 ⟨rfl, hb1⟩
    have HB1 := Lib.hid (bth HA.out hb1 (Nat.le_refl _))
    have P1 := Lib.hid (P0.out.below hb1 hsz)
    have hsz1 := Nat.lt_of_lt_of_le hsz hb1.size
    obtain ⟨d0, d1⟩ := P1.out.cells
    have HU2 := Lib.hid (l10Tails_any ls l ts _ _ w1 (HV.out.below HB1.out) (HR.out.below HB1.out) HG.out HTM.out)
    clear hb1 c0 c1
    go_wp2_with fail
    refine HU2.out.mono ?_
    rintro e w2 ⟨v2, rfl, ho2', hb2⟩
    have HB2 := Lib.hid (bth HB1.out hb2 (Nat.le_refl _))
    have P2 := Lib.hid (P1.out.below hb2 hsz1)
    have hsz2 := Nat.lt_of_lt_of_le hsz1 hb2.size
    have HEE := Lib.hid (l10End_any (tailsL ls l ts) v2 w2 (RowV.of_own ho2'))
    have HTL := Lib.hid (RowV.of_own ho2')
    obtain ⟨xa, xc, hv2, hx1, hx2, hxt⟩ := (RowV.of_own ho2').ints
    rw [tailsL_len] at hv2 hx1
    subst hv2
    unfold maxLen at hx2
    have HLT := Lib.hid hxt
    have HXL := Lib.hid (tailsL_len ls l ts)
    have HYL := Lib.hid HTM.out.len
    have h10 := HG.out.high
    have HWS := Lib.hid (WayAt.start HG.out.toP HTM.out)
    obtain ⟨E, hE⟩ : ∃ E, E = endT (tailsL ls l ts) := ⟨_, rfl⟩
    rw [← hE] at HEE HWS ⊢
    have HEQ := Lib.hid hE
    clear ho2' hb2 d0 d1 hxt hE
    go_wp2_with fail
    refine HEE.out.mono ?_
    rintro e w3 ⟨rfl, rfl⟩
    go_wp2_with fail
    go_loop [9, 26] (fun q i => ∃ k : Nat, k ≤ ts.length ∧ i = .int .i64 k ∧ Hid (q = .int .i64 ((nextW (atI (tailsL ls l ts)) (rootsK ls k) E).getD (-1)))) (fun _ i => ts.length - (intOf i).toNat)
    case atStart => exact ⟨0, Nat.zero_le _, rfl, rfl⟩
    case round =>
      obtain ⟨k, hk, rfl, HQ⟩ := hrel
      have hq := HQ.out
      clear HQ
      subst hq
      by_cases hlt : k < ts.length
      · have hkn : k < ls.length := by rw [← HYL.out]; exact hlt
        have hkn2 : (k : Int) < (ls.length : Int) := by omega
        obtain ⟨e0, e1⟩ := P2.out.cells
        obtain ⟨g1, o1, a2, c2, hgn, hg1, hcell1, hrow⟩ := HAT.out k hkn
        subst hgn
        have hcn : w3.cell? ⟨g1, o1 + k, none⟩ = some (.slice a2 ls[k].length c2) := (HB2.out.cell (p := ⟨g1, o1 + k, none⟩) hg1).trans hcell1
        have hkx : k < (tailsL ls l ts).length := by rw [HXL.out]; exact hkn
        obtain ⟨g, o, hgo, hg, hcell0⟩ := HLT.out k hkx
        subst hgo
        have hcx : w3.cell? ⟨g, o + k, none⟩ = some (.int .i64 (atI (tailsL ls l ts) (k : Int))) := by rw [hcell0, atI_get hkx]
        rcases hn : nextW (atI (tailsL ls l ts)) (rootsK ls k) E with _ | j
        · by_cases hy : ls[k].length = 0
          · have HS := Lib.hid (rootsK_yes hkn hy)
            have hy1 : ((ls[k].length : Int) == 0) = true := by simp [hy]
            by_cases ht : atI (tailsL ls l ts) (k : Int) = E
            · have ht1 : (atI (tailsL ls l ts) (k : Int) == E) = true := by simp [ht]
              have HN : Hid ((nextW (atI (tailsL ls l ts)) (rootsK ls (k + 1)) E).getD (-1) = (k : Int)) := by show _ = _; rw [HS.out, nextW_app, hn, nextW_one, if_pos ht]; rfl
              clear hcell0 hcell1 hrow hn hy ht hkx HS
              generalize ls[k].length = n1 at *
              generalize atI (tailsL ls l ts) (k : Int) = x at *
              show Code.wp _ _ _ _ _
              simp only [Option.getD_none]
              go_wp2_with fail
              go_round
              case rel => exact ⟨k + 1, by omega, by go_num, by show _ = _; rw [HN.out]⟩
              case measure => simp [intOf]; omega
            · have ht1 : (atI (tailsL ls l ts) (k : Int) == E) = false := by simp [ht]
              have HN : Hid ((nextW (atI (tailsL ls l ts)) (rootsK ls (k + 1)) E).getD (-1) = -1) := by show _ = _; rw [HS.out, nextW_app, hn, nextW_one, if_neg ht]; rfl
              clear hcell0 hcell1 hrow hn hy ht hkx HS
              generalize ls[k].length = n1 at *
              generalize atI (tailsL ls l ts) (k : Int) = x at *
              simp only [Option.getD_none]
              go_wp2_with fail
              go_round
              case rel => exact ⟨k + 1, by omega, by go_num, by show _ = _; rw [HN.out]⟩
              case measure => simp [intOf]; omega
          · have HS := Lib.hid (rootsK_no hkn hy)
            have hy1 : ((ls[k].length : Int) == 0) = false := by simp only [beq_eq_false_iff_ne, ne_eq]; omega
            have HN : Hid ((nextW (atI (tailsL ls l ts)) (rootsK ls (k + 1)) E).getD (-1) = -1) := by show _ = _; rw [HS.out, hn]; rfl
            clear hcell0 hcell1 hrow hn hy hkx HS
            generalize ls[k].length = n1 at *
            simp only [Option.getD_none]
            go_wp2_with fail
            go_round
            case rel => exact ⟨k + 1, by omega, by go_num, by show _ = _; rw [HN.out]⟩
            case measure => simp [intOf]; omega
        · have hjm := (nextW_mem hn).1
          have hj0 : 0 ≤ j := by
            unfold rootsK at hjm
            exact (mem_upto.1 (List.mem_filter.1 hjm).1).1
          have hj1 : decide (j < 0) = false := by simp; omega
          have HN : Hid ((nextW (atI (tailsL ls l ts)) (rootsK ls (k + 1)) E).getD (-1) = j) := by
            show _ = _
            by_cases hy : ls[k].length = 0
            · rw [rootsK_yes hkn hy, nextW_app, hn]; rfl
            · rw [rootsK_no hkn hy, hn]; rfl
          clear hcell0 hcell1 hrow hn hkx hjm hcn hcx e0 e1
          simp only [Option.getD_some]
          go_wp2_with fail
          go_round
          case rel => exact ⟨k + 1, by omega, by go_num, by show _ = _; rw [HN.out]⟩
          case measure => simp [intOf]; omega
      · have hkl : k = ls.length := by rw [← HYL.out]; omega
        rw [show rootsK ls k = rootsL ls by rw [hkl]; rfl]
        have HMO := HWS
        have HUS := Lib.hid (fun W (h : Below w.heap.size w W) (t : Int) => l5Users_any ls l t _ W (HV.out.below h) h10)
        generalize (nextW (atI (tailsL ls l ts)) (rootsL ls) E).getD (-1) = z0 at *
        clear hkl HWS
        go_wp2_with fail
        go_loopw [9, 11] (fun a q wr => ∃ (z : Int) (mo : List Int), a = .int .i64 z ∧ Hid (WayAt (atI (tailsL ls l ts)) (usersL ls) (atI ts) ls.length (wayT ls l ts) mo z) ∧ Hid (Below w3.heap.size w3 wr) ∧ Hid (wr.ownsRow w3.heap.size 3 1 q mo.length (I mo))) (fun a _ _ => if intOf a < 0 then 0 else (atI (tailsL ls l ts) (intOf a)).toNat)
        case atStart => exact ⟨z0, [], rfl, HMO, Below.refl _ _, none_ownZ _ _ _⟩
        case round =>
          clear HMO
          obtain ⟨z, mo, rfl, HMO, HB, HN⟩ := hrel
          have hbs := HB.out.size
          by_cases hz : 0 ≤ z
          · have hzr : 0 ≤ z ∧ z < (ls.length : Int) := by
              rcases HMO.out with ⟨h1, _⟩ | ⟨f, h1, _⟩
              · omega
              · exact h1
            have hge : decide (z ≥ 0) = true := by simp; omega
            obtain ⟨zn, rfl⟩ : ∃ zn : Nat, z = zn := ⟨z.toNat, by omega⟩
            have HST := Lib.hid (HMO.out.step HG.out.toP HTM.out hz)
            have HLS := Lib.hid (WayAt.less HG.out.toP HTM.out hzr)
            have HNA := Lib.hid (own_Z HN.out)
            have hIl : (I mo).length ≤ 1000000 := by rw [I_len]; have := HMO.out.len; have := wayT_len ls l ts; omega
            clear hz
            go_wp2_with (at_builtin; refine wpAppOne elemI rfl _ _ rfl w3.heap.size _ (I mo) rfl HNA.out _ rfl rfl rfl hIl HB.out.size ?_; intro v7 w7 hown7 hg7; have HN7 := Lib.hid (own_Z2 hown7); have HB7 := Lib.hid (HB.out.trans (below_own HNA.out hg7 HB.out.size)); clear hown7 hg7; obtain ⟨f0, f1⟩ := (P2.out.below HB7.out hsz2).cells)
            refine (HUS.out w7 (bth HB2.out HB7.out (Nat.le_refl _)) (zn : Int)).mono ?_
            rintro e w8 ⟨v8, rfl, ho8, hb8⟩
            obtain ⟨ya, yc, hv8, hy1, hy2, hyt⟩ := (RowV.of_own ho8).ints
            subst hv8
            unfold maxLen at hy2
            have HUT := Lib.hid hyt
            have K8 := Lib.hid (bth HB7.out hb8 (Nat.le_refl _))
            have HN8 := Lib.hid (own_below HN7.out hb8)
            have HUR : Hid (∀ x ∈ usersL ls (zn : Int), 0 ≤ x ∧ x < (ls.length : Int)) := fun x hx => (mem_users.1 hx).1
            have hzl : zn < ls.length := by omega
            have hzl2 : (zn : Int) < (ls.length : Int) := by omega
            have hzt : zn < ts.length := by rw [HYL.out]; exact hzl
            have hzt2 : (zn : Int) < (ts.length : Int) := by omega
            have hzx : zn < (tailsL ls l ts).length := by rw [HXL.out]; exact hzl
            obtain ⟨tg, tf, hto, htg, htc0⟩ := HTT.out zn hzt
            obtain ⟨xg, xo, hxo, hxg, hxc0⟩ := HLT.out zn hzx
            subst hto hxo
            have HTC : Hid (∀ W, Below w8.heap.size w8 W → W.cell? ⟨tg, tf + zn, none⟩ = some (.int .i64 (atI ts (zn : Int)))) := fun W h => by rw [(bth HB2.out (bth K8.out h (Nat.le_refl _)) (Nat.le_refl _)).cell (p := ⟨tg, tf + zn, none⟩) htg, htc0, atI_get hzt]
            have HXC : Hid (∀ (n : Nat), n < ls.length → ∀ W, Below w8.heap.size w8 W → W.cell? ⟨xg, xo + n, none⟩ = some (.int .i64 (atI (tailsL ls l ts) (n : Int)))) := fun n hn W h => by
              have hnx : n < (tailsL ls l ts).length := by rw [HXL.out]; exact hn
              obtain ⟨xg', xo', hA, hxg', hxc'⟩ := HLT.out n hnx
              obtain ⟨rfl, rfl⟩ := addr_inj hA
              rw [(bth K8.out h (Nat.le_refl _)).cell (p := ⟨xg, xo + n, none⟩) hxg', hxc', atI_get hnx]
            have hsub : IntKind.i64.wrap (atI (tailsL ls l ts) (zn : Int) - atI ts (zn : Int)) = atI (tailsL ls l ts) (zn : Int) - atI ts (zn : Int) := by
              have := tails_at HG.out.toP HTM.out hzr
              have := HTM.out.at hzr
              rw [IntKind.wrap_i64]; omega
            have HYTC : Hid (∀ (m : Nat) (hm : m < (usersL ls (zn : Int)).length) W, Below w8.heap.size w8 W → ∃ g o, ya = some ⟨g, o, none⟩ ∧ W.cell? ⟨g, o + m, none⟩ = some (.int .i64 (usersL ls (zn : Int))[m])) := fun m hm W h => by
              obtain ⟨g, o, h1, h2, h3⟩ := HUT.out m hm
              exact ⟨g, o, h1, (h.cell (p := ⟨g, o + m, none⟩) h2).trans h3⟩
            clear ho8 hb8 hyt f0 f1 htc0 hxc0 HUT
            obtain ⟨us, hus⟩ : ∃ us, us = usersL ls (zn : Int) := ⟨_, rfl⟩
            rw [← hus] at HST HLS HUR HYTC hy1 ⊢
            have HUE := Lib.hid hus
            clear hus
            obtain ⟨lf, hlf⟩ : ∃ lf, atI (tailsL ls l ts) (zn : Int) - atI ts (zn : Int) = lf := ⟨_, rfl⟩
            rw [hlf] at HST HLS
            have hsub2 := hsub.trans hlf
            clear hsub
            have HTZ := HXC.out zn hzl
            clear hlf
            generalize htz : atI (tailsL ls l ts) (zn : Int) = tz at *
            have HTE := Lib.hid htz
            clear htz
            generalize atI ts (zn : Int) = sz at *
            have HTZ2 := Lib.hid HTZ
            clear HTZ
            go_wp2_with fail
            go_loopw [12, 60] (fun q i wz => ∃ m : Nat, m ≤ us.length ∧ i = .int .i64 (m : Int) ∧ Hid (q = .int .i64 ((nextW (atI (tailsL ls l ts)) (us.take m) lf).getD (-1))) ∧ Hid (Below w8.heap.size w8 wz)) (fun _ i _ => us.length - (intOf i).toNat)
            case atStart => exact ⟨0, Nat.zero_le _, rfl, rfl, Below.refl _ _⟩
            case round =>
              obtain ⟨m, hm, rfl, HQ, HZ⟩ := hrel
              have hq := HQ.out
              clear HQ
              subst hq
              by_cases hlt2 : m < us.length
              · obtain ⟨g, o, hgo, hcell⟩ := HYTC.out m hlt2 wr HZ.out
                subst hgo
                have hxr := HUR.out us[m] (List.getElem_mem hlt2)
                obtain ⟨kn, hkn⟩ : ∃ kn : Nat, us[m] = kn := ⟨us[m].toNat, by omega⟩
                have hkl : kn < ls.length := by omega
                have hkl2 : (kn : Int) < (ls.length : Int) := by omega
                rw [hkn] at hcell
                have hck := HXC.out kn hkl wr HZ.out
                have hcz := HTZ2.out wr HZ.out
                have hct := HTC.out wr HZ.out
                rcases hn : nextW (atI (tailsL ls l ts)) (us.take m) lf with _ | j
                · by_cases ht : atI (tailsL ls l ts) (kn : Int) = lf
                  · have ht1 : (atI (tailsL ls l ts) (kn : Int) == lf) = true := by simp [ht]
                    have HNX : Hid ((nextW (atI (tailsL ls l ts)) (us.take (m + 1)) lf).getD (-1) = (kn : Int)) := by show _ = _; rw [List.take_succ_eq_append_getElem hlt2, nextW_app, hn, nextW_one, hkn, if_pos ht]; rfl
                    clear hn ht hkn hxr
                    generalize atI (tailsL ls l ts) (kn : Int) = x at *
                    simp only [Option.getD_none]
                    go_wp2_with fail
                    go_region
                    all_goals
                      go_wp2_with fail
                      go_roundw
                      case rel => exact ⟨m + 1, by omega, by go_num, by show _ = _; rw [HNX.out], Lib.hid (Below.drew HZ.out)⟩
                      case measure => simp [intOf]; omega
                  · have ht1 : (atI (tailsL ls l ts) (kn : Int) == lf) = false := by simp [ht]
                    have HNX : Hid ((nextW (atI (tailsL ls l ts)) (us.take (m + 1)) lf).getD (-1) = -1) := by show _ = _; rw [List.take_succ_eq_append_getElem hlt2, nextW_app, hn, nextW_one, hkn, if_neg ht]; rfl
                    clear hn ht hkn hxr
                    generalize atI (tailsL ls l ts) (kn : Int) = x at *
                    simp only [Option.getD_none]
                    go_wp2_with fail
                    go_region
                    all_goals
                      go_wp2_with fail
                      go_roundw
                      case rel => exact ⟨m + 1, by omega, by go_num, by show _ = _; rw [HNX.out], Lib.hid (Below.drew HZ.out)⟩
                      case measure => simp [intOf]; omega
                · have hjm := HUR.out j (List.mem_of_mem_take (nextW_mem hn).1)
                  have hj1 : decide (j < 0) = false := by simp; omega
                  have HNX : Hid ((nextW (atI (tailsL ls l ts)) (us.take (m + 1)) lf).getD (-1) = j) := by show _ = _; rw [List.take_succ_eq_append_getElem hlt2, nextW_app, hn]; rfl
                  clear hn hkn hxr hjm hck hcz hct
                  simp only [Option.getD_some]
                  go_wp2_with fail
                  go_region
                  all_goals
                    go_wp2_with fail
                    go_roundw
                    case rel => exact ⟨m + 1, by omega, by go_num, by show _ = _; rw [HNX.out], Lib.hid (Below.drew HZ.out)⟩
                    case measure => simp [intOf]; omega
              · have he : us.take m = us := List.take_of_length_le (by omega)
                rw [he]
                clear he
                go_wp2_with fail
                go_roundw
                case rel => exact ⟨_, mo ++ [(zn : Int)], rfl, HST, Lib.hid (bth K8.out HZ.out (Nat.le_refl _)), Lib.hid (own_below HN8.out HZ.out)⟩
                case measure =>
                  have := HLS.out
                  show (if (nextW (atI (tailsL ls l ts)) us lf).getD (-1) < 0 then 0 else (atI (tailsL ls l ts) ((nextW (atI (tailsL ls l ts)) us lf).getD (-1))).toNat) < (if (zn : Int) < 0 then 0 else (atI (tailsL ls l ts) (zn : Int)).toNat)
                  rw [if_neg (show ¬ ((zn : Int) < 0) by omega), HTE.out]
                  exact this
          · obtain ⟨rfl, rfl⟩ : z = -1 ∧ mo = wayT ls l ts := by
              rcases HMO.out with h | ⟨f, h1, _⟩
              · exact h
              · omega
            have HBZ := Lib.hid (bth HB2.out HB.out (Nat.le_refl _))
            have HO := Lib.hid (own_base HN.out HB2.out.size)
            clear HN HB hz
            go_wp2_with fail
            go_ret3
            obtain rfl := HEQ.out
            exact ⟨_, rfl, HO.out, HBZ.out⟩

end Go.Proofs.Ytgolhfmmlanmlaa

/- Walks: the greatest of all, two lists taken pair by pair, the program's latest ends and slack. -/
namespace Go.Proofs.Ytgolhfmmlanmlaa
open Go.RowKit Pth

theorem Blk1.setE {w : World} {b t : Nat} {x : Value} (h : Blk1 w b t x) (u : Value) : Blk1 (w.setCell ⟨b, 0, none⟩ u) b t u := heap_setCell_same w b 0 _ t u h

set_option maxRecDepth 20000 in
set_option maxHeartbeats 8000000 in
theorem max_any (l : List Int) (v : Value) (w : World) (hrow : RowV w v (I l)) (hne : 0 < l.length) (h0 : ∀ x ∈ l, 0 ≤ x) :
    Calls Try.prog 73 #[v] w fun e w' => e = .returned (.int .i64 (endT l)) ∧ w' = w := by
  obtain ⟨a, cap, rfl, hc1, hc2, hat⟩ := hrow.ints
  clear hrow
  unfold maxLen at hc2
  have HAT := Lib.hid hat
  obtain ⟨g, o, rfl, hg, hcell0⟩ := hat 0 hne
  have hcell1 : w.cell? ⟨g, o, none⟩ = some (.int .i64 l[0]) := hcell0
  have h1 : Hid (endT (l.take 1) = l[0]) := by
    show _ = _
    have := h0 l[0] (List.getElem_mem hne)
    rw [List.take_succ_eq_append_getElem hne, List.take_zero, endT_snoc]
    show (if l[0] > 0 then l[0] else 0) = l[0]
    split <;> omega
  have hd : decide ((l.length : Int) < 1) = false := by simp; omega
  have hl0 : (0 : Int) < (l.length : Int) := by omega
  clear hat h0
  go_enter Try.func73, Try.ntmps73
  go_wp2_with fail
  clear hcell0 hcell1
  go_loop [3, 4] (fun q i => ∃ k : Nat, 1 ≤ k ∧ k ≤ l.length ∧ i = .int .i64 k ∧ Hid (q = .int .i64 (endT (l.take k)))) (fun _ i => l.length - (intOf i).toNat)
  case atStart => exact ⟨1, Nat.le_refl _, hne, rfl, by show _ = _; rw [h1.out]⟩
  case round =>
    obtain ⟨k, hk0, hk, rfl, HQ⟩ := hrel
    have hq := HQ.out
    clear HQ
    subst hq
    by_cases hlt : k < l.length
    · obtain ⟨g', o', hA, hg', hcell⟩ := HAT.out k hlt
      obtain ⟨rfl, rfl⟩ := addr_inj hA
      have hltz : (k : Int) < (l.length : Int) := by omega
      obtain ⟨r, hr⟩ : ∃ r, endT (l.take (k + 1)) = r := ⟨_, rfl⟩
      have hmx : max (endT (l.take k)) l[k] = r := by
        rw [← hr, List.take_succ_eq_append_getElem hlt, endT_snoc, Int.max_def]
        split <;> split <;> omega
      have HRE := Lib.hid hr
      clear hr hA h1
      generalize endT (l.take k) = q at *
      generalize l[k] = x at *
      go_wp2_with fail
      go_round
      case rel => exact ⟨k + 1, by omega, by omega, by go_num, by show _ = _; rw [HRE.out]⟩
      case measure => simp [intOf]; omega
    · have he : l.take k = l := List.take_of_length_le (by omega)
      have hltz : ¬ ((k : Int) < (l.length : Int)) := by omega
      rw [he]
      clear he h1
      go_wp2_with fail
      go_ret
      exact ⟨rfl, rfl⟩

set_option maxRecDepth 20000 in
set_option maxHeartbeats 8000000 in
theorem endOfAll_any (l : List Int) (v : Value) (w : World) (hrow : RowV w v (I l)) (hne : 0 < l.length) (h0 : ∀ x ∈ l, 0 ≤ x) :
    Calls Try.prog 42 #[v] w fun e w' => e = .returned (.int .i64 (endT l)) ∧ w' = w := by
  have HC := Lib.hid (max_any l v w hrow hne h0)
  obtain ⟨a, cap, rfl, _⟩ := hrow.ints
  clear hrow h0
  go_enter Try.func42, Try.ntmps42
  go_wp2_with fail
  refine HC.out.mono ?_
  rintro e w1 ⟨rfl, rfl⟩
  go_wp2_with fail
  go_ret
  exact ⟨rfl, rfl⟩
theorem latest1_any (E x y r : Int) (b : Nat) (w : World) (hb : w.cell? ⟨b, 0, none⟩ = some (.int .i64 E)) (hr : IntKind.i64.wrap (IntKind.i64.wrap (E - x) + y) = r) :
    Calls Try.prog 56 #[.int .i64 x, .int .i64 y, .pointer (some ⟨b, 0, none⟩)] w fun e w' => e = .returned (.int .i64 r) ∧ w' = w := by
  obtain ⟨d, hd⟩ : ∃ d, IntKind.i64.wrap (E - x) = d := ⟨_, rfl⟩
  rw [hd] at hr
  go_enter Try.func56, Try.ntmps56
  go_wp2_with fail
  go_ret
  exact ⟨rfl, rfl⟩
theorem slack1_any (x y r : Int) (w : World) (hr : IntKind.i64.wrap (x - y) = r) :
    Calls Try.prog 55 #[.int .i64 x, .int .i64 y] w fun e w' => e = .returned (.int .i64 r) ∧ w' = w := by
  go_enter Try.func55, Try.ntmps55
  go_wp2_with fail
  go_ret
  exact ⟨rfl, rfl⟩

set_option maxRecDepth 20000 in
set_option maxHeartbeats 8000000 in
theorem pairLatest_any (n : Nat) (la lb m : List Int) (E : Int) (gb : Nat) (v1 v2 : Value) (w : World) (h1 : RowV w v1 (I la)) (h2 : RowV w v2 (I lb)) (ha : la.length = n) (hb : lb.length = n) (hm : m.length = n) (h10 : n ≤ 1000) (hf : (∀ k : Nat, k < n → IntKind.i64.wrap (IntKind.i64.wrap (E - atI la (k : Int)) + atI lb (k : Int)) = atI m (k : Int)) ∧ Blk1 w gb 3 (.int .i64 E) ∧ gb < w.heap.size) :
    Calls Try.prog 54 #[v1, v2, .func (.func 56) #[] #[.pointer (some ⟨gb, 0, none⟩)]] w (IntsPost w.heap.size m w) := by
  obtain ⟨aa, ca, hv1, ha1, ha2, hat⟩ := h1.ints
  obtain ⟨ab, cb, hv2, hb1, hb2, hbt⟩ := h2.ints
  rw [ha] at hv1 ha1
  rw [hb] at hv2 hb1
  subst hv1 hv2
  unfold maxLen at ha2 hb2
  have HAT := Lib.hid hat
  have HBT := Lib.hid hbt
  have HA := Lib.hid ha
  have HB := Lib.hid hb
  have HM := Lib.hid hm
  have HF := Lib.hid hf
  clear hat hbt h1 h2 ha hb hm hf
  obtain ⟨csI, hcI, mI⟩ := make_alloc elemI rfl n (by omega)
  have hH := (own_of_heap (w := w.alloc (.cells csI 3)) (B := w.heap.size) (heap_alloc_new w _) (Nat.le_refl _) hcI (by simp) (show n ≤ maxLen by unfold maxLen; omega))
  have HB0 : Hid (Below w.heap.size w (w.alloc (.cells csI 3))) := (Below.refl w.heap.size w).alloc (Nat.le_refl _) _
  have e0 : List.replicate n (Value.int .i64 0) = I (m.take 0 ++ List.replicate (n - 0) 0) := by simp [I]
  rw [e0] at hH
  have HO0 := Lib.hid hH
  obtain ⟨w2, hw2⟩ : ∃ w2, w2 = w.alloc (.cells csI 3) := ⟨_, rfl⟩
  rw [← hw2] at HO0 HB0
  have HW2 := Lib.hid hw2
  clear hcI hH e0 hw2
  go_enter Try.func54, Try.ntmps54
  go_wp2_with fail
  rw [← HW2.out]
  clear mI HW2
  go_loopw [14] (fun i wr => ∃ k : Nat, k ≤ n ∧ i = .int .i64 (k : Int) ∧ Hid (wr.ownsRow w.heap.size 3 1 (.slice (some ⟨w.heap.size, 0, none⟩) n n) n (I (m.take k ++ List.replicate (n - k) 0))) ∧ Hid (Below w.heap.size w wr)) (fun i _ => n - (intOf i).toNat)
  case atStart => exact ⟨0, Nat.zero_le _, rfl, HO0, HB0⟩
  case round =>
    clear HO0 HB0
    obtain ⟨k, hk, rfl, HO, HBW⟩ := hrel
    by_cases hlt : k < n
    · have hka : k < la.length := by rw [HA.out]; exact hlt
      have hkb : k < lb.length := by rw [HB.out]; exact hlt
      have hkm : k < m.length := by rw [HM.out]; exact hlt
      obtain ⟨g, o, hgo, hg, hcell0⟩ := HAT.out k hka
      subst hgo
      obtain ⟨g1, o1, hgo1, hg1, hcell1⟩ := HBT.out k hkb
      subst hgo1
      have hltz : (k : Int) < (n : Int) := by omega
      have hcx : wr.cell? ⟨g, o + k, none⟩ = some (.int .i64 (atI la (k : Int))) := by rw [HBW.out.cell (p := ⟨g, o + k, none⟩) hg, hcell0, atI_get hka]
      have hcy : wr.cell? ⟨g1, o1 + k, none⟩ = some (.int .i64 (atI lb (k : Int))) := by rw [HBW.out.cell (p := ⟨g1, o1 + k, none⟩) hg1, hcell1, atI_get hkb]
      have hml : (m.take k).length = k := by rw [List.length_take, Nat.min_eq_left (by omega)]
      have hfl := fill_one (m.take k) (0 : Int) (atI m (k : Int)) n k hml hlt
      rw [atI_get hkm, ← List.take_succ_eq_append_getElem hkm, ← atI_get hkm] at hfl
      have HC := Lib.hid (fun W (hW : Below wr.heap.size wr W) => latest1_any E (atI la (k : Int)) (atI lb (k : Int)) (atI m (k : Int)) gb W ((HF.out.2.1.below (bth HBW.out hW (Nat.le_refl _)) HF.out.2.2).cell) (HF.out.1 k hlt))
      have hcu : wr.cell? ⟨w.heap.size, k, none⟩ = some (.int .i64 0) := by
        rw [HO.out.cellAt k (by omega), I_append, List.getElem?_append_right (by rw [I_len, hml]; exact Nat.le_refl _), I_len, hml, Nat.sub_self]
        have : n - k = (n - (k + 1)) + 1 := by omega
        rw [this]
        rfl
      have hf2 := HO.out.frozenAt k
      have hst := HO.out.stored k (.int .i64 (atI m (k : Int)))
      rw [I_setE, hfl] at hst
      have HO1 := Lib.hid hst.1
      have HB1 := Lib.hid (HBW.out.trans (only_below hst.2 (Nat.le_refl _) HBW.out.size))
      clear hst hcell0 hcell1 hml hfl HO HBW hka hkb hkm
      generalize atI m (k : Int) = r at *
      generalize atI la (k : Int) = x at *
      generalize atI lb (k : Int) = y at *
      go_wp2_with fail
      go_region_with (go_at_call 56; first | (refine (HC.out _ (Below.refl _ _)).mono ?_; rintro e w9 ⟨rfl, rfl⟩) | (refine (HC.out _ (Below.drew (Below.refl _ _))).mono ?_; rintro e w9 ⟨rfl, rfl⟩))
      all_goals
        go_wp2_with fail
        go_roundw
        case rel => exact ⟨k + 1, by omega, by go_num, HO1, Lib.hid (Below.drew HB1.out)⟩
        case measure => simp [intOf]; omega
    · obtain rfl : k = n := by omega
      have ho := HO.out
      rw [List.take_of_length_le (by rw [HM.out]; omega), Nat.sub_self, List.replicate_zero, List.append_nil] at ho
      have HO2 := Lib.hid ho
      clear ho HO
      go_wp2_with fail
      go_ret
      exact ⟨_, rfl, by rw [HM.out]; exact HO2.out, HBW.out⟩

set_option maxRecDepth 20000 in
set_option maxHeartbeats 8000000 in
theorem pairSlack_any (n : Nat) (la lb m : List Int) (v1 v2 : Value) (w : World) (h1 : RowV w v1 (I la)) (h2 : RowV w v2 (I lb)) (ha : la.length = n) (hb : lb.length = n) (hm : m.length = n) (h10 : n ≤ 1000) (hf : ∀ k : Nat, k < n → IntKind.i64.wrap (atI la (k : Int) - atI lb (k : Int)) = atI m (k : Int)) :
    Calls Try.prog 54 #[v1, v2, .func (.func 55) #[] #[]] w (IntsPost w.heap.size m w) := by
  obtain ⟨aa, ca, hv1, ha1, ha2, hat⟩ := h1.ints
  obtain ⟨ab, cb, hv2, hb1, hb2, hbt⟩ := h2.ints
  rw [ha] at hv1 ha1
  rw [hb] at hv2 hb1
  subst hv1 hv2
  unfold maxLen at ha2 hb2
  have HAT := Lib.hid hat
  have HBT := Lib.hid hbt
  have HA := Lib.hid ha
  have HB := Lib.hid hb
  have HM := Lib.hid hm
  have HF := Lib.hid hf
  clear hat hbt h1 h2 ha hb hm hf
  obtain ⟨csI, hcI, mI⟩ := make_alloc elemI rfl n (by omega)
  have hH := (own_of_heap (w := w.alloc (.cells csI 3)) (B := w.heap.size) (heap_alloc_new w _) (Nat.le_refl _) hcI (by simp) (show n ≤ maxLen by unfold maxLen; omega))
  have HB0 : Hid (Below w.heap.size w (w.alloc (.cells csI 3))) := (Below.refl w.heap.size w).alloc (Nat.le_refl _) _
  have e0 : List.replicate n (Value.int .i64 0) = I (m.take 0 ++ List.replicate (n - 0) 0) := by simp [I]
  rw [e0] at hH
  have HO0 := Lib.hid hH
  obtain ⟨w2, hw2⟩ : ∃ w2, w2 = w.alloc (.cells csI 3) := ⟨_, rfl⟩
  rw [← hw2] at HO0 HB0
  have HW2 := Lib.hid hw2
  clear hcI hH e0 hw2
  go_enter Try.func54, Try.ntmps54
  go_wp2_with fail
  rw [← HW2.out]
  clear mI HW2
  go_loopw [14] (fun i wr => ∃ k : Nat, k ≤ n ∧ i = .int .i64 (k : Int) ∧ Hid (wr.ownsRow w.heap.size 3 1 (.slice (some ⟨w.heap.size, 0, none⟩) n n) n (I (m.take k ++ List.replicate (n - k) 0))) ∧ Hid (Below w.heap.size w wr)) (fun i _ => n - (intOf i).toNat)
  case atStart => exact ⟨0, Nat.zero_le _, rfl, HO0, HB0⟩
  case round =>
    clear HO0 HB0
    obtain ⟨k, hk, rfl, HO, HBW⟩ := hrel
    by_cases hlt : k < n
    · have hka : k < la.length := by rw [HA.out]; exact hlt
      have hkb : k < lb.length := by rw [HB.out]; exact hlt
      have hkm : k < m.length := by rw [HM.out]; exact hlt
      obtain ⟨g, o, hgo, hg, hcell0⟩ := HAT.out k hka
      subst hgo
      obtain ⟨g1, o1, hgo1, hg1, hcell1⟩ := HBT.out k hkb
      subst hgo1
      have hltz : (k : Int) < (n : Int) := by omega
      have hcx : wr.cell? ⟨g, o + k, none⟩ = some (.int .i64 (atI la (k : Int))) := by rw [HBW.out.cell (p := ⟨g, o + k, none⟩) hg, hcell0, atI_get hka]
      have hcy : wr.cell? ⟨g1, o1 + k, none⟩ = some (.int .i64 (atI lb (k : Int))) := by rw [HBW.out.cell (p := ⟨g1, o1 + k, none⟩) hg1, hcell1, atI_get hkb]
      have hml : (m.take k).length = k := by rw [List.length_take, Nat.min_eq_left (by omega)]
      have hfl := fill_one (m.take k) (0 : Int) (atI m (k : Int)) n k hml hlt
      rw [atI_get hkm, ← List.take_succ_eq_append_getElem hkm, ← atI_get hkm] at hfl
      have HC := Lib.hid (fun W (hW : Below wr.heap.size wr W) => (fun _ => slack1_any (atI la (k : Int)) (atI lb (k : Int)) (atI m (k : Int)) W (HF.out k hlt)) hW)
      have hcu : wr.cell? ⟨w.heap.size, k, none⟩ = some (.int .i64 0) := by
        rw [HO.out.cellAt k (by omega), I_append, List.getElem?_append_right (by rw [I_len, hml]; exact Nat.le_refl _), I_len, hml, Nat.sub_self]
        have : n - k = (n - (k + 1)) + 1 := by omega
        rw [this]
        rfl
      have hf2 := HO.out.frozenAt k
      have hst := HO.out.stored k (.int .i64 (atI m (k : Int)))
      rw [I_setE, hfl] at hst
      have HO1 := Lib.hid hst.1
      have HB1 := Lib.hid (HBW.out.trans (only_below hst.2 (Nat.le_refl _) HBW.out.size))
      clear hst hcell0 hcell1 hml hfl HO HBW hka hkb hkm
      generalize atI m (k : Int) = r at *
      generalize atI la (k : Int) = x at *
      generalize atI lb (k : Int) = y at *
      go_wp2_with fail
      go_region_with (go_at_call 55; first | (refine (HC.out _ (Below.refl _ _)).mono ?_; rintro e w9 ⟨rfl, rfl⟩) | (refine (HC.out _ (Below.drew (Below.refl _ _))).mono ?_; rintro e w9 ⟨rfl, rfl⟩))
      all_goals
        go_wp2_with fail
        go_roundw
        case rel => exact ⟨k + 1, by omega, by go_num, HO1, Lib.hid (Below.drew HB1.out)⟩
        case measure => simp [intOf]; omega
    · obtain rfl : k = n := by omega
      have ho := HO.out
      rw [List.take_of_length_le (by rw [HM.out]; omega), Nat.sub_self, List.replicate_zero, List.append_nil] at ho
      have HO2 := Lib.hid ho
      clear ho HO
      go_wp2_with fail
      go_ret
      exact ⟨_, rfl, by rw [HM.out]; exact HO2.out, HBW.out⟩

set_option maxRecDepth 20000 in
set_option maxHeartbeats 8000000 in
theorem implLatest_any (ls : List (List Int)) (l ts : List Int) (v u : Value) (w : World) (hst : GraphV w v ls l) (hrow : RowV w u (I ts)) :
    Calls Try.prog 24 #[v, u] w (ListNOk (ifL (timesG ls l ts) (latestL ls l ts)) (ifN (timesG ls l ts) (endT (tailsL ls l ts))) (timesG ls l ts) w) := by
  have HV := Lib.hid hst
  have HR := Lib.hid hrow
  obtain ⟨nv, ov, rfl, h1, h2⟩ := hst
  obtain ⟨an, cn, rfl, hn1, hn2, hat⟩ := h1.lists
  obtain ⟨ao, co, rfl, ho1, ho2, hao⟩ := h2.ints
  obtain ⟨tm, tc, rfl, ht1, ht2, htt⟩ := hrow.ints
  clear h1 h2 hrow
  unfold maxLen at hn2 ho2 ht2
  have HAT := Lib.hid hat
  have HAO := Lib.hid hao
  have HTT := Lib.hid htt
  clear hat hao htt
  obtain ⟨wa, hwa⟩ : ∃ wa, wa = w.alloc (.cells #[.slice an ls.length cn, .slice ao l.length co] 26) := ⟨_, rfl⟩
  have P0 : Hid (Blk2 wa w.heap.size 26 (.slice an ls.length cn) (.slice ao l.length co)) := by rw [hwa]; exact Blk2.new
  have HA : Hid (Below w.heap.size w wa) := by rw [hwa]; exact (Below.refl w.heap.size w).alloc (Nat.le_refl _) _
  have hsa : wa.heap.size = w.heap.size + 1 := by rw [hwa]; simp
  have HSA := Lib.hid hsa
  have hsz : w.heap.size < wa.heap.size := by omega
  have HWA := Lib.hid hwa
  obtain ⟨c0, c1⟩ := P0.out.cells
  have HC := implTails_any ls l ts _ _ wa (HV.out.below HA.out) (HR.out.below HA.out)
  have hmf : ∀ (fn : Fn) (first cap : Array Value) (w : World), (Instr.makeFunc fn first cap).run Try.prog w = .ok (.func fn first cap) w := fun _ _ _ _ => rfl
  clear hwa hsa
  rcases hT : timesG ls l ts with _ | _
  · rw [hT] at HC
    have HCC := Lib.hid HC
    clear HC hT hmf
    go_enter Try.func24, Try.ntmps24
    go_wp2_with fail
    rw [← HWA.out]
    refine HCC.out.mono ?_
    rintro e w1 ⟨v1, rfl, _, hb1⟩
    have HB1 := Lib.hid (bth HA.out hb1 (Nat.le_refl _))
    clear hb1 c0 c1
    go_wp2_with fail
    go_ret3
    exact ⟨_, rfl, none_ownZ _ _ _, HB1.out⟩
  · rw [hT] at HC
    have HCC := Lib.hid HC
    obtain ⟨hG, hTT⟩ := timesG_yes hT
    have HG := Lib.hid hG
    have HTM := Lib.hid hTT
    clear HC hT hG hTT
    go_enter Try.func24, Try.ntmps24
    go_wp2_with fail
    rw [← HWA.out]
    refine HCC.out.mono ?_
    rintro e w1 ⟨v1, rfl, ho1', hb1⟩
    have HB1 := Lib.hid (bth HA.out hb1 (Nat.le_refl _))
    have HO1 := Lib.hid ho1'
    have hpos : 0 < (tailsL ls l ts).length := by rw [tailsL_len]; exact HG.out.low
    have hnon : ∀ x ∈ tailsL ls l ts, 0 ≤ x := fun x hx => by
      obtain ⟨y, hy, e⟩ := mem_at0 hx
      rw [tailsL_len] at hy
      have := (tails_at HG.out.toP HTM.out hy).1
      omega
    have HE := Lib.hid (endOfAll_any (tailsL ls l ts) v1 w1 (RowV.of_own ho1') hpos hnon)
    have hea := end_at HG.out.toP HTM.out
    have HPW : Hid (∀ k : Nat, k < ls.length → IntKind.i64.wrap (IntKind.i64.wrap (endT (tailsL ls l ts) - atI (tailsL ls l ts) (k : Int)) + atI ts (k : Int)) = atI (latestL ls l ts) (k : Int)) := fun k hk => by
      have hkr : 0 ≤ (k : Int) ∧ (k : Int) < (ls.length : Int) := by omega
      have h1 := latest_at HG.out.toP HTM.out hkr
      have h2 := tails_at HG.out.toP HTM.out hkr
      have h3 := HTM.out.at hkr
      rw [h1.1]
      simp only [IntKind.wrap_i64]
      omega
    have HLN := Lib.hid (tailsL_len ls l ts)
    have HLL := Lib.hid (latestL_len ls l ts)
    have h10 := HG.out.high
    obtain ⟨qa, qc, hq⟩ := own_slice ho1'
    subst hq
    obtain ⟨w5, hw5⟩ : ∃ w5, w5 = w1.alloc (.cells #[.int .i64 (endT (tailsL ls l ts))] 3) := ⟨_, rfl⟩
    have HBX : Hid (Blk1 w5 w1.heap.size 3 (.int .i64 (endT (tailsL ls l ts)))) := by rw [hw5]; exact Blk1.new
    have K5 : Hid (Below w1.heap.size w1 w5) := by rw [hw5]; exact (Below.refl w1.heap.size w1).alloc (Nat.le_refl _) _
    have hs5 : w1.heap.size < w5.heap.size := by rw [hw5]; simp
    have HP := Lib.hid (pairLatest_any ls.length (tailsL ls l ts) ts (latestL ls l ts) (endT (tailsL ls l ts)) w1.heap.size _ _ w5 (RowV.of_own (own_below HO1.out K5.out)) (HR.out.below (bth HB1.out K5.out (Nat.le_refl _))) HLN.out HTM.out.len HLL.out (by omega) ⟨HPW.out, HBX.out, hs5⟩)
    have HW5 := Lib.hid hw5
    clear hb1 c0 c1 ho1' hpos hnon hw5
    generalize endT (tailsL ls l ts) = E at *
    generalize (tailsL ls l ts).length = n1 at *
    go_wp2_with fail
    refine HE.out.mono ?_
    rintro e w2 ⟨rfl, rfl⟩
    go_upto_region 5 with fail
    rw [← HW5.out]
    go_wp2_with fail
    refine HP.out.mono ?_
    rintro e w6 ⟨v6, rfl, ho6, hb6⟩
    have hc6 := (HBX.out.below hb6 hs5).cell
    have HO6 := Lib.hid (own_base ho6 (Nat.le_trans HB1.out.size (Nat.le_of_lt hs5)))
    have HB6 := Lib.hid (bth (bth HB1.out K5.out (Nat.le_refl _)) hb6 (Nat.le_refl _))
    clear ho6 hb6
    go_wp2_with fail
    go_region
    all_goals
      go_wp2_with fail
      go_ret3
      exact ⟨_, rfl, own_below HO6.out (Below.drew (Below.refl _ _)), Below.drew HB6.out⟩

set_option maxRecDepth 20000 in
set_option maxHeartbeats 8000000 in
theorem implSlack_any (ls : List (List Int)) (l ts : List Int) (v u : Value) (w : World) (hst : GraphV w v ls l) (hrow : RowV w u (I ts)) :
    Calls Try.prog 22 #[v, u] w (ListOk (ifL (timesG ls l ts) (slackL ls l ts)) (timesG ls l ts) w) := by
  have HV := Lib.hid hst
  have HR := Lib.hid hrow
  obtain ⟨nv, ov, rfl, h1, h2⟩ := hst
  obtain ⟨an, cn, rfl, hn1, hn2, hat⟩ := h1.lists
  obtain ⟨ao, co, rfl, ho1, ho2, hao⟩ := h2.ints
  obtain ⟨tm, tc, rfl, ht1, ht2, htt⟩ := hrow.ints
  clear h1 h2 hrow
  unfold maxLen at hn2 ho2 ht2
  have HAT := Lib.hid hat
  have HAO := Lib.hid hao
  have HTT := Lib.hid htt
  clear hat hao htt
  obtain ⟨wa, hwa⟩ : ∃ wa, wa = w.alloc (.cells #[.slice an ls.length cn, .slice ao l.length co] 26) := ⟨_, rfl⟩
  have P0 : Hid (Blk2 wa w.heap.size 26 (.slice an ls.length cn) (.slice ao l.length co)) := by rw [hwa]; exact Blk2.new
  have HA : Hid (Below w.heap.size w wa) := by rw [hwa]; exact (Below.refl w.heap.size w).alloc (Nat.le_refl _) _
  have hsa : wa.heap.size = w.heap.size + 1 := by rw [hwa]; simp
  have HSA := Lib.hid hsa
  have hsz : w.heap.size < wa.heap.size := by omega
  have HWA := Lib.hid hwa
  obtain ⟨c0, c1⟩ := P0.out.cells
  have HC := implLatest_any ls l ts _ _ wa (HV.out.below HA.out) (HR.out.below HA.out)
  clear hwa hsa
  rcases hT : timesG ls l ts with _ | _
  · rw [hT] at HC
    have HCC := Lib.hid HC
    clear HC hT
    go_enter Try.func22, Try.ntmps22
    go_wp2_with fail
    rw [← HWA.out]
    refine HCC.out.mono ?_
    rintro e w1 ⟨v1, rfl, _, hb1⟩
    have HB1 := Lib.hid (bth HA.out hb1 (Nat.le_refl _))
    clear hb1 c0 c1
    go_wp2_with fail
    go_ret2
    exact ⟨_, rfl, none_ownZ _ _ _, HB1.out⟩
  · rw [hT] at HC
    have HCC := Lib.hid HC
    obtain ⟨hG, hTT⟩ := timesG_yes hT
    have HG := Lib.hid hG
    have HTM := Lib.hid hTT
    clear HC hT hG hTT
    go_enter Try.func22, Try.ntmps22
    go_wp2_with fail
    rw [← HWA.out]
    refine HCC.out.mono ?_
    rintro e w1 ⟨v1, rfl, ho1', hb1⟩
    have HB1 := Lib.hid (bth HA.out hb1 (Nat.le_refl _))
    have HO1 := Lib.hid ho1'
    obtain ⟨d0, d1⟩ := (P0.out.below hb1 hsz).cells
    have hgr := graph_rows (HV.out.below HB1.out)
    have HU := Lib.hid (longestOver_any ls.length l ts ls _ _ _ w1 hgr.2 hgr.1 (HR.out.below HB1.out) (along_needs HG.out.toP) HTM.out rfl HG.out.high)
    have HPW : Hid (∀ k : Nat, k < ls.length → IntKind.i64.wrap (atI (latestL ls l ts) (k : Int) - atI (endsL ls l ts) (k : Int)) = atI (slackL ls l ts) (k : Int)) := fun k hk => by
      have hkr : 0 ≤ (k : Int) ∧ (k : Int) < (ls.length : Int) := by omega
      have h1 := latest_at HG.out.toP HTM.out hkr
      have h2 := ends_at HG.out.toP HTM.out hkr
      have h3 : atI (slackL ls l ts) (k : Int) = atI (latestL ls l ts) (k : Int) - atI (endsL ls l ts) (k : Int) := atI_map hkr
      rw [h3]
      simp only [IntKind.wrap_i64]
      omega
    have HLL := Lib.hid (latestL_len ls l ts)
    have HLS := Lib.hid (slackL_len ls l ts)
    have h10 := HG.out.high
    obtain ⟨qa, qc, hq⟩ := own_slice ho1'
    subst hq
    clear hb1 c0 c1 ho1' hgr
    generalize (latestL ls l ts).length = n1 at *
    go_wp2_with fail
    refine HU.out.mono ?_
    rintro e w2 ⟨v2, rfl, ho2', hb2⟩
    have ho3 : w2.ownsRow w1.heap.size 3 1 v2 (endsL ls l ts).length (I (endsL ls l ts)) := ho2'
    have HP := Lib.hid (pairSlack_any ls.length (latestL ls l ts) (endsL ls l ts) (slackL ls l ts) _ _ w2 (RowV.of_own (own_below HO1.out hb2)) (RowV.of_own ho3) (latestL_len ls l ts) (endsL_len ls l ts) HLS.out (by omega) HPW.out)
    obtain ⟨ra, rc, hr⟩ := own_slice ho3
    subst hr
    have HB2 := Lib.hid (bth HB1.out hb2 (Nat.le_refl _))
    clear ho2' ho3 hb2 d0 d1
    go_wp2_with fail
    refine HP.out.mono ?_
    rintro e w6 ⟨v6, rfl, ho6, hb6⟩
    have HO6 := Lib.hid (own_base ho6 HB2.out.size)
    have HB6 := Lib.hid (bth HB2.out hb6 (Nat.le_refl _))
    clear ho6 hb6
    go_wp2_with fail
    go_ret2
    exact ⟨_, rfl, HO6.out, HB6.out⟩

end Go.Proofs.Ytgolhfmmlanmlaa

/- An append of one, with where the grown row lies. -/
namespace Go.Proofs.Ytgolhfmmlanmlaa
open Go.RowKit Pth

theorem app_atE (m : List Int) (x : Int) (v : Value) (B : Nat) (w : World) (hown : w.ownsRow B 3 1 v m.length (I m)) (hm : m.length ≤ 1000) (hB : B ≤ w.heap.size) (ty : TypeId) :
    ∃ v' w', (Builtin.append_ #[24, 24] ty #[v, .slice (some ⟨w.heap.size, 0, none⟩) 1 1]).run Try.prog (w.alloc (.cells #[.int .i64 x] 3)) = .ok v' w' ∧ w'.ownsRow B 3 1 v' (m ++ [x]).length (I (m ++ [x])) ∧ w.grownBy w' v.ownBlock ∧ (∀ b, v'.ownBlock = some b → v.ownBlock = some b ∨ w.heap.size ≤ b) := by
  obtain ⟨i0, hi, hz0, hz1, hz2⟩ := info_parts elemI.info
  obtain ⟨v', w', h1, h2, h3, _, h5⟩ := run_append_own_at (P := Try.prog) (w.alloc (.cells #[.int .i64 x] 3)) B 24 ty 3 i0 (.int .i64 0) 1 8 elemI.under hi hz0 hz1 hz2 rfl (by decide) v m.length (I m) (hown.alloc _) ⟨w.heap.size, 0, none⟩ 1 1 [.int .i64 x] (by simp) (fun j u hj => by
      have hj0 : j = 0 := by
        rcases j with _ | j
        · rfl
        · simp at hj
      subst hj0
      simp only [List.getElem?_cons_zero, Option.some.injEq] at hj
      subst hj
      have := one_new w (.int .i64 x) 3 0 (.int .i64 x) rfl
      exact this) (by simp [Value.oneCell']) (by unfold maxLen; omega) (by omega) (by rw [World.size_alloc]; omega)
  refine ⟨v', w', h1, ?_, ?_, ?_⟩
  · have e : I (m ++ [x]) = I m ++ [.int .i64 x] := I_append _ _
    rw [e, List.length_append, List.length_singleton]
    exact h2
  · exact ⟨h3.os, h3.tape, h3.output, Nat.le_trans (by rw [World.size_alloc]; omega) h3.size, fun k hk hne => (h3.block k (by rw [World.size_alloc]; omega) hne).trans (Below.heap_alloc _ _ _ hk)⟩
  · intro b hb
    rcases h5 with h5 | h5
    · exact .inl (by rw [← h5]; exact hb)
    · rw [hb, World.size_alloc] at h5
      have := Option.some.inj h5
      exact .inr (by omega)

theorem wpAppAtE {ops : Array Oper} {rest : List Oper} {o : Oper} {a : Act} {Q : Exit → Act → World → Prop} {w : World} {x : Int} (hgd : o.guard = none) (s u : Operand)
    (ho : o.op = .call { callee := .builtin .append, args := #[s, u], argTypes := #[24, 24] }) (B : Nat) (v : Value) (m : List Int) (hs : a.eval s = v) (hown : w.ownsRow B 3 1 v m.length (I m)) (N : Nat) (hx : a.eval u = .slice (some ⟨N, 0, none⟩) 1 1) (hN : N = w.heap.size)
    (hm : m.length ≤ 1000) (hB : B ≤ w.heap.size)
    (h : ∀ v' w', w'.ownsRow B 3 1 v' (m ++ [x]).length (I (m ++ [x])) → w.grownBy w' v.ownBlock → (∀ b, v'.ownBlock = some b → v.ownBlock = some b ∨ w.heap.size ≤ b) → wpList Try.prog ops Q rest (a.put o.dst v') w') :
    wpList Try.prog ops Q (o :: rest) a (w.alloc (.cells #[.int .i64 x] 3)) := by
  subst hN
  obtain ⟨v', w', h1, h2, h3, h4⟩ := app_atE m x v B w hown hm hB o.type
  exact wpList_runApp hgd s u ho hs hx h1 (h v' w' h2 h3 h4)
end Go.Proofs.Ytgolhfmmlanmlaa

/- Walks: the program's longest way. -/
namespace Go.Proofs.Ytgolhfmmlanmlaa
open Go.RowKit Pth

/-- The place of the first that p holds of, or -1. -/
def FirstP (l : List Int) (p : Int → Bool) (w : World) (e : Ending) (w' : World) : Prop :=
  ∃ i : Int, e = .returned (.int .i64 i) ∧ ((∃ k : Nat, ∃ hk : k < l.length, i = k ∧ p l[k] = true ∧ ∀ x ∈ l.take k, p x = false) ∨ (i = -1 ∧ ∀ x ∈ l, p x = false)) ∧ Below w.heap.size w w'

set_option maxRecDepth 20000 in
set_option maxHeartbeats 8000000 in
theorem indexFirst_any (l : List Int) (p : Int → Bool) (D : Int → Prop) (v fv : Value) (w : World) (hrow : RowV w v (I l)) (ht : TestV w fv D p) (hD : ∀ x ∈ l, D x) :
    Calls Try.prog 74 #[v, fv] w (FirstP l p w) := by
  obtain ⟨a, cap0, rfl, hc1, hc2, hat⟩ := hrow.ints
  obtain ⟨K, cap, rfl, hent, ht⟩ := ht
  have HT := Lib.hid ht
  have HAT := Lib.hid hat
  have HD := Lib.hid hD
  clear hrow hat ht hD
  unfold maxLen at hc2
  go_enter Try.func74, Try.ntmps74
  go_wp2_with fail
  go_loopw [8] (fun i wr => ∃ k : Nat, k ≤ l.length ∧ i = .int .i64 k ∧ Hid (∀ x ∈ l.take k, p x = false) ∧ Hid (Below w.heap.size w wr)) (fun i _ => l.length - (intOf i).toNat)
  case atStart => exact ⟨0, Nat.zero_le _, by go_num, by simp [Hid], Below.refl _ _⟩
  case round =>
    obtain ⟨k, hk, rfl, HO, HB⟩ := hrel
    by_cases hlt : k < l.length
    · obtain ⟨g, o, rfl, hg, hcell0⟩ := HAT.out k hlt
      have hcell : wr.cell? ⟨g, o + k, none⟩ = some (.int .i64 l[k]) := by rw [HB.out.cell (p := ⟨g, o + k, none⟩) hg]; exact hcell0
      have hltz : (k : Int) < (l.length : Int) := by omega
      have HC := HT.out wr HB.out l[k] (HD.out _ (List.getElem_mem hlt))
      clear hcell0
      rcases hb : p l[k] with _ | _
      · have HS : Hid (∀ x ∈ l.take (k + 1), p x = false) := by
          intro x hx
          rw [List.take_succ_eq_append_getElem hlt, List.mem_append, List.mem_singleton] at hx
          rcases hx with hx | rfl
          · exact HO.out x hx
          · exact hb
        rw [hb] at HC
        have HCC := Lib.hid HC
        clear HC hb HO
        generalize l[k] = x at *
        go_wp2_with fail
        refine HCC.out.mono ?_
        rintro e w1 ⟨rfl, hb1⟩
        have HB1 := Lib.hid (bth HB.out hb1 (Nat.le_refl _))
        clear hb1
        go_wp2_with fail
        go_roundw
        case rel => exact ⟨k + 1, by omega, by go_num, HS, HB1⟩
        case measure => simp [intOf]; omega
      · have HS : Hid (∃ k' : Nat, ∃ hk : k' < l.length, (k : Int) = k' ∧ p l[k'] = true ∧ ∀ x ∈ l.take k', p x = false) := ⟨k, hlt, rfl, hb, HO.out⟩
        rw [hb] at HC
        have HCC := Lib.hid HC
        clear HC hb HO
        generalize l[k] = x at *
        go_wp2_with fail
        refine HCC.out.mono ?_
        rintro e w1 ⟨rfl, hb1⟩
        have HB1 := Lib.hid (bth HB.out hb1 (Nat.le_refl _))
        clear hb1
        go_wp2_with fail
        go_ret
        exact ⟨(k : Int), rfl, .inl HS.out, HB1.out⟩
    · have HS : Hid (∀ x ∈ l, p x = false) := by
        have := HO.out
        rwa [List.take_of_length_le (by omega)] at this
      have hltz : ¬ ((k : Int) < (l.length : Int)) := by omega
      clear HO
      go_wp2_with fail
      go_ret
      exact ⟨-1, rfl, .inr ⟨rfl, HS.out⟩, HB.out⟩
theorem find_at {l : List Int} {p : Int → Bool} {k : Nat} (hk : k < l.length) (h : p l[k] = true) (hn : ∀ x ∈ l.take k, p x = false) : l.find? p = some l[k] := by
  conv => lhs; rw [← List.take_append_drop k l]
  rw [List.find?_append, List.find?_eq_none.2 (fun x hx => by rw [hn x hx]; simp), List.drop_eq_getElem_cons hk, List.find?_cons_of_pos h]
  rfl

set_option maxRecDepth 20000 in
set_option maxHeartbeats 8000000 in
theorem firstWhere_any (l : List Int) (p : Int → Bool) (D : Int → Prop) (v fv : Value) (w : World) (hrow : RowV w v (I l)) (ht : TestV w fv D p) (hD : ∀ x ∈ l, D x) (r : Int) (hf : l.find? p = some r) :
    Calls Try.prog 43 #[v, fv] w fun e w' => e = .returned (.int .i64 r) ∧ Below w.heap.size w w' := by
  have HC := Lib.hid (indexFirst_any l p D v fv w hrow ht hD)
  have HF := Lib.hid hf
  obtain ⟨a, cap0, rfl, hc1, hc2, hat⟩ := hrow.ints
  have HAT := Lib.hid hat
  unfold maxLen at hc2
  clear hrow ht hD hat hf
  go_enter Try.func43, Try.ntmps43
  go_wp2_with fail
  refine HC.out.mono ?_
  rintro e w1 ⟨i, rfl, hi, hb1⟩
  rcases hi with ⟨k, hk, rfl, hp, hn⟩ | ⟨rfl, hn⟩
  · obtain ⟨g, o, rfl, hg, hcell0⟩ := HAT.out k hk
    have hcell : w1.cell? ⟨g, o + k, none⟩ = some (.int .i64 l[k]) := by rw [hb1.cell (p := ⟨g, o + k, none⟩) hg]; exact hcell0
    have hltz : (k : Int) < (l.length : Int) := by omega
    have HR : Hid (l[k] = r) := by
      have := HF.out
      rw [find_at hk hp hn] at this
      exact Option.some.inj this
    have HB := Lib.hid hb1
    have hge : decide ((k : Int) ≥ 0) = true := by simp
    clear hcell0 hp hn HC HF hb1
    generalize l[k] = x at *
    go_wp2_with fail
    go_ret
    exact ⟨ret_int HR.out, HB.out⟩
  · have := HF.out
    rw [List.find?_eq_none.2 (fun x hx => by rw [hn x hx]; simp)] at this
    cases this

set_option maxRecDepth 20000 in
set_option maxHeartbeats 8000000 in
theorem root1_any (ls : List (List Int)) (b : Nat) (nv ov : Value) (k : Int) (w : World) (hb : Blk2 w b 26 nv ov) (hn : RowN w nv ls) (hk : 0 ≤ k ∧ k < (ls.length : Int)) :
    Calls Try.prog 41 #[.int .i64 k, .pointer (some ⟨b, 0, none⟩)] w (BoolB (decide ((needsAt ls k).length = 0)) w) := by
  obtain ⟨an, cn, rfl, hn1, hn2, hat⟩ := hn.lists
  unfold maxLen at hn2
  obtain ⟨kn, rfl⟩ : ∃ kn : Nat, k = kn := ⟨k.toNat, by omega⟩
  have hkl : kn < ls.length := by omega
  have hkl2 : (kn : Int) < (ls.length : Int) := by omega
  obtain ⟨g1, o1, a2, c2, rfl, hg1, hcell1, _⟩ := hat kn hkl
  have c0 := hb.cells.1
  rw [needsAt_get hkl]
  clear hat hb hn
  by_cases h : ls[kn].length = 0
  · have h1 : ((ls[kn].length : Int) == 0) = true := by simp only [beq_iff_eq]; omega
    rw [decide_eq_true h]
    clear h
    generalize ls[kn].length = n1 at *
    go_enter Try.func41, Try.ntmps41
    go_wp2_with fail
    go_ret
    exact ⟨rfl, Below.refl _ _⟩
  · have h1 : ((ls[kn].length : Int) == 0) = false := by simp only [beq_eq_false_iff_ne, ne_eq]; omega
    rw [decide_eq_false h]
    clear h
    generalize ls[kn].length = n1 at *
    go_enter Try.func41, Try.ntmps41
    go_wp2_with fail
    go_ret
    exact ⟨rfl, Below.refl _ _⟩

set_option maxRecDepth 20000 in
set_option maxHeartbeats 8000000 in
theorem next2_any (T : List Int) (x : Int) (bt bl : Nat) (tv : Value) (k : Int) (w : World) (hb : Blk1 w bt 24 tv) (hT : RowV w tv (I T)) (hl : Blk1 w bl 3 (.int .i64 x)) (hk : 0 ≤ k ∧ k < (T.length : Int)) :
    Calls Try.prog 44 #[.int .i64 k, .pointer (some ⟨bt, 0, none⟩), .pointer (some ⟨bl, 0, none⟩)] w (BoolB (decide (atI T k = x)) w) := by
  obtain ⟨a, cap, rfl, hc1, hc2, hat⟩ := hT.ints
  unfold maxLen at hc2
  obtain ⟨kn, rfl⟩ : ∃ kn : Nat, k = kn := ⟨k.toNat, by omega⟩
  have hkl : kn < T.length := by omega
  have hkl2 : (kn : Int) < (T.length : Int) := by omega
  obtain ⟨g, o, rfl, hg, hcell0⟩ := hat kn hkl
  have hcell : w.cell? ⟨g, o + kn, none⟩ = some (.int .i64 (atI T (kn : Int))) := by rw [hcell0, atI_get hkl]
  have cb := hb.cell
  have cl := hl.cell
  clear hat hb hT hl hcell0
  by_cases h : atI T (kn : Int) = x
  · have h1 : (atI T (kn : Int) == x) = true := by simp [h]
    rw [decide_eq_true h]
    clear h
    generalize atI T (kn : Int) = y at *
    go_enter Try.func44, Try.ntmps44
    go_wp2_with fail
    go_region
    all_goals
      go_wp2_with fail
      go_ret
      exact ⟨rfl, Below.drew (Below.refl _ _)⟩
  · have h1 : (atI T (kn : Int) == x) = false := by simp [h]
    rw [decide_eq_false h]
    clear h
    generalize atI T (kn : Int) = y at *
    go_enter Try.func44, Try.ntmps44
    go_wp2_with fail
    go_region
    all_goals
      go_wp2_with fail
      go_ret
      exact ⟨rfl, Below.drew (Below.refl _ _)⟩
/-- What a box holds. -/
def boxInt (p : Value) (w : World) : Int :=
  match p with
  | .pointer (some a) => match w.cell? a with
    | some (.int _ x) => x
    | _ => 0
  | _ => 0
theorem boxInt_is {w : World} {b : Nat} {x : Int} (h : Blk1 w b 3 (.int .i64 x)) : boxInt (.pointer (some ⟨b, 0, none⟩)) w = x := by
  show (match w.cell? ⟨b, 0, none⟩ with | some (.int _ x) => x | _ => 0) = x
  rw [h.cell]

set_option maxRecDepth 20000 in
set_option maxHeartbeats 16000000 in
theorem implWay_any (ls : List (List Int)) (l ts : List Int) (v u : Value) (w : World) (hst : GraphV w v ls l) (hrow : RowV w u (I ts)) :
    Calls Try.prog 12 #[v, u] w (ListNOk (ifL (timesG ls l ts) (wayT ls l ts)) (ifN (timesG ls l ts) (endT (tailsL ls l ts))) (timesG ls l ts) w) := by
  have HV := Lib.hid hst
  have HR := Lib.hid hrow
  obtain ⟨nv, ov, rfl, h1, h2⟩ := hst
  obtain ⟨an, cn, rfl, hn1, hn2, hat⟩ := h1.lists
  obtain ⟨ao, co, rfl, ho1, ho2, hao⟩ := h2.ints
  obtain ⟨tm, tc, rfl, ht1, ht2, htt⟩ := hrow.ints
  clear h1 h2 hrow
  unfold maxLen at hn2 ho2 ht2
  have HAT := Lib.hid hat
  have HAO := Lib.hid hao
  have HTT := Lib.hid htt
  clear hat hao htt
  obtain ⟨wa, hwa⟩ : ∃ wa, wa = w.alloc (.cells #[.slice an ls.length cn, .slice ao l.length co] 26) := ⟨_, rfl⟩
  have P0 : Hid (Blk2 wa w.heap.size 26 (.slice an ls.length cn) (.slice ao l.length co)) := by rw [hwa]; exact Blk2.new
  have HA : Hid (Below w.heap.size w wa) := by rw [hwa]; exact (Below.refl w.heap.size w).alloc (Nat.le_refl _) _
  have hsa : wa.heap.size = w.heap.size + 1 := by rw [hwa]; simp
  have HSA := Lib.hid hsa
  have hsz : w.heap.size < wa.heap.size := by omega
  have HWA := Lib.hid hwa
  obtain ⟨c0, c1⟩ := P0.out.cells
  have HC := implTails_any ls l ts _ _ wa (HV.out.below HA.out) (HR.out.below HA.out)
  have hmf : ∀ (fn : Fn) (first cap : Array Value) (w : World), (Instr.makeFunc fn first cap).run Try.prog w = .ok (.func fn first cap) w := fun _ _ _ _ => rfl
  clear hwa hsa
  rcases hT : timesG ls l ts with _ | _
  · rw [hT] at HC
    have HCC := Lib.hid HC
    clear HC hT hmf
    go_enter Try.func12, Try.ntmps12
    go_wp2_with fail
    rw [← HWA.out]
    refine HCC.out.mono ?_
    rintro e w1 ⟨v1, rfl, ho1', hb1⟩
    obtain ⟨qa, qc, hq⟩ := own_slice ho1'
    subst hq
    clear ho1'
    have HB1 := Lib.hid (bth HA.out hb1 (Nat.le_refl _))
    have hs1 := HB1.out.size
    clear hb1 c0 c1
    go_wp2_with fail
    go_ret3
    exact ⟨_, rfl, none_ownZ _ _ _, HB1.out.alloc hs1 _⟩
  · rw [hT] at HC
    have HCC := Lib.hid HC
    obtain ⟨hG, hTT⟩ := timesG_yes hT
    have HG := Lib.hid hG
    have HTM := Lib.hid hTT
    clear HC hT hG hTT
    go_enter Try.func12, Try.ntmps12
    go_wp2_with fail
    rw [← HWA.out]
    refine HCC.out.mono ?_
    rintro e w1 ⟨v1, rfl, ho1', hb1⟩
    have HB1 := Lib.hid (bth HA.out hb1 (Nat.le_refl _))
    have HTV := Lib.hid (RowV.of_own ho1')
    have h10 := HG.out.high
    have hgood : goodG ls l = true := goodG_iff.2 HG.out
    have hpos : 0 < (tailsL ls l ts).length := by rw [tailsL_len]; exact HG.out.low
    have hnon : ∀ x ∈ tailsL ls l ts, 0 ≤ x := fun x hx => by
      obtain ⟨y, hy, e⟩ := mem_at0 hx
      rw [tailsL_len] at hy
      have := (tails_at HG.out.toP HTM.out hy).1
      omega
    have HXL := Lib.hid (tailsL_len ls l ts)
    have HYL := Lib.hid HTM.out.len
    have HWS := Lib.hid (WayOn.start HG.out.toP HTM.out)
    obtain ⟨w2, hw2⟩ : ∃ w2, w2 = w1.alloc (.cells #[v1] 24) := ⟨_, rfl⟩
    have HBT : Hid (Blk1 w2 w1.heap.size 24 v1) := by rw [hw2]; exact Blk1.new
    have K2 : Hid (Below w1.heap.size w1 w2) := by rw [hw2]; exact (Below.refl w1.heap.size w1).alloc (Nat.le_refl _) _
    have hs2 : w1.heap.size < w2.heap.size := by rw [hw2]; simp
    have HB2 := Lib.hid (bth HB1.out K2.out (Nat.le_refl _))
    have P2 := Lib.hid ((P0.out.below hb1 hsz).below K2.out (Nat.lt_of_lt_of_le hsz hb1.size))
    have hsz2 : w.heap.size < w2.heap.size := Nat.lt_of_lt_of_le (Nat.lt_of_lt_of_le hsz hb1.size) (Nat.le_of_lt hs2)
    obtain ⟨d0, d1⟩ := P2.out.cells
    have HUS := Lib.hid (usersOfAll_any ls l _ w2 (HV.out.below HB2.out) hgood)
    have HEN := Lib.hid (fun W (h : Below w1.heap.size w1 W) => endOfAll_any (tailsL ls l ts) v1 W (HTV.out.below h) hpos hnon)
    obtain ⟨qa, qc, hq⟩ := own_slice ho1'
    subst hq
    have HW2 := Lib.hid hw2
    clear hb1 c0 c1 ho1' hpos hnon hw2
    go_upto_region 2 with fail
    rw [← HW2.out]
    go_wp2_with fail
    refine HUS.out.mono ?_
    rintro e w3 ⟨vu, sl, rfl, hou, hb3⟩
    have HB3 := Lib.hid (bth HB2.out hb3 (Nat.le_refl _))
    have K3 := Lib.hid (bth K2.out hb3 (Nat.le_refl _))
    have P3 := Lib.hid (P2.out.below hb3 hsz2)
    have hsz3 := Nat.lt_of_lt_of_le hsz2 hb3.size
    have HBT3 := Lib.hid (HBT.out.below hb3 hs2)
    have hs3 := Nat.lt_of_lt_of_le hs2 hb3.size
    have HUV := Lib.hid hou.view
    obtain ⟨ua, uc, hu⟩ := own_slice hou.2.1
    subst hu
    clear hou hb3 d0 d1
    obtain ⟨d0, d1⟩ := P3.out.cells
    have HRI := Lib.hid (rising_any ls l (fun k => decide ((needsAt ls k).length = 0)) _ (.func (.func 41) #[] #[.pointer (some ⟨w.heap.size, 0, none⟩)]) w3 (HV.out.below HB3.out) ⟨41, #[.pointer (some ⟨w.heap.size, 0, none⟩)], rfl, enters_of Try.func41 (by kernel_rfl) rfl, fun W hW x hx => root1_any ls w.heap.size _ _ x W (P3.out.below hW hsz3) (graph_rows (HV.out.below (bth HB3.out hW (Nat.le_refl _)))).1 (HG.out.toP.range x hx)⟩ HG.out.toP)
    go_wp2_with fail
    refine HRI.out.mono ?_
    rintro e w4 ⟨vr, rfl, hor, hb4⟩
    have hor2 : w4.ownsRow w3.heap.size 3 1 vr (rootsL ls).length (I (rootsL ls)) := hor
    have HRV := Lib.hid (RowV.of_own hor2)
    have HB4 := Lib.hid (bth HB3.out hb4 (Nat.le_refl _))
    have K4 := Lib.hid (bth K3.out hb4 (Nat.le_refl _))
    have HBT4 := Lib.hid (HBT3.out.below hb4 hs3)
    have hs4 := Nat.lt_of_lt_of_le hs3 hb4.size
    have HUV4 := Lib.hid (HUV.out.below hb4)
    have hcb := HBT4.out.cell
    obtain ⟨ra, rc, hr⟩ := own_slice hor2
    subst hr
    clear hor hor2 hb4 d0 d1 HUV HUS HRI
    obtain ⟨E, hE⟩ : ∃ E, E = endT (tailsL ls l ts) := ⟨_, rfl⟩
    rw [← hE] at HEN HWS
    have HEQ := Lib.hid hE
    clear hE
    go_wp2_with fail
    refine (HEN.out w4 K4.out).mono ?_
    rintro e w5 ⟨rfl, rfl⟩
    obtain ⟨w6, hw6⟩ : ∃ w6, w6 = w5.alloc (.cells #[.int .i64 E] 3) := ⟨_, rfl⟩
    have HL0 : Hid (Blk1 w6 w5.heap.size 3 (.int .i64 E)) := by rw [hw6]; exact Blk1.new
    have K6 : Hid (Below w5.heap.size w5 w6) := by rw [hw6]; exact (Below.refl w5.heap.size w5).alloc (Nat.le_refl _) _
    have HW6 := Lib.hid hw6
    clear hw6 hcb HEN
    go_wp2_with fail
    rw [← HW6.out]
    go_loopw [10, 12, 13] (fun nx q lp wr => ∃ (mo cs : List Int) (x : Int) (bl : Nat), lp = .pointer (some ⟨bl, 0, none⟩) ∧ Hid (WayOn ls l ts (wayT ls l ts) mo cs x) ∧ Hid (RowV w5 nx (I cs)) ∧ Hid (wr.ownsRow w5.heap.size 3 1 q mo.length (I mo)) ∧ Hid (q.ownBlock ≠ some bl) ∧ Hid (Blk1 wr bl 3 (.int .i64 x)) ∧ w5.heap.size ≤ bl ∧ Hid (Below w5.heap.size w5 wr)) (fun _ _ lp wr => (boxInt lp wr).toNat)
    case atStart => exact ⟨[], rootsL ls, E, w5.heap.size, rfl, HWS, HRV, none_ownZ _ _ _, by show Value.ownBlock _ ≠ _; simp [Value.ownBlock], HL0, Nat.le_refl _, K6⟩
    case round =>
      clear HL0 K6 HWS HRV
      obtain ⟨mo, cs, x, bl, rfl, HWO, HNX, HN, HNE, HBL, hbl, HB⟩ := hrel
      have hcb := HBL.out.cell
      by_cases hx : 0 < x
      · have hgt : decide (x > 0) = true := by simp; omega
        obtain ⟨j, hj⟩ := HWO.out.some' hx
        obtain ⟨hW', hjr, hless, hxm⟩ := HWO.out.next HG.out.toP HTM.out hx hj
        obtain ⟨jn, rfl⟩ : ∃ jn : Nat, j = jn := ⟨j.toNat, by omega⟩
        have hjl : jn < ls.length := by omega
        have hjl2 : (jn : Int) < (ls.length : Int) := by omega
        have hjt : jn < ts.length := by rw [HYL.out]; exact hjl
        have hjt2 : (jn : Int) < (ts.length : Int) := by omega
        have hju : jn < (usersM ls).length := by rw [usersM_len]; exact hjl
        have hju3 : (jn : Int) < ((usersM ls).length : Int) := by rw [usersM_len]; exact hjl2
        have HLE := Lib.hid hless
        have hmol : mo.length ≤ 1000 := by have := HWO.out.len; have := wayT_len ls l ts; omega
        have hblr : bl < wr.heap.size := lt_of_block HBL.out
        have HF := Lib.hid (firstWhere_any cs (fun k => decide (atI (tailsL ls l ts) k = x)) (fun k => 0 ≤ k ∧ k < ((tailsL ls l ts).length : Int)) _ (.func (.func 44) #[] #[.pointer (some ⟨w1.heap.size, 0, none⟩), .pointer (some ⟨bl, 0, none⟩)]) wr (HNX.out.below HB.out) ⟨44, #[.pointer (some ⟨w1.heap.size, 0, none⟩), .pointer (some ⟨bl, 0, none⟩)], rfl, enters_of Try.func44 (by kernel_rfl) rfl, fun W hW k hk => next2_any (tailsL ls l ts) x w1.heap.size bl _ k W (HBT4.out.below (bth HB.out hW (Nat.le_refl _)) hs4) (HTV.out.below (bth K4.out (bth HB.out hW (Nat.le_refl _)) (Nat.le_refl _))) (HBL.out.below hW hblr) hk⟩ (fun k hk => by rw [HXL.out]; exact HWO.out.range k hk) (jn : Int) hj)
        obtain ⟨ua', uc', hua, _, _, hut⟩ := HUV4.out.lists
        obtain ⟨ug, uo, a2, c2, hug, hugl, huc0, hurow⟩ := hut jn hju
        injection hua with hua h2 h3
        clear h2
        subst hua
        subst h3
        subst hug
        obtain ⟨tg, tf, hto, htg, htc0⟩ := HTT.out jn hjt
        subst hto
        have HUC : Hid (∀ W, Below w5.heap.size w5 W → W.cell? ⟨ug, uo + jn, none⟩ = some (.slice a2 (usersM ls)[jn].length c2)) := fun W h => (h.cell (p := ⟨ug, uo + jn, none⟩) hugl).trans huc0
        have HTC : Hid (∀ W, Below w5.heap.size w5 W → W.cell? ⟨tg, tf + jn, none⟩ = some (.int .i64 (atI ts (jn : Int)))) := fun W h => by rw [(bth HB4.out h (Nat.le_refl _)).cell (p := ⟨tg, tf + jn, none⟩) htg, htc0, atI_get hjt]
        have HUR := Lib.hid hurow
        have hue : usersL ls (jn : Int) = (usersM ls)[jn] := by rw [← usersM_at hjr, needsAt_get hju]
        rw [hue] at hW'
        have HWN := Lib.hid hW'
        have htb := HTM.out.at hjr
        have hsub : IntKind.i64.wrap (x - atI ts (jn : Int)) = x - atI ts (jn : Int) := by rw [IntKind.wrap_i64]; omega
        obtain ⟨y, hy⟩ : ∃ y, x - atI ts (jn : Int) = y := ⟨_, rfl⟩
        rw [hy] at HWN HLE
        have hsub2 := hsub.trans hy
        obtain ⟨na, nc, hnx, -⟩ := HNX.out.ints
        subst hnx
        clear hsub hy hue hW' hurow huc0 htc0 hut hj hless
        generalize atI ts (jn : Int) = tt at *
        generalize (usersM ls)[jn] = um at *
        go_wp2_with fail
        refine HF.out.mono ?_
        rintro e w7 ⟨rfl, hb7⟩
        have K7 := Lib.hid (bth HB.out hb7 (Nat.le_refl _))
        have HN7 := Lib.hid (own_below HN.out hb7)
        have HBL7 := Lib.hid (HBL.out.below hb7 hblr)
        have hbl7 := Nat.lt_of_lt_of_le hblr hb7.size
        clear hb7 hcb HF
        go_wp2_with (at_builtin; refine wpAppAtE rfl _ _ rfl w5.heap.size _ mo rfl HN7.out _ rfl rfl hmol K7.out.size ?_; intro v8 w8 ho8 hg8 hv8; have hne8 : v8.ownBlock ≠ some bl := (fun e => by rcases hv8 bl e with h | h; exact HNE.out h; omega); have HBL8 : Hid (Blk1 w8 bl 3 (.int .i64 x)) := (hg8.block bl hbl7 (fun hi => HNE.out hi.symm)).trans HBL7.out; have K8 := Lib.hid (K7.out.trans (below_own HN7.out hg8 K7.out.size)); have HN8 := Lib.hid ho8; have HNE8 := Lib.hid hne8; have c8 := HBL8.out.cell; have u8 := HUC.out w8 K8.out; have t8 := HTC.out w8 K8.out; have f8 : w8.frozen? ⟨bl, 0, none⟩ = false := frozen_of_row w8 bl 0 _ _ HBL8.out; clear ho8 hg8 hv8 hne8)
        go_region
        all_goals
          go_wp2_with fail
          have hs9 : (w8.setCell ⟨bl, 0, none⟩ (.int .i64 y)).heap.size = w8.heap.size := by simp
          have hb9 := Blk1.new (w := w8.setCell ⟨bl, 0, none⟩ (.int .i64 y)) (t := 3) (x := .int .i64 y)
          rw [hs9] at hb9
          have hn9 := (own_setNe HN8.out (p := ⟨bl, 0, none⟩) HNE8.out (.int .i64 y)).alloc (.cells #[.int .i64 y] 3)
          have k9 := ((K8.out.setCell (p := ⟨bl, 0, none⟩) hbl (.int .i64 y)).alloc (by rw [hs9]; exact K8.out.size) (.cells #[.int .i64 y] 3)).drew
          have hne9 : v8.ownBlock ≠ some w8.heap.size := fun e => by have := (HN8.out.lt _ e).2; omega
          go_roundw
          case rel => exact ⟨mo ++ [(jn : Int)], um, y, w8.heap.size, rfl, HWN, HUR, hn9, hne9, hb9, K8.out.size, k9⟩
          case measure =>
            have h1 := HLE.out
            have h2 := HWN.out.low
            have e1 : boxInt (.pointer (some ⟨w8.heap.size, 0, none⟩)) (((w8.setCell ⟨bl, 0, none⟩ (.int .i64 y)).alloc (.cells #[.int .i64 y] 3)).drew) = y := boxInt_is hb9
            have e2 : boxInt (.pointer (some ⟨bl, 0, none⟩)) wr = x := boxInt_is HBL.out
            show (boxInt (.pointer (some ⟨w8.heap.size, 0, none⟩)) (((w8.setCell ⟨bl, 0, none⟩ (.int .i64 y)).alloc (.cells #[.int .i64 y] 3)).drew)).toNat < (boxInt (.pointer (some ⟨bl, 0, none⟩)) wr).toNat
            rw [e1, e2]
            omega
      · have hgt : decide (x > 0) = false := by simp; omega
        obtain rfl := HWO.out.done HG.out.toP HTM.out hx
        have HO := Lib.hid (own_base HN.out HB4.out.size)
        have HBZ := Lib.hid (bth HB4.out HB.out (Nat.le_refl _))
        clear HN HB hx
        go_wp2_with fail
        go_ret3
        obtain rfl := HEQ.out
        exact ⟨_, rfl, HO.out, HBZ.out⟩

end Go.Proofs.Ytgolhfmmlanmlaa
