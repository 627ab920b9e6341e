/- Texts of one claim, joined in their order. -/
import Derived.Deep.CutBlock
import Derived.Test.YtnkkbleebfijgaaM2

/- Walks: whether the laws call graphs the same; the laws' copies of graphs. -/
namespace Go.Proofs.Ytnkkbleebfijgaa
open Go.RowKit Pth

theorem eqIntS_b {l m : List Int} {v u : Value} {w : World} {b : Bool} (hr1 : RowV w v (I l)) (hr2 : RowV w u (I m)) (hl : l.length ≤ 2000000) (h : decide (l = m) = b) :
    Calls Try.prog 14 #[v, u] w fun e w' => e = .returned (.bool b) ∧ Below w.heap.size w w' := by
  subst h
  exact eqIntS_any l m v u w hr1 hr2 hl

set_option maxHeartbeats 2000000 in
theorem eqIntSS_any (l m : List (List Int)) (v u : Value) (w : World) (hr1 : RowN w v l) (hr2 : RowN w u m) (hl : l.length + total l ≤ 2000000) :
    Calls Try.prog 60 #[v, u] w fun e w' => e = .returned (.bool (decide (l = m))) ∧ Below w.heap.size w w' := by
  obtain ⟨a, cap, rfl, hc1, hc2, hat⟩ := hr1.lists
  obtain ⟨a2, cap2, rfl, hc3, hc4, hat2⟩ := hr2.lists
  clear hr1 hr2
  unfold maxLen at hc2 hc4
  by_cases hlen : l.length = m.length
  · have hlen1 : ((l.length : Int) != (m.length : Int)) = false := by simp [hlen]
    have HLEN := Lib.hid hlen
    clear hlen
    go_enter Try.func60, Try.ntmps60
    go_wp2_with fail
    go_loopw [5] (fun i wr => ∃ k : Nat, k ≤ l.length ∧ i = .int .i64 k ∧ Hid (l.take k = m.take k) ∧ Below w.heap.size w wr) (fun i _ => l.length - (intOf i).toNat)
    case atStart => exact ⟨0, Nat.zero_le _, rfl, rfl, Below.refl _ _⟩
    case round =>
      obtain ⟨k, hk, rfl, HO, hb⟩ := hrel
      have HB := Lib.hid hb
      by_cases hlt : k < l.length
      · obtain ⟨g, o, b1, d1, rfl, hg, hcell0, hrk⟩ := hat k hlt
        obtain ⟨g2, o2, b2, d2, rfl, hg2, hcell02, hrk2⟩ := hat2 k (by have := HLEN.out; omega)
        have hcell : wr.cell? ⟨g, o + k, none⟩ = some (.slice b1 l[k].length d1) := by rw [hb.cell (p := ⟨g, o + k, none⟩) hg]; exact hcell0
        have hcell2 : wr.cell? ⟨g2, o2 + k, none⟩ = some (.slice b2 m[k].length d2) := by rw [hb.cell (p := ⟨g2, o2 + k, none⟩) hg2]; exact hcell02
        have hi1 : (k : Int) < (l.length : Int) := by omega
        have hlt2 : k < m.length := by have := HLEN.out; omega
        have hi2 : (k : Int) < (m.length : Int) := by omega
        have hx : l[k].length ≤ 2000000 := by have := total_at hlt; omega
        by_cases he : l[k] = m[k]
        · have HS := Lib.hid (same_next HO.out hlt hlt2 he)
          have HC := Lib.hid (fun W (h : Below w.heap.size w W) => eqIntS_b (hrk.below h) (hrk2.below h) hx (decide_eq_true he))
          clear hcell0 hcell02 hat hat2 hb hrk hrk2 hx he
          generalize l[k].length = n1 at hcell HC
          generalize m[k].length = n2 at hcell2 HC
          clear HO
          have ks := And.intro hcell hcell2
          have hgw : g < wr.heap.size := Nat.lt_of_lt_of_le hg HB.out.size
          have hgw2 : g2 < wr.heap.size := Nat.lt_of_lt_of_le hg2 HB.out.size
          clear hcell hcell2
          go_wp2_with fail
          go_region_held3 (fun w' => w'.cell? ⟨g, o + k, none⟩ = some (.slice b1 n1 d1) ∧ w'.cell? ⟨g2, o2 + k, none⟩ = some (.slice b2 n2 d2)) (first | exact ks)
            (first | (go_at_call 14; refine (HC.out _ (Below.drew HB.out)).mono ?_; rintro e w5 ⟨rfl, hb5⟩; have ks := And.intro ((hb5.cell (p := ⟨g, o + k, none⟩) hgw).trans ks.1) ((hb5.cell (p := ⟨g2, o2 + k, none⟩) hgw2).trans ks.2)))
          have HB5 := Lib.hid (bth (Below.drew HB.out) hb5 (Nat.le_refl _))
          clear hb5 ks
          go_wp2_with fail
          go_roundw
          case rel => exact ⟨k + 1, by omega, by go_num, HS, HB5.out⟩
          case measure => simp [intOf]; omega
        · have HS : Hid (decide (l = m) = false) := decide_eq_false (same_not hlt hlt2 he)
          have HC := Lib.hid (fun W (h : Below w.heap.size w W) => eqIntS_b (hrk.below h) (hrk2.below h) hx (decide_eq_false he))
          clear hcell0 hcell02 hat hat2 hb hrk hrk2 hx he
          generalize l[k].length = n1 at hcell HC
          generalize m[k].length = n2 at hcell2 HC
          clear HO
          have ks := And.intro hcell hcell2
          have hgw : g < wr.heap.size := Nat.lt_of_lt_of_le hg HB.out.size
          have hgw2 : g2 < wr.heap.size := Nat.lt_of_lt_of_le hg2 HB.out.size
          clear hcell hcell2
          go_wp2_with fail
          go_region_held3 (fun w' => w'.cell? ⟨g, o + k, none⟩ = some (.slice b1 n1 d1) ∧ w'.cell? ⟨g2, o2 + k, none⟩ = some (.slice b2 n2 d2)) (first | exact ks)
            (first | (go_at_call 14; refine (HC.out _ (Below.drew HB.out)).mono ?_; rintro e w5 ⟨rfl, hb5⟩; have ks := And.intro ((hb5.cell (p := ⟨g, o + k, none⟩) hgw).trans ks.1) ((hb5.cell (p := ⟨g2, o2 + k, none⟩) hgw2).trans ks.2)))
          have HB5 := Lib.hid (bth (Below.drew HB.out) hb5 (Nat.le_refl _))
          clear hb5 ks
          go_wp2_with fail
          go_ret
          exact ⟨ret_bool HS.out.symm, HB5.out⟩
      · have HS : Hid (decide (l = m) = true) := decide_eq_true (same_all HO.out (by omega) (by have := HLEN.out; omega))
        clear HO hat hat2 hb
        go_wp2_with fail
        go_ret
        exact ⟨ret_bool HS.out.symm, HB.out⟩
  · have hlen1 : ((l.length : Int) != (m.length : Int)) = true := by simp; omega
    have HS : Hid (decide (l = m) = false) := decide_eq_false (fun h => hlen (by rw [h]))
    clear hat hat2
    go_enter Try.func60, Try.ntmps60
    go_wp2_with fail
    go_ret
    exact ⟨ret_bool HS.out.symm, Below.refl _ _⟩

theorem eqIntSS_b {l m : List (List Int)} {v u : Value} {w : World} {b : Bool} (hr1 : RowN w v l) (hr2 : RowN w u m) (hl : l.length + total l ≤ 2000000) (h : decide (l = m) = b) :
    Calls Try.prog 60 #[v, u] w fun e w' => e = .returned (.bool b) ∧ Below w.heap.size w w' := by
  subst h
  exact eqIntSS_any l m v u w hr1 hr2 hl

theorem results_cell {fn : Func} {p : Tmp} {ty : TypeId} (h : fn.results = #[.cell p ty]) {tmps : Array Value} {w : World} {ad : Addr} {v : Value} (hp : tmps.getD p undef = .pointer (some ad)) (hl : (loadVar ty ad).run Try.prog w = .ok v w) :
    (results fn tmps).run Try.prog w = .ok v w := by
  have hp' : tmps[p]?.getD undef = .pointer (some ad) := by simpa using hp
  simp only [results, h]
  simp [hp', asAddr, hl]
theorem results_cell2 {fn : Func} {p u : Tmp} {ty : TypeId} (h : fn.results = #[.cell p ty, .tmp u]) {tmps : Array Value} {w : World} {ad : Addr} {v : Value} (hp : tmps.getD p undef = .pointer (some ad)) (hl : (loadVar ty ad).run Try.prog w = .ok v w) :
    (results fn tmps).run Try.prog w = .ok (.tuple #[v, tmps.getD u undef]) w := by
  have hp' : tmps[p]?.getD undef = .pointer (some ad) := by simpa using hp
  simp only [results, h]
  simp [Result.andThen, hp', asAddr, hl]
theorem results_cell3 {fn : Func} {p u t : Tmp} {ty : TypeId} (h : fn.results = #[.cell p ty, .tmp u, .tmp t]) {tmps : Array Value} {w : World} {ad : Addr} {v : Value} (hp : tmps.getD p undef = .pointer (some ad)) (hl : (loadVar ty ad).run Try.prog w = .ok v w) :
    (results fn tmps).run Try.prog w = .ok (.tuple #[v, tmps.getD u undef, tmps.getD t undef]) w := by
  have hp' : tmps[p]?.getD undef = .pointer (some ad) := by simpa using hp
  simp only [results, h]
  simp [Result.andThen, hp', asAddr, hl]
theorem load_store2 {w : World} {b : Nat} {x y : Value} (h0 : w.cell? ⟨b, 0, none⟩ = some x) (h1 : w.cell? ⟨b, 1, none⟩ = some y) : (loadVar 27 ⟨b, 0, none⟩).run Try.prog w = .ok (.agg #[x, y]) w := by
  go_simp
/-- Whether two graphs are the same. -/
def sameG (ls ms : List (List Int)) (l m : List Int) : Bool := decide (ls = ms) && decide (l = m)
theorem sameG_self (ls : List (List Int)) (l : List Int) : sameG ls ls l l = true := by simp [sameG]

set_option maxRecDepth 20000 in
set_option maxHeartbeats 4000000 in
theorem eqGraph_any (ls ms : List (List Int)) (l m : List Int) (v u : Value) (w : World) (hst : GraphV w v ls l) (hst2 : GraphV w u ms m) (hl : ls.length + total ls + l.length ≤ 2000000) :
    Calls Try.prog 13 #[v, u] w fun e w' => e = .returned (.bool (sameG ls ms l m)) ∧ Below w.heap.size w w' := by
  obtain ⟨nv, ov, rfl, h1, h2⟩ := hst
  obtain ⟨nu, ou, rfl, h3, h4⟩ := hst2
  have H1 := Lib.hid h1
  have H2 := Lib.hid h2
  have H3 := Lib.hid h3
  have H4 := Lib.hid h4
  obtain ⟨an, cn, rfl, _⟩ := h1.lists
  obtain ⟨ao, co, rfl, _⟩ := h2.ints
  obtain ⟨bn, dn, rfl, _⟩ := h3.lists
  obtain ⟨bo, do', rfl, _⟩ := h4.ints
  clear h1 h2 h3 h4
  obtain ⟨wa, hwa⟩ : ∃ wa, wa = (w.alloc (.cells #[.slice an ls.length cn, .slice ao l.length co] 27)).alloc (.cells #[.slice bn ms.length dn, .slice bo m.length do'] 27) := ⟨_, rfl⟩
  have hsz : wa.heap.size = w.heap.size + 2 := by rw [hwa]; simp
  have P0 : Hid (Blk2 wa w.heap.size 27 (.slice an ls.length cn) (.slice ao l.length co)) := by rw [hwa]; exact Blk2.new.old _
  have O0 : Hid (Blk2 wa (w.heap.size + 1) 27 (.slice bn ms.length dn) (.slice bo m.length do')) := by
    rw [hwa]
    have := Blk2.new (w := w.alloc (.cells #[.slice an ls.length cn, .slice ao l.length co] 27)) (t := 27) (x := .slice bn ms.length dn) (y := .slice bo m.length do')
    simpa [Hid] using this
  have HA : Hid (Below w.heap.size w wa) := by rw [hwa]; exact ((Below.refl w.heap.size w).alloc (Nat.le_refl _) _).alloc (by simp) _
  have HWA := Lib.hid hwa
  clear hwa
  rcases e1 : decide (ls = ms) with _ | _
  · have HT : Hid (sameG ls ms l m = false) := by rw [sameG, e1]; rfl
    have C1 := Lib.hid (eqIntSS_b (H1.out.below HA.out) (H3.out.below HA.out) (by omega) e1)
    rw [HT.out]
    clear e1 HT
    go_enter Try.func13, Try.ntmps13
    go_wp2_with fail
    rw [← HWA.out]
    refine C1.out.mono ?_
    rintro e w1 ⟨rfl, hb1⟩
    have HB1 := Lib.hid (bth HA.out hb1 (Nat.le_refl _))
    clear hb1
    go_wp2_with fail
    go_ret
    exact ⟨rfl, HB1.out⟩
  · have C1 := Lib.hid (eqIntSS_b (H1.out.below HA.out) (H3.out.below HA.out) (by omega) e1)
    have HT : Hid (sameG ls ms l m = decide (l = m)) := by rw [sameG, e1]; rfl
    rw [HT.out]
    rcases e2 : decide (l = m) with _ | _
    all_goals
      have C2 := Lib.hid (fun W (h1 : RowV W (.slice ao l.length co) (I l)) (h2 : RowV W (.slice bo m.length do') (I m)) => eqIntS_b h1 h2 (by omega) e2)
      clear e1 e2 HT
      go_enter Try.func13, Try.ntmps13
      go_wp2_with fail
      rw [← HWA.out]
      refine C1.out.mono ?_
      rintro e w1 ⟨rfl, hb1⟩
      have HB1 := Lib.hid (bth HA.out hb1 (Nat.le_refl _))
      have p11 := (P0.out.below hb1 (by omega)).cells.2
      have o11 := (O0.out.below hb1 (by omega)).cells.2
      clear hb1
      go_wp2_with fail
      refine (C2.out w1 (H2.out.below HB1.out) (H4.out.below HB1.out)).mono ?_
      rintro e w2 ⟨rfl, hb2⟩
      have HB2 := Lib.hid (bth HB1.out hb2 (Nat.le_refl _))
      clear hb2
      go_wp2_with fail
      go_ret
      exact ⟨rfl, HB2.out⟩

set_option maxRecDepth 20000 in
set_option maxHeartbeats 2000000 in
theorem toGraph_any (ls : List (List Int)) (l : List Int) (v : Value) (w : World) (hst : GraphV w v ls l) (hl : ls.length + total ls + l.length ≤ 2000000) :
    Calls Try.prog 11 #[v] w fun e w' => ∃ v', e = .returned v' ∧ GraphO w.heap.size w' v' ls l ∧ Below w.heap.size w w' := by
  obtain ⟨nv, ov, rfl, h1, h2⟩ := hst
  have H1 := Lib.hid h1
  have H2 := Lib.hid h2
  obtain ⟨an, cn, rfl, hn1, hn2, _⟩ := h1.lists
  obtain ⟨ao, co, rfl, ho1, ho2, _⟩ := h2.ints
  clear h1 h2
  unfold maxLen at hn2 ho2
  obtain ⟨wa, hwa⟩ : ∃ wa, wa = ((w.alloc (.cells #[.slice an ls.length cn, .slice ao l.length co] 25)).alloc (.cells #[.slice none 0 0, .slice none 0 0] 27)).alloc (.cells #[.slice none 0 0, .slice none 0 0] 27) := ⟨_, rfl⟩
  have hsz : wa.heap.size = w.heap.size + 3 := by rw [hwa]; simp
  have P0 : Hid (Blk2 wa w.heap.size 25 (.slice an ls.length cn) (.slice ao l.length co)) := by rw [hwa]; exact (Blk2.new.old _).old _
  have O0 : Hid (Blk2 wa (w.heap.size + 1 + 1) 27 (.slice none 0 0) (.slice none 0 0)) := by
    rw [hwa]
    have := Blk2.new (w := (w.alloc (.cells #[.slice an ls.length cn, .slice ao l.length co] 25)).alloc (.cells #[.slice none 0 0, .slice none 0 0] 27)) (t := 27) (x := .slice none 0 0) (y := .slice none 0 0)
    simpa [Hid] using this
  have R0 : Hid (Blk2 wa (w.heap.size + 1) 27 (.slice none 0 0) (.slice none 0 0)) := by
    rw [hwa]
    have := Blk2.new (w := w.alloc (.cells #[.slice an ls.length cn, .slice ao l.length co] 25)) (t := 27) (x := .slice none 0 0) (y := .slice none 0 0)
    rw [show (w.alloc (.cells #[.slice an ls.length cn, .slice ao l.length co] 25)).heap.size = w.heap.size + 1 by simp] at this
    exact this.old _
  have HA : Hid (Below w.heap.size w wa) := by rw [hwa]; exact (((Below.refl w.heap.size w).alloc (Nat.le_refl _) _).alloc (by simp) _).alloc (by simp; omega) _
  have HWA := Lib.hid hwa
  clear hwa
  go_enter Try.func11, Try.ntmps11
  go_wp2_with fail
  rw [← HWA.out]
  refine (toIntSS_any ls _ wa (H1.out.below HA.out) (by omega)).mono ?_
  rintro e w1 ⟨v1, sl, rfl, ⟨hsl, hn1', hL1⟩, hb1⟩
  obtain ⟨b1, d1, rfl⟩ := own_slice hn1'
  have HN1 := Lib.hid (own_setI hn1' (p := ⟨w.heap.size + 1 + 1, 0, none⟩) (by show w.heap.size + 1 + 1 < _; omega) (.slice b1 ls.length d1))
  have HL1 := Lib.hid (hL1.set (p := ⟨w.heap.size + 1 + 1, 0, none⟩) (by show w.heap.size + 1 + 1 < _; omega) (.slice b1 ls.length d1))
  have P1 := P0.out.below hb1 (by omega)
  have O1 := O0.out.below hb1 (by omega)
  have HA1 := Lib.hid (HA.out.trans (hb1.mono HA.out.size))
  have HX1 := Lib.hid (HA1.out.setCell (p := ⟨w.heap.size + 1 + 1, 0, none⟩) (by show w.heap.size ≤ w.heap.size + 1 + 1; omega) (.slice b1 ls.length d1))
  have o0 := O1.cells.1
  have f0 := O1.soft 0
  have hs1 : wa.heap.size ≤ (w1.setCell ⟨w.heap.size + 1 + 1, 0, none⟩ (.slice b1 ls.length d1)).heap.size := by have := hb1.size; simp; omega
  have P2 := Lib.hid (show Blk2 (w1.setCell ⟨w.heap.size + 1 + 1, 0, none⟩ (.slice b1 ls.length d1)) w.heap.size _ _ _ from (Below.heap_setCell w1 ⟨w.heap.size + 1 + 1, 0, none⟩ (.slice b1 ls.length d1) w.heap.size (by show w.heap.size ≠ w.heap.size + 1 + 1; omega)).trans P1)
  have O2 := Lib.hid (O1.set0 (.slice b1 ls.length d1))
  have p1 := P2.out.cells.2
  have R2 := Lib.hid (show Blk2 (w1.setCell ⟨w.heap.size + 1 + 1, 0, none⟩ (.slice b1 ls.length d1)) (w.heap.size + 1) _ _ _ from (Below.heap_setCell w1 ⟨w.heap.size + 1 + 1, 0, none⟩ (.slice b1 ls.length d1) (w.heap.size + 1) (by show w.heap.size + 1 ≠ w.heap.size + 1 + 1; omega)).trans (R0.out.below hb1 (by omega)))
  clear hn1' hb1 P1 O1 hL1
  go_wp2_with fail
  clear o0 f0
  generalize w1.setCell ⟨w.heap.size + 1 + 1, 0, none⟩ (.slice b1 ls.length d1) = x1 at *
  refine (toIntS_any l _ x1 (H2.out.below HX1.out) (by omega)).mono ?_
  rintro e w2 ⟨v2, rfl, hn2', hb2⟩
  obtain ⟨b2, d2, rfl⟩ := own_slice hn2'
  have HL2 := Lib.hid ((HL1.out.snoc hb2 hn2' (Nat.le_refl _) hs1).set (p := ⟨w.heap.size + 1 + 1, 1, none⟩) (by show w.heap.size + 1 + 1 < _; omega) (.slice b2 l.length d2))
  have HM2 := Lib.hid (own_setI (own_below HN1.out hb2) (p := ⟨w.heap.size + 1 + 1, 1, none⟩) (by show w.heap.size + 1 + 1 < _; omega) (.slice b2 l.length d2))
  have O3 := O2.out.below hb2 (by omega)
  have HA2 := Lib.hid (HX1.out.trans (hb2.mono HX1.out.size))
  have HX2 := Lib.hid (HA2.out.setCell (p := ⟨w.heap.size + 1 + 1, 1, none⟩) (by show w.heap.size ≤ w.heap.size + 1 + 1; omega) (.slice b2 l.length d2))
  have o1 := O3.cells.2
  have f1 := O3.soft 1
  have O4 := Lib.hid (O3.set1 (.slice b2 l.length d2))
  have R4 := Lib.hid (show Blk2 (w2.setCell ⟨w.heap.size + 1 + 1, 1, none⟩ (.slice b2 l.length d2)) (w.heap.size + 1) _ _ _ from (Below.heap_setCell w2 ⟨w.heap.size + 1 + 1, 1, none⟩ (.slice b2 l.length d2) (w.heap.size + 1) (by show w.heap.size + 1 ≠ w.heap.size + 1 + 1; omega)).trans (R2.out.below hb2 (by omega)))
  have r0 := O4.out.cells.1
  have r1 := O4.out.cells.2
  obtain ⟨k0, k1⟩ := R4.out.cells
  have z0 := R4.out.soft 0
  have z1 := R4.out.soft 1
  clear hn2' hb2 O3 p1
  go_wp2_with fail
  have Z := (R4.out.set0 (.slice b1 ls.length d1)).set1 (.slice b2 l.length d2)
  refine bodyPost_ret (results_cell rfl rfl (load_store2 Z.cells.1 Z.cells.2)) rfl ?_
  have e1 : w.heap.size ≤ wa.heap.size := by omega
  have e2 : w.heap.size + 1 < wa.heap.size := by omega
  refine ⟨_, rfl, ⟨_, _, sl, rfl, hsl, own_base (own_setI (own_setI HM2.out (p := ⟨w.heap.size + 1, 0, none⟩) e2 _) (p := ⟨w.heap.size + 1, 1, none⟩) e2 _) e1, ((HL2.out.set (p := ⟨w.heap.size + 1, 0, none⟩) e2 _).set (p := ⟨w.heap.size + 1, 1, none⟩) e2 _).base e1⟩, ?_⟩
  exact (HX2.out.setCell (p := ⟨w.heap.size + 1, 0, none⟩) (by show w.heap.size ≤ w.heap.size + 1; omega) _).setCell (p := ⟨w.heap.size + 1, 1, none⟩) (by show w.heap.size ≤ w.heap.size + 1; omega) _
end Go.Proofs.Ytnkkbleebfijgaa

/- Walks: the place of a number in a list; whether a graph is good, as the reference has it. -/
namespace Go.Proofs.Ytnkkbleebfijgaa
open Go.RowKit Pth

theorem not_take {l : List Int} {n : Int} {k : Nat} (hk : k < l.length) (h : n ∉ l.take k) (hx : ¬ l[k] = n) : n ∉ l.take (k + 1) := by
  rw [List.take_succ_eq_append_getElem hk, List.mem_append, List.mem_singleton]
  rintro (h' | h')
  · exact h h'
  · exact hx h'.symm
theorem ret_int {a b : Int} (h : a = b) : Ending.returned (.int .i64 a) = .returned (.int .i64 b) := by rw [h]

set_option maxHeartbeats 1000000 in
theorem l5Place_any (l : List Int) (n : Int) (v : Value) (w : World) (hrow : RowV w v (I l)) :
    Calls Try.prog 89 #[v, .int .i64 n] w fun e w' => e = .returned (.int .i64 (placeI l n)) ∧ w = w' := by
  obtain ⟨a, cap, rfl, hc1, hc2, hat⟩ := hrow.ints
  clear hrow
  unfold maxLen at hc2
  go_enter Try.func89, Try.ntmps89
  go_wp2_with fail
  go_loop [9] (fun i => ∃ k : Nat, k ≤ l.length ∧ i = .int .i64 k ∧ Hid (n ∉ l.take k)) (fun i => l.length - (intOf i).toNat)
  case atStart => exact ⟨0, Nat.zero_le _, rfl, by simp [Hid]⟩
  case round =>
    obtain ⟨k, hk, rfl, HO⟩ := hrel
    by_cases hlt : k < l.length
    · obtain ⟨g, o, rfl, hg, hcell⟩ := hat k hlt
      clear hat
      by_cases hx : l[k] = n
      · have HR : Hid (placeI l n = k) := place_at hlt HO.out hx
        have hx1 : (l[k] == n) = true := by simp [hx]
        generalize l[k] = x at hcell hx hx1
        clear HO hx
        go_wp2_with fail
        go_ret
        exact ⟨ret_int HR.out.symm, rfl⟩
      · have HR : Hid (n ∉ l.take (k + 1)) := not_take hlt HO.out hx
        have hx1 : (l[k] == n) = false := by simp [hx]
        generalize l[k] = x at hcell hx hx1
        clear HO hx
        go_wp2_with fail
        go_round
        case rel => exact ⟨k + 1, by omega, by go_num, HR⟩
        case measure => simp [intOf]; omega
    · have HR : Hid (placeI l n = -1) := by have := HO.out; rw [List.take_of_length_le (by omega)] at this; exact place_none this
      clear HO hat
      go_wp2_with fail
      go_ret
      exact ⟨ret_int HR.out.symm, rfl⟩

/-- One task is as it should be. -/
def TaskOk (ls : List (List Int)) (l : List Int) (k : Nat) (hk : k < ls.length) : Prop := (Rise ls[k] ∧ Within 0 ((ls.length : Int) - 1) ls[k]) ∧ (k : Int) ∈ l ∧ ∀ x ∈ ls[k], placeI l x < placeI l k

set_option maxRecDepth 20000 in
set_option maxHeartbeats 4000000 in
theorem specGood_any (ls : List (List Int)) (l : List Int) (v : Value) (w : World) (hst : GraphV w v ls l) :
    Calls Try.prog 65 #[v] w fun e w' => e = .returned (.bool (goodG ls l)) ∧ Below w.heap.size w w' := by
  obtain ⟨nv, ov, rfl, h1, h2⟩ := hst
  have H1 := Lib.hid h1
  have H2 := Lib.hid h2
  obtain ⟨an, cn, rfl, hn1, hn2, hat⟩ := h1.lists
  obtain ⟨ao, co, rfl, ho1, ho2, _⟩ := h2.ints
  clear h1 h2
  unfold maxLen at hn2 ho2
  have nog : ∀ {P : Prop}, (GoodG ls l → P) → ¬ P → Hid (goodG ls l = false) := fun h1 h2 => goodG_no (fun h => h2 (h1 h))
  obtain ⟨wa, hwa⟩ : ∃ wa, wa = w.alloc (.cells #[.slice an ls.length cn, .slice ao l.length co] 27) := ⟨_, rfl⟩
  have c0 : wa.cell? ⟨w.heap.size, 0, none⟩ = some (.slice an ls.length cn) := by rw [hwa]; simp
  have c1 : wa.cell? ⟨w.heap.size, 1, none⟩ = some (.slice ao l.length co) := by rw [hwa]; simp
  have HA : Hid (Below w.heap.size w wa) := by rw [hwa]; exact (Below.refl w.heap.size w).alloc (Nat.le_refl _) _
  have HWA := Lib.hid hwa
  clear hwa
  have CI := l1In_any (ls.length : Int) 1 10 wa
  have CA := l1All_any l 0 ((ls.length : Int) - 1) _ wa (H2.out.below HA.out)
  by_cases h1 : 1 ≤ ls.length ∧ ls.length ≤ 10
  · have e1 : (decide ((1 : Int) ≤ (ls.length : Int)) && decide ((ls.length : Int) ≤ 10)) = true := by simp; omega
    rw [e1] at CI
    have HCI := Lib.hid CI
    clear CI e1
    by_cases h2 : l.length = ls.length
    · have e2 : ((l.length : Int) != (ls.length : Int)) = false := by simp [h2]
      have HL := Lib.hid h2
      by_cases h3 : ∀ x ∈ l, 0 ≤ x ∧ x ≤ (ls.length : Int) - 1
      · have e3 : allB 0 ((ls.length : Int) - 1) l = true := by rw [allB, decide_eq_true_iff]; exact h3
        rw [e3] at CA
        have HCA := Lib.hid CA
        have H3 := Lib.hid h3
        clear CA e3 h3 h2
        obtain ⟨h1a, h1b⟩ := h1
        go_enter Try.func65, Try.ntmps65
        go_wp2_with fail
        rw [← HWA.out]
        refine HCI.out.mono ?_
        rintro e w1 ⟨rfl, rfl⟩
        go_wp2_with fail
        refine HCA.out.mono ?_
        rintro e w1 ⟨rfl, rfl⟩
        go_wp2_with fail
        clear HCI HCA HWA e2
        have hsz : w.heap.size < wa.heap.size := by exact World.block_lt_of_cell? _ _ c0
        go_loopw [32] (fun i wr => ∃ k : Nat, k ≤ ls.length ∧ i = .int .i64 k ∧ Hid (∀ j (hj : j < ls.length), j < k → TaskOk ls l j hj) ∧ Below wa.heap.size wa wr) (fun i _ => ls.length - (intOf i).toNat)
        case atStart => exact ⟨0, Nat.zero_le _, rfl, fun j hj h => by omega, Below.refl _ _⟩
        case round =>
          obtain ⟨k, hk, rfl, HO, hb⟩ := hrel
          have HB := Lib.hid hb
          have HBW := Lib.hid (bth HA.out hb (Nat.le_refl _))
          have d0 := (hb.cell (p := ⟨w.heap.size, 0, none⟩) hsz).trans c0
          have d1 := (hb.cell (p := ⟨w.heap.size, 1, none⟩) hsz).trans c1
          have HC0 := Lib.hid c0
          have HC1 := Lib.hid c1
          clear hb c0 c1
          by_cases hlt : k < ls.length
          · obtain ⟨g, o, a2, c2, rfl, hg, hcell0, hrk⟩ := hat k hlt
            have hcell : wr.cell? ⟨g, o + k, none⟩ = some (.slice a2 ls[k].length c2) := by rw [HBW.out.cell (p := ⟨g, o + k, none⟩) hg]; exact hcell0
            have CR := l1Rising_any ls[k] 0 ((ls.length : Int) - 1) _ wr (hrk.below HBW.out)
            have CP := l5Place_any l (k : Int) _ wr (H2.out.below HBW.out)
            by_cases hr : Rise ls[k] ∧ Within 0 ((ls.length : Int) - 1) ls[k]
            · rw [riseB_iff.2 hr] at CR
              have HCR := Lib.hid CR
              clear CR
              by_cases hm : (k : Int) ∈ l
              · have hp0 : ¬ (placeI l k < 0) := by have := place_nonneg.2 hm; omega
                have HCP := Lib.hid CP
                have HRK := Lib.hid hrk
                have HM := Lib.hid hm
                have HRR := Lib.hid hr
                have hkl : ls[k].length ≤ c2 ∧ c2 ≤ maxLen := by obtain ⟨a3, c3, he, h1, h2, _⟩ := hrk.ints; injection he with _ _ he; omega
                obtain ⟨hkl1, hkl2⟩ := hkl
                obtain ⟨a3, c3, he3, _, _, hatk⟩ := hrk.ints
                injection he3 with he3 _ he4
                subst he3 he4
                unfold maxLen at hkl2
                clear CP hcell0 hm hr hat hrk
                generalize hpk : placeI l k = pk at hp0 HCP
                have HPK := Lib.hid hpk
                clear hpk
                go_wp2_with fail
                refine HCR.out.mono ?_
                rintro e w' ⟨rfl, rfl⟩
                go_wp2_with fail
                refine HCP.out.mono ?_
                rintro e w' ⟨rfl, rfl⟩
                go_wp2_with fail
                clear HCR HCP d0 d1 hcell
                go_loopw [51] (fun i wq => ∃ j : Nat, j ≤ ls[k].length ∧ i = .int .i64 j ∧ Hid (∀ x ∈ ls[k].take j, placeI l x < pk) ∧ Below wa.heap.size wa wq) (fun i _ => ls[k].length - (intOf i).toNat)
                case atStart => exact ⟨0, Nat.zero_le _, rfl, by simp [Hid], HB.out⟩
                case round =>
                  clear HB HBW
                  obtain ⟨j, hj, rfl, HJ, hb⟩ := hrel
                  have HB := Lib.hid hb
                  have HBW := Lib.hid (bth HA.out hb (Nat.le_refl _))
                  have d1 := (hb.cell (p := ⟨w.heap.size, 1, none⟩) hsz).trans HC1.out
                  have HP := Lib.hid (fun (q : Nat) (x : Int) => (l5Place_any l x _ (wr.drewN q) (H2.out.below (below_drewN HBW.out q))).mono (fun e w' ⟨h1, h2⟩ => And.intro h1 h2.symm))
                  clear hb
                  by_cases hjt : j < ls[k].length
                  · obtain ⟨g2, o2, rfl, hg2, hcell0⟩ := hatk j hjt
                    have hcell : wr.cell? ⟨g2, o2 + j, none⟩ = some (.int .i64 ls[k][j]) := by rw [HBW.out.cell (p := ⟨g2, o2 + j, none⟩) hg2]; exact hcell0
                    clear hcell0 hatk
                    by_cases hx : placeI l ls[k][j] < pk
                    · have hx1 : decide (placeI l ls[k][j] ≥ pk) = false := by simp; omega
                      have HJ2 : Hid (∀ x ∈ ls[k].take (j + 1), placeI l x < pk) := by
                        intro x hxm
                        rw [List.take_succ_eq_append_getElem hjt, List.mem_append, List.mem_singleton] at hxm
                        rcases hxm with h | h
                        · exact HJ.out x h
                        · rw [h]; exact hx
                      clear HJ hx
                      rw [← HPK.out] at hx1
                      generalize ls[k][j] = x at hcell hx1
                      go_wp2_with fail
                      go_quiet ((go_at_call 89; exact Calls.quiet_of_same (HP.out _ _)))
                      go_wp2_with fail
                      go_roundw
                      case rel => exact ⟨j + 1, by omega, by go_num, HJ2, below_drewN HB.out _⟩
                      case measure => simp [intOf]; omega
                    · have HR := nog (fun h => (h.each k hlt).2.2 _ (List.getElem_mem hjt)) (by rw [HPK.out]; exact hx)
                      have hx1 : decide (placeI l ls[k][j] ≥ pk) = true := by simp; omega
                      clear HJ hx
                      rw [← HPK.out] at hx1
                      generalize ls[k][j] = x at hcell hx1
                      go_wp2_with fail
                      go_quiet ((go_at_call 89; exact Calls.quiet_of_same (HP.out _ _)))
                      go_wp2_with fail
                      go_ret
                      exact ⟨ret_bool HR.out.symm, below_drewN HBW.out _⟩
                  · have HT : Hid (∀ i (hi : i < ls.length), i < k + 1 → TaskOk ls l i hi) := by
                      intro i hi hik
                      rcases Nat.lt_or_ge i k with h | h
                      · exact HO.out i hi h
                      · obtain rfl : i = k := by omega
                        refine ⟨HRR.out, HM.out, fun x hx => ?_⟩
                        rw [HPK.out]
                        have := HJ.out
                        rw [List.take_of_length_le (by omega)] at this
                        exact this x hx
                    clear HJ HO HP hatk
                    go_wp2_with fail
                    go_roundw
                    case rel => exact ⟨k + 1, by omega, by go_num, HT, HB.out⟩
                    case measure => simp [intOf]; omega
              · have hp0 : placeI l k < 0 := by rw [place_none hm]; omega
                have HCP := Lib.hid CP
                have HR := nog (fun h => (h.each k hlt).2.1) hm
                clear CP hcell0 hm hr hat nog hrk
                generalize placeI l k = pk at hp0 HCP
                go_wp2_with fail
                refine HCR.out.mono ?_
                rintro e w' ⟨rfl, rfl⟩
                go_wp2_with fail
                refine HCP.out.mono ?_
                rintro e w' ⟨rfl, rfl⟩
                go_wp2_with fail
                all_goals
                  go_ret
                  exact ⟨ret_bool HR.out.symm, HBW.out⟩
            · rw [riseB_false hr] at CR
              have HCR := Lib.hid CR
              have HR := nog (fun h => (h.each k hlt).1) hr
              clear CR CP hcell0 hr hat nog hrk
              go_wp2_with fail
              refine HCR.out.mono ?_
              rintro e w' ⟨rfl, rfl⟩
              go_wp2_with fail
              all_goals
                go_ret
                exact ⟨ret_bool HR.out.symm, HBW.out⟩
          · have HR : Hid (goodG ls l = true) := goodG_iff.2 ⟨h1a, h1b, HL.out, H3.out, fun j hj => HO.out j hj (by omega)⟩
            clear HO hat nog
            go_wp2_with fail
            go_ret
            exact ⟨ret_bool HR.out.symm, HBW.out⟩
      · have e3 : allB 0 ((ls.length : Int) - 1) l = false := by rw [allB, decide_eq_false_iff_not]; exact h3
        have HR := nog (fun h => h.tasks) h3
        rw [e3] at CA
        have HCA := Lib.hid CA
        clear CA e3 h3 h2 nog hat
        obtain ⟨h1a, h1b⟩ := h1
        go_enter Try.func65, Try.ntmps65
        go_wp2_with fail
        rw [← HWA.out]
        refine HCI.out.mono ?_
        rintro e w1 ⟨rfl, rfl⟩
        go_wp2_with fail
        refine HCA.out.mono ?_
        rintro e w1 ⟨rfl, rfl⟩
        go_wp2_with fail
        go_ret
        exact ⟨ret_bool HR.out.symm, HA.out⟩
    · have e2 : ((l.length : Int) != (ls.length : Int)) = true := by simp; omega
      have HR := nog (fun h => h.same) h2
      clear h2 nog CA hat
      obtain ⟨h1a, h1b⟩ := h1
      go_enter Try.func65, Try.ntmps65
      go_wp2_with fail
      rw [← HWA.out]
      refine HCI.out.mono ?_
      rintro e w1 ⟨rfl, rfl⟩
      go_wp2_with fail
      go_ret
      exact ⟨ret_bool HR.out.symm, HA.out⟩
  · have e1 : (decide ((1 : Int) ≤ (ls.length : Int)) && decide ((ls.length : Int) ≤ 10)) = false := by
      rw [Bool.eq_false_iff]; intro h; rw [Bool.and_eq_true, decide_eq_true_iff, decide_eq_true_iff] at h; omega
    have HR := nog (fun h => And.intro h.low h.high) h1
    rw [e1] at CI
    have HCI := Lib.hid CI
    clear CI e1 h1 nog CA hat
    go_enter Try.func65, Try.ntmps65
    go_wp2_with fail
    rw [← HWA.out]
    refine HCI.out.mono ?_
    rintro e w1 ⟨rfl, rfl⟩
    go_wp2_with fail
    go_ret
    exact ⟨ret_bool HR.out.symm, HA.out⟩
end Go.Proofs.Ytnkkbleebfijgaa

/- Walks: whether a graph is good, as the program has it. -/
namespace Go.Proofs.Ytnkkbleebfijgaa
open Go.RowKit Pth

/-- Yes-or-no as cells. -/
def Bo (l : List Bool) : List Value := l.map fun x => .bool x
theorem Bo_len (l : List Bool) : (Bo l).length = l.length := by simp [Bo]
theorem Bo_get {l : List Bool} {k : Nat} (hk : k < l.length) : (Bo l)[k]'(by rw [Bo_len]; exact hk) = .bool l[k] := by simp [Bo]
theorem Bo_get? {l : List Bool} {k : Nat} (hk : k < l.length) : (Bo l)[k]? = some (.bool l[k]) := by simp [Bo, hk]
theorem Bo_set (l : List Bool) (k : Nat) (b : Bool) : (Bo l).set k (.bool b) = Bo (l.set k b) := by simp [Bo, List.map_set]
theorem Bo_rep (n : Nat) (b : Bool) : Bo (List.replicate n b) = List.replicate n (.bool b) := by simp [Bo]
theorem RowV.bools {w : World} {v : Value} {l : List Bool} (h : RowV w v (Bo l)) :
    ∃ a c, v = .slice a l.length c ∧ l.length ≤ c ∧ c ≤ maxLen ∧ ∀ k (hk : k < l.length), ∃ g o, a = some ⟨g, o, none⟩ ∧ g < w.heap.size ∧ w.cell? ⟨g, o + k, none⟩ = some (.bool l[k]) := by
  obtain ⟨a, c, hv, h1, h2, hat⟩ := h
  refine ⟨a, c, by rw [hv, Bo_len], by rw [Bo_len] at h1; exact h1, h2, fun k hk => ?_⟩
  obtain ⟨g, o, ha, hg, hc⟩ := hat k (by rw [Bo_len]; exact hk)
  exact ⟨g, o, ha, hg, by rw [hc]; simp [Bo]⟩

theorem RowV.marks {w : World} {v : Value} {n : Nat} {pre : List Int} (h : RowV w v (Bo (marksIn n pre))) :
    ∃ a c, v = .slice a n c ∧ n ≤ c ∧ c ≤ maxLen ∧ ∀ k (_ : k < n), ∃ g o, a = some ⟨g, o, none⟩ ∧ g < w.heap.size ∧ w.cell? ⟨g, o + k, none⟩ = some (.bool (decide ((k : Int) ∈ pre))) := by
  obtain ⟨a, c, hv, h1, h2, hat⟩ := h.bools
  have hl := marksIn_len n pre
  refine ⟨a, c, by rw [hv, hl], by omega, h2, fun k hk => ?_⟩
  obtain ⟨g, o, ha, hg, hc⟩ := hat k (by omega)
  exact ⟨g, o, ha, hg, by rw [hc, marksIn_at]⟩

set_option maxRecDepth 20000 in
set_option maxHeartbeats 2000000 in
theorem areNeeds_any (l pre : List Int) (n : Nat) (v u : Value) (w : World) (hrow : RowV w v (I l)) (hpl : RowV w u (Bo (marksIn n pre))) (hpre : ∀ x ∈ pre, 0 ≤ x ∧ x < n) :
    Calls Try.prog 90 #[v, u] w fun e w' => e = .returned (.bool (needsB l pre)) ∧ w = w' := by
  obtain ⟨a, cap, rfl, hc1, hc2, hat⟩ := hrow.ints
  obtain ⟨a2, cap2, rfl, hd1, hd2, hat2⟩ := hpl.marks
  clear hrow hpl
  unfold maxLen at hc2 hd2
  go_enter Try.func90, Try.ntmps90
  go_wp2_with fail
  go_loop [9] (fun i => ∃ k : Nat, k ≤ l.length ∧ i = .int .i64 k ∧ Hid (Rise (l.take k) ∧ ∀ x ∈ l.take k, x ∈ pre)) (fun i => l.length - (intOf i).toNat)
  case atStart => exact ⟨0, Nat.zero_le _, rfl, by simp [Hid, Rise]⟩
  case round =>
    obtain ⟨k, hk, rfl, HO⟩ := hrel
    by_cases hlt : k < l.length
    · obtain ⟨g, o, rfl, hg, hcell⟩ := hat k hlt
      by_cases hx : l[k] ∈ pre
      · obtain ⟨hx0, hxn⟩ := hpre _ hx
        obtain ⟨g2, o2, rfl, hg2, hcell2⟩ := hat2 l[k].toNat (by omega)
        rw [show ((l[k].toNat : Nat) : Int) = l[k] by omega, decide_eq_true hx] at hcell2
        by_cases h0 : 0 < k
        · obtain ⟨g', o', hA, _, hcell1⟩ := hat (k - 1) (by omega)
          obtain ⟨rfl, rfl⟩ := addr_inj hA
          have hk0 : decide ((k : Int) > 0) = true := by simp; omega
          by_cases hy : l[k - 1] < l[k]
          · have HR := Lib.hid (needs_next hlt HO.out hx (fun _ => hy))
            have hy1 : decide (l[k - 1] ≥ l[k]) = false := by simp; omega
            clear hat hat2 HO hx hpre hA
            generalize l[k] = x at *
            generalize l[k - 1] = y at *
            go_wp2_with fail
            go_round
            case rel => exact ⟨k + 1, by omega, by go_num, HR⟩
            case measure => simp [intOf]; omega
          · have HR : Hid (needsB l pre = false) := needs_fall hlt h0 (by omega)
            have hy1 : decide (l[k - 1] ≥ l[k]) = true := by simp; omega
            clear hat hat2 HO hx hpre hA
            generalize l[k] = x at *
            generalize l[k - 1] = y at *
            go_wp2_with fail
            go_ret
            exact ⟨ret_bool HR.out.symm, rfl⟩
        · have HR := Lib.hid (needs_next hlt HO.out hx (fun h => absurd h h0))
          have hk0 : decide ((k : Int) > 0) = false := by simp; omega
          clear hat hat2 HO hx hpre
          generalize l[k] = x at *
          go_wp2_with fail
          go_round
          case rel => exact ⟨k + 1, by omega, by go_num, HR⟩
          case measure => simp [intOf]; omega
      · have HR : Hid (needsB l pre = false) := needs_not hlt hx
        by_cases hx0 : l[k] < 0
        · clear hat hat2 HO hx hpre
          generalize l[k] = x at *
          go_wp2_with fail
          go_ret
          exact ⟨ret_bool HR.out.symm, rfl⟩
        · by_cases hxn : l[k] < n
          · obtain ⟨g2, o2, rfl, hg2, hcell2⟩ := hat2 l[k].toNat (by omega)
            rw [show ((l[k].toNat : Nat) : Int) = l[k] by omega, decide_eq_false hx] at hcell2
            clear hat hat2 HO hx hpre
            generalize l[k] = x at *
            go_wp2_with fail
            go_ret
            exact ⟨ret_bool HR.out.symm, rfl⟩
          · clear hat hat2 HO hx hpre
            generalize l[k] = x at *
            go_wp2_with fail
            go_ret
            exact ⟨ret_bool HR.out.symm, rfl⟩
    · have HR : Hid (needsB l pre = true) := by have := HO.out; rw [List.take_of_length_le (by omega)] at this; exact needsB_iff.2 this
      clear HO hat hat2 hpre
      go_wp2_with fail
      go_ret
      exact ⟨ret_bool HR.out.symm, rfl⟩

set_option maxHeartbeats 1000000 in
theorem isTask_any (ls : List (List Int)) (l : List Int) (k : Int) (v : Value) (w : World) (hst : GraphV w v ls l) :
    Calls Try.prog 53 #[v, .int .i64 k] w fun e w' => e = .returned (.bool (decide (0 ≤ k) && decide (k < (ls.length : Int)))) ∧ Below w.heap.size w w' := by
  obtain ⟨nv, ov, rfl, h1, h2⟩ := hst
  obtain ⟨an, cn, rfl, hn1, hn2, _⟩ := h1.lists
  obtain ⟨ao, co, rfl, ho1, ho2, _⟩ := h2.ints
  clear h1 h2
  unfold maxLen at hn2 ho2
  go_enter Try.func53, Try.ntmps53
  go_wp2_with fail
  all_goals
    go_ret
    exact ⟨ret_bool (by rw [Bool.eq_iff_iff]; simp <;> omega), (Below.refl w.heap.size w).alloc (Nat.le_refl _) _⟩

/-- What the program asks of the one at a place. -/
def SpotOk (ls : List (List Int)) (l : List Int) (i : Nat) (hi : i < l.length) : Prop := ∃ t : Nat, ∃ ht : t < ls.length, l[i] = (t : Int) ∧ l[i] ∉ l.take i ∧ Rise ls[t] ∧ ∀ x ∈ ls[t], x ∈ l.take i
theorem spot_range {ls : List (List Int)} {l : List Int} {k : Nat} (h : ∀ i (hi : i < l.length), i < k → SpotOk ls l i hi) : ∀ x ∈ l.take k, 0 ≤ x ∧ x < (ls.length : Int) := by
  intro x hx
  obtain ⟨i, hi, rfl⟩ := List.mem_iff_getElem.1 hx
  rw [List.length_take] at hi
  obtain ⟨t, ht, he, _⟩ := h i (by omega) (by omega)
  rw [List.getElem_take]
  omega
theorem isTask_b {ls : List (List Int)} {l : List Int} {k : Int} {v : Value} {w : World} {b : Bool} (hst : GraphV w v ls l) (h : (decide (0 ≤ k) && decide (k < (ls.length : Int))) = b) :
    Calls Try.prog 53 #[v, .int .i64 k] w fun e w' => e = .returned (.bool b) ∧ Below w.heap.size w w' := by
  subst h
  exact isTask_any ls l k v w hst
theorem take_snoc {l : List Int} {k : Nat} (hk : k < l.length) : l.take k ++ [l[k]] = l.take (k + 1) := (List.take_succ_eq_append_getElem hk).symm

set_option maxRecDepth 20000 in
set_option maxHeartbeats 4000000 in
theorem implGood_any (ls : List (List Int)) (l : List Int) (v : Value) (w : World) (hst : GraphV w v ls l) :
    Calls Try.prog 52 #[v] w fun e w' => e = .returned (.bool (goodG ls l)) ∧ Below w.heap.size w w' := by
  have HV := Lib.hid hst
  obtain ⟨nv, ov, rfl, h1, h2⟩ := hst
  obtain ⟨an, cn, rfl, hn1, hn2, hat⟩ := h1.lists
  obtain ⟨ao, co, rfl, ho1, ho2, hao⟩ := h2.ints
  clear h1 h2
  unfold maxLen at hn2 ho2
  have nog : ∀ {P : Prop}, (GoodP ls l → P) → ¬ P → Hid (goodG ls l = false) := fun h1 h2 => goodG_noP (fun h => h2 (h1 h))
  obtain ⟨wa, hwa⟩ : ∃ wa, wa = w.alloc (.cells #[.slice an ls.length cn, .slice ao l.length co] 27) := ⟨_, rfl⟩
  have c0 : wa.cell? ⟨w.heap.size, 0, none⟩ = some (.slice an ls.length cn) := by rw [hwa]; simp
  have c1 : wa.cell? ⟨w.heap.size, 1, none⟩ = some (.slice ao l.length co) := by rw [hwa]; simp
  have HA : Hid (Below w.heap.size w wa) := by rw [hwa]; exact (Below.refl w.heap.size w).alloc (Nat.le_refl _) _
  have hsz : w.heap.size < wa.heap.size := by rw [hwa]; simp
  have HWA := Lib.hid hwa
  by_cases h1 : 1 ≤ ls.length ∧ ls.length ≤ 10
  · by_cases h2 : l.length = ls.length
    · have e2 : ((l.length : Int) != (ls.length : Int)) = false := by simp [h2]
      have HL := Lib.hid h2
      obtain ⟨h1a, h1b⟩ := h1
      obtain ⟨w0, hmk, hown0, hb0⟩ := make_row elemB rfl ls.length wa (by omega)
      have HN0 := Lib.hid hown0
      have HB0 := Lib.hid hb0
      rw [hwa] at hmk
      have hwz : wa.heap.size = w.heap.size + 1 := by rw [hwa]; simp
      rw [hwz] at HN0
      have d0 := (HB0.out.cell (p := ⟨w.heap.size, 0, none⟩) hsz).trans c0
      have d1 := (HB0.out.cell (p := ⟨w.heap.size, 1, none⟩) hsz).trans c1
      clear hown0 hb0 h2 hwa
      go_enter Try.func52, Try.ntmps52
      go_wp2_with fail
      clear hmk e2 d0 d1
      go_loopw [28] (fun i wr => ∃ k : Nat, k ≤ l.length ∧ i = .int .i64 k ∧ Hid (∀ i (hi : i < l.length), i < k → SpotOk ls l i hi) ∧ wr.ownsRow (w.heap.size + 1) 4 1 (.slice (some ⟨w.heap.size + 1, 0, none⟩) ls.length ls.length) ls.length (Bo (marksIn ls.length (l.take k))) ∧ Below wa.heap.size wa wr) (fun i _ => l.length - (intOf i).toNat)
      case atStart => exact ⟨0, Nat.zero_le _, rfl, fun i hi h => by omega, by rw [List.take_zero, marksIn_nil, Bo_rep]; exact HN0.out, HB0.out⟩
      case round =>
        clear HN0 HB0
        obtain ⟨k, hk, rfl, HO, hown, hb⟩ := hrel
        have HN := Lib.hid hown
        have HB := Lib.hid hb
        have HBW := Lib.hid (bth HA.out hb (Nat.le_refl _))
        have d0 := (hb.cell (p := ⟨w.heap.size, 0, none⟩) hsz).trans c0
        have d1 := (hb.cell (p := ⟨w.heap.size, 1, none⟩) hsz).trans c1
        have HC0 := Lib.hid c0
        have HC1 := Lib.hid c1
        have hszr := hb.size
        clear hb c0 c1 hown
        by_cases hlt : k < l.length
        · obtain ⟨g, o, rfl, hg, hcell0⟩ := hao k hlt
          have hcell : wr.cell? ⟨g, o + k, none⟩ = some (.int .i64 l[k]) := by rw [HBW.out.cell (p := ⟨g, o + k, none⟩) hg]; exact hcell0
          clear hcell0
          by_cases hr : 0 ≤ l[k] ∧ l[k] < (ls.length : Int)
          · have CT := Lib.hid (isTask_b (HV.out.below HBW.out) (show (decide (0 ≤ l[k]) && decide (l[k] < (ls.length : Int))) = true by simp [hr]))
            obtain ⟨t, ht⟩ : ∃ t : Nat, l[k] = t := ⟨l[k].toNat, by omega⟩
            have htn : t < ls.length := by omega
            have HTL := Lib.hid ht
            have HPRE := Lib.hid (spot_range HO.out)
            have HTS := Lib.hid (take_snoc hlt)
            have HSO : Hid (∀ (h1 : (t : Int) ∉ l.take k) (h2 : Rise ls[t]) (h3 : ∀ x ∈ ls[t], x ∈ l.take k), ∀ i (hi : i < l.length), i < k + 1 → SpotOk ls l i hi) := by
              intro h1 h2 h3 i hi hik
              rcases Nat.lt_or_ge i k with h | h
              · exact HO.out i hi h
              · obtain rfl : i = k := by omega
                exact ⟨t, htn, ht, by rw [ht]; exact h1, h2, h3⟩
            have hnog1 : (t : Int) ∈ l.take k → Hid (goodG ls l = false) := fun hm => nog (fun h => (h.each k hlt)) (fun ⟨t', ht', he, hn, _⟩ => hn (by rw [ht]; exact hm))
            have hnog2 : ¬ (Rise ls[t] ∧ ∀ x ∈ ls[t], x ∈ l.take k) → Hid (goodG ls l = false) := fun hm => nog (fun h => (h.each k hlt)) (fun ⟨t', ht', he, hn, h3, h4⟩ => hm (by
              obtain rfl : t = t' := by omega
              exact ⟨h3, h4⟩))
            rw [ht] at hcell CT HTS
            clear ht nog hao HTL
            go_wp2_with fail
            refine CT.out.mono ?_
            rintro e w1 ⟨rfl, hb1⟩
            have hN1 := own_below HN.out hb1
            have HN1 := Lib.hid hN1
            have HB1 := Lib.hid (bth HB.out hb1 (Nat.le_refl _))
            have HBW1 := Lib.hid (bth HBW.out hb1 (Nat.le_refl _))
            have hcp : w1.cell? ⟨w.heap.size + 1, t, none⟩ = some (.bool (decide ((t : Int) ∈ l.take k))) := by rw [hN1.cellAt t (by omega), Bo_get? (by rw [marksIn_len]; exact htn), marksIn_at]
            have f0 := (hb1.cell (p := ⟨w.heap.size, 0, none⟩) (by show w.heap.size < wr.heap.size; omega)).trans d0
            clear d0 d1 hcell hb1 HN CT HO
            by_cases hm : (t : Int) ∈ l.take k
            · have HR := hnog1 hm
              rw [decide_eq_true hm] at hcp
              clear hnog1 hnog2 hm hat HSO HTS hN1
              go_wp2_with fail
              go_ret
              exact ⟨ret_bool HR.out.symm, HBW1.out⟩
            · obtain ⟨g2, o2, a2, c2, rfl, hg2, hcell2, hrk⟩ := hat t htn
              have hcell3 : w1.cell? ⟨g2, o2 + t, none⟩ = some (.slice a2 ls[t].length c2) := by rw [HBW1.out.cell (p := ⟨g2, o2 + t, none⟩) hg2]; exact hcell2
              have CN := areNeeds_any ls[t] (l.take k) ls.length _ _ w1 (hrk.below HBW1.out) (RowV.of_own hN1) HPRE.out
              rw [decide_eq_false hm] at hcp
              by_cases hq : Rise ls[t] ∧ ∀ x ∈ ls[t], x ∈ l.take k
              · rw [needsB_iff.2 hq] at CN
                have HCN := Lib.hid CN
                have HS1 := Lib.hid (HSO.out hm hq.1 hq.2)
                have hfz := hN1.frozenAt t
                have hst := hN1.stored t (.bool true)
                rw [Bo_set, marksIn_set, HTS.out] at hst
                have HN2 := Lib.hid hst.1
                have HB2 := Lib.hid (HB1.out.trans (only_below hst.2 (by omega) (by have := HB1.out.size; omega)))
                clear hnog1 hnog2 hm hat HSO HTS hN1 CN hcell2 hrk hst hq HN1
                generalize ls[t].length = n2 at *
                go_wp2_with fail
                refine HCN.out.mono ?_
                rintro e w' ⟨rfl, rfl⟩
                go_wp2_with fail
                go_roundw
                case rel => exact ⟨k + 1, by omega, by go_num, HS1, HN2.out, HB2.out⟩
                case measure => simp [intOf]; omega
              · rw [needsB_no hq] at CN
                have HCN := Lib.hid CN
                have HR := hnog2 hq
                clear hnog1 hnog2 hm hat HSO HTS hN1 CN hcell2 hrk hq HN1
                generalize ls[t].length = n2 at *
                go_wp2_with fail
                refine HCN.out.mono ?_
                rintro e w' ⟨rfl, rfl⟩
                go_wp2_with fail
                go_ret
                exact ⟨ret_bool HR.out.symm, HBW1.out⟩
          · have CT := Lib.hid (isTask_b (HV.out.below HBW.out) (show (decide (0 ≤ l[k]) && decide (l[k] < (ls.length : Int))) = false by rw [Bool.eq_false_iff]; intro h; rw [Bool.and_eq_true, decide_eq_true_iff, decide_eq_true_iff] at h; exact hr h))
            have HR := nog (fun h => h.each k hlt) (fun ⟨t, ht, he, _⟩ => hr (by omega))
            clear nog hao hat HO hr HN
            generalize l[k] = x at *
            go_wp2_with fail
            refine CT.out.mono ?_
            rintro e w1 ⟨rfl, hb1⟩
            have HB1 := Lib.hid (bth HBW.out hb1 (Nat.le_refl _))
            clear hb1
            go_wp2_with fail
            go_ret
            exact ⟨ret_bool HR.out.symm, HB1.out⟩
        · have HR : Hid (goodG ls l = true) := goodG_iff.2 (GoodP.toG ⟨h1a, h1b, HL.out, fun i hi => HO.out i hi (by omega)⟩)
          clear HO hat hao nog HN
          go_wp2_with fail
          go_ret
          exact ⟨ret_bool HR.out.symm, HBW.out⟩
    · have e2 : ((l.length : Int) != (ls.length : Int)) = true := by simp; omega
      have HR := nog (fun h => h.same) h2
      obtain ⟨h1a, h1b⟩ := h1
      clear h2 nog hat hao c0 c1 hwa hsz
      go_enter Try.func52, Try.ntmps52
      go_wp2_with fail
      rw [← HWA.out]
      go_ret
      exact ⟨ret_bool HR.out.symm, HA.out⟩
  · have HR := nog (fun h => And.intro h.low h.high) h1
    clear nog hat hao c0 c1 hwa hsz
    by_cases h3 : ls.length < 1
    · go_enter Try.func52, Try.ntmps52
      go_wp2_with fail
      rw [← HWA.out]
      go_ret
      exact ⟨ret_bool HR.out.symm, HA.out⟩
    · have h4 : 10 < ls.length := by omega
      clear h1
      go_enter Try.func52, Try.ntmps52
      go_wp2_with fail
      rw [← HWA.out]
      go_ret
      exact ⟨ret_bool HR.out.symm, HA.out⟩
end Go.Proofs.Ytnkkbleebfijgaa

/- Walks: whether there is such a task, where it stands. -/
namespace Go.Proofs.Ytnkkbleebfijgaa
open Go.RowKit Pth

/-- There is such a task, in a good graph. -/
noncomputable def taskG (ls : List (List Int)) (l : List Int) (k : Int) : Bool := goodG ls l && (decide (0 ≤ k) && decide (k < (ls.length : Int)))
theorem taskG_yes {ls : List (List Int)} {l : List Int} {k : Int} (h : taskG ls l k = true) : GoodG ls l ∧ 0 ≤ k ∧ k < (ls.length : Int) := by
  unfold taskG at h
  simp only [Bool.and_eq_true, decide_eq_true_eq] at h
  exact ⟨goodG_iff.1 h.1, h.2⟩
theorem taskG_good {ls : List (List Int)} {l : List Int} {k : Int} (h : goodG ls l = false) : taskG ls l k = false := by unfold taskG; rw [h]; rfl
theorem taskG_in {ls : List (List Int)} {l : List Int} {k : Int} (h : goodG ls l = true) : taskG ls l k = (decide (0 ≤ k) && decide (k < (ls.length : Int))) := by unfold taskG; rw [h]; rfl

theorem l1In_task {k : Int} {n : Nat} {w : World} {b : Bool} (h : (decide (0 ≤ k) && decide (k < (n : Int))) = b) :
    Calls Try.prog 87 #[.int .i64 k, .int .i64 0, .int .i64 ((n : Int) - 1)] w fun e w' => e = .returned (.bool b) ∧ w = w' := by
  have e : (decide (0 ≤ k) && decide (k ≤ (n : Int) - 1)) = b := by rw [← h, Bool.eq_iff_iff]; simp; omega
  have := l1In_any k 0 ((n : Int) - 1) w
  rw [e] at this
  exact this

set_option maxRecDepth 20000 in
set_option maxHeartbeats 1000000 in
theorem l5Task_any (ls : List (List Int)) (l : List Int) (k : Int) (v : Value) (w : World) (hst : GraphV w v ls l) :
    Calls Try.prog 44 #[v, .int .i64 k] w fun e w' => e = .returned (.bool (taskG ls l k)) ∧ Below w.heap.size w w' := by
  have HV := Lib.hid hst
  obtain ⟨nv, ov, rfl, h1, h2⟩ := hst
  obtain ⟨an, cn, rfl, hn1, hn2, _⟩ := h1.lists
  obtain ⟨ao, co, rfl, ho1, ho2, _⟩ := h2.ints
  clear h1 h2
  unfold maxLen at hn2 ho2
  obtain ⟨wa, hwa⟩ : ∃ wa, wa = w.alloc (.cells #[.slice an ls.length cn, .slice ao l.length co] 27) := ⟨_, rfl⟩
  have P0 : Hid (Blk2 wa w.heap.size 27 (.slice an ls.length cn) (.slice ao l.length co)) := by rw [hwa]; exact Blk2.new
  have HA : Hid (Below w.heap.size w wa) := by rw [hwa]; exact (Below.refl w.heap.size w).alloc (Nat.le_refl _) _
  have hsz : w.heap.size < wa.heap.size := by rw [hwa]; simp
  have HWA := Lib.hid hwa
  have HC := specGood_any ls l _ wa (HV.out.below HA.out)
  clear hwa
  rcases hG : goodG ls l with _ | _
  · rw [hG] at HC
    have HCC := Lib.hid HC
    have HT := Lib.hid (taskG_good (k := k) hG)
    rw [HT.out]
    clear HC hG
    go_enter Try.func44, Try.ntmps44
    go_wp2_with fail
    rw [← HWA.out]
    refine HCC.out.mono ?_
    rintro e w1 ⟨rfl, hb1⟩
    have HB1 := Lib.hid (bth HA.out hb1 (Nat.le_refl _))
    clear hb1
    go_wp2_with fail
    go_ret
    exact ⟨rfl, HB1.out⟩
  · rw [hG] at HC
    have HCC := Lib.hid HC
    have HT := Lib.hid (taskG_in (k := k) hG)
    rw [HT.out]
    generalize hb : (decide (0 ≤ k) && decide (k < (ls.length : Int))) = b
    have HI := Lib.hid (fun W => l1In_task (n := ls.length) (w := W) hb)
    clear HC hG hb HT
    go_enter Try.func44, Try.ntmps44
    go_wp2_with fail
    rw [← HWA.out]
    refine HCC.out.mono ?_
    rintro e w1 ⟨rfl, hb1⟩
    have HB1 := Lib.hid (bth HA.out hb1 (Nat.le_refl _))
    have c0 := (P0.out.below hb1 hsz).cells.1
    clear hb1
    go_wp2_with fail
    refine (HI.out _).mono ?_
    rintro e w2 ⟨rfl, rfl⟩
    go_wp2_with fail
    go_ret
    exact ⟨rfl, HB1.out⟩

set_option maxHeartbeats 1000000 in
theorem index_any (l : List Int) (n : Int) (v : Value) (w : World) (hrow : RowV w v (I l)) :
    Calls Try.prog 91 #[v, .int .i64 n] w fun e w' => e = .returned (.int .i64 (placeI l n)) ∧ w = w' := by
  obtain ⟨a, cap, rfl, hc1, hc2, hat⟩ := hrow.ints
  clear hrow
  unfold maxLen at hc2
  go_enter Try.func91, Try.ntmps91
  go_wp2_with fail
  go_loop [8] (fun i => ∃ k : Nat, k ≤ l.length ∧ i = .int .i64 k ∧ Hid (n ∉ l.take k)) (fun i => l.length - (intOf i).toNat)
  case atStart => exact ⟨0, Nat.zero_le _, rfl, by simp [Hid]⟩
  case round =>
    obtain ⟨k, hk, rfl, HO⟩ := hrel
    by_cases hlt : k < l.length
    · obtain ⟨g, o, rfl, hg, hcell⟩ := hat k hlt
      clear hat
      by_cases hx : l[k] = n
      · have HR : Hid (placeI l n = k) := place_at hlt HO.out hx
        have hx1 : (n == l[k]) = true := by simp [hx]
        generalize l[k] = x at hcell hx hx1
        clear HO hx
        go_wp2_with fail
        go_ret
        exact ⟨ret_int HR.out.symm, rfl⟩
      · have HR : Hid (n ∉ l.take (k + 1)) := not_take hlt HO.out hx
        have hx1 : (n == l[k]) = false := by simp; exact fun h => hx h.symm
        generalize l[k] = x at hcell hx hx1
        clear HO hx
        go_wp2_with fail
        go_round
        case rel => exact ⟨k + 1, by omega, by go_num, HR⟩
        case measure => simp [intOf]; omega
    · have HR : Hid (placeI l n = -1) := by have := HO.out; rw [List.take_of_length_le (by omega)] at this; exact place_none this
      clear HO hat
      go_wp2_with fail
      go_ret
      exact ⟨ret_int HR.out.symm, rfl⟩

set_option maxHeartbeats 1000000 in
theorem contains_any (l : List Int) (n : Int) (v : Value) (w : World) (hrow : RowV w v (I l)) :
    Calls Try.prog 54 #[v, .int .i64 n] w fun e w' => e = .returned (.bool (hasL l n)) ∧ w = w' := by
  have HC := Lib.hid (index_any l n v w hrow)
  have HR : Hid (decide (placeI l n ≥ 0) = hasL l n) := by
    show decide (placeI l n ≥ 0) = hasL l n
    rw [hasL, Bool.eq_iff_iff, decide_eq_true_iff, decide_eq_true_iff]; exact place_nonneg
  obtain ⟨a, cap, rfl, hc1, hc2, _⟩ := hrow.ints
  clear hrow
  unfold maxLen at hc2
  go_enter Try.func54, Try.ntmps54
  go_wp2_with fail
  refine HC.out.mono ?_
  rintro e w1 ⟨rfl, rfl⟩
  go_wp2_with fail
  go_ret
  exact ⟨ret_bool HR.out, rfl⟩

/-- Where a task stands, and whether there is such a one. -/
noncomputable def placeA (ls : List (List Int)) (l : List Int) (k : Int) : Int := if taskG ls l k then placeI l k else 0
def PlacePost (ls : List (List Int)) (l : List Int) (k : Int) (w : World) (e : Ending) (w' : World) : Prop := e = .returned (.tuple #[.int .i64 (placeA ls l k), .bool (taskG ls l k)]) ∧ Below w.heap.size w w'

end Go.Proofs.Ytnkkbleebfijgaa

/- Plain mathematics of ways of needs: how far, by a queue and along the order; no program. -/
namespace Go.Proofs.Ytnkkbleebfijgaa
namespace Pth

/-- What a task needs. -/
def needsAt (ls : List (List Int)) (k : Int) : List Int := ls.getD k.toNat []
theorem needsAt_get {ls : List (List Int)} {k : Nat} (hk : k < ls.length) : needsAt ls k = ls[k] := by
  unfold needsAt; simp [hk]
/-- So many needs lead from a task to t. -/
def Way (ls : List (List Int)) (t : Int) : Nat → Int → Prop
  | 0, k => k = t
  | m + 1, k => ∃ x ∈ needsAt ls k, Way ls t m x
/-- How many at least, -1 for none. -/
def IsFar (ls : List (List Int)) (t k d : Int) : Prop := (∃ m : Nat, d = m ∧ Way ls t m k ∧ ∀ j, j < m → ¬ Way ls t j k) ∨ (d = -1 ∧ ∀ m, ¬ Way ls t m k)
theorem far_exists (ls : List (List Int)) (t k : Int) : ∃ d, IsFar ls t k d := by
  rcases Classical.em (∃ m, Way ls t m k) with ⟨m, hm⟩ | h
  · induction m using Nat.strongRecOn with
    | ind m ih =>
      rcases Classical.em (∃ j, j < m ∧ Way ls t j k) with ⟨j, hj, hw⟩ | h
      · exact ih j hj hw
      · exact ⟨m, .inl ⟨m, rfl, hm, fun j hj hw => h ⟨j, hj, hw⟩⟩⟩
  · exact ⟨-1, .inr ⟨rfl, fun m hm => h ⟨m, hm⟩⟩⟩
theorem far_one {ls : List (List Int)} {t k d e : Int} (h : IsFar ls t k d) (h' : IsFar ls t k e) : d = e := by
  rcases h with ⟨m, rfl, h1, h2⟩ | ⟨rfl, h1⟩ <;> rcases h' with ⟨m', rfl, h1', h2'⟩ | ⟨rfl, h1'⟩
  · rcases Nat.lt_trichotomy m m' with h | h | h
    · exact absurd h1 (h2' m h)
    · rw [h]
    · exact absurd h1' (h2 m' h)
  · exact absurd h1 (h1' m)
  · exact absurd h1' (h1 m')
  · rfl
noncomputable def farI (ls : List (List Int)) (t k : Int) : Int := Classical.choose (far_exists ls t k)
theorem farI_is (ls : List (List Int)) (t k : Int) : IsFar ls t k (farI ls t k) := Classical.choose_spec (far_exists ls t k)
theorem farI_eq {ls : List (List Int)} {t k d : Int} (h : IsFar ls t k d) : farI ls t k = d := far_one (farI_is ls t k) h
theorem farI_low (ls : List (List Int)) (t k : Int) : -1 ≤ farI ls t k := by
  rcases farI_is ls t k with ⟨m, h, _⟩ | ⟨h, _⟩ <;> omega
theorem farI_self (ls : List (List Int)) (t : Int) : farI ls t t = 0 := farI_eq (.inl ⟨0, rfl, rfl, fun j hj => by omega⟩)
theorem farI_zero {ls : List (List Int)} {t k : Int} (h : farI ls t k = 0) : k = t := by
  rcases farI_is ls t k with ⟨m, hm, h1, _⟩ | ⟨hm, _⟩
  · have : m = 0 := by omega
    subst this; exact h1
  · omega
theorem farI_le {ls : List (List Int)} {t k : Int} {m : Nat} (h : Way ls t m k) : 0 ≤ farI ls t k ∧ farI ls t k ≤ m := by
  rcases farI_is ls t k with ⟨j, hj, h1, h2⟩ | ⟨_, h1⟩
  · rcases Nat.lt_or_ge m j with h' | h'
    · exact absurd h (h2 m h')
    · omega
  · exact absurd h (h1 m)
theorem farI_way {ls : List (List Int)} {t k : Int} (h : 0 ≤ farI ls t k) : Way ls t (farI ls t k).toNat k := by
  rcases farI_is ls t k with ⟨j, hj, h1, h2⟩ | ⟨h', _⟩
  · rw [hj]; exact h1
  · omega
/-- The next one on a shortest way. -/
theorem far_next {ls : List (List Int)} {t k : Int} {m : Nat} (h : farI ls t k = (m : Int) + 1) : ∃ x ∈ needsAt ls k, farI ls t x = m := by
  have hw := farI_way (ls := ls) (t := t) (k := k) (by omega)
  rw [h, show ((m : Int) + 1).toNat = m + 1 by omega] at hw
  obtain ⟨x, hx, hxw⟩ := hw
  refine ⟨x, hx, ?_⟩
  have h1 := farI_le hxw
  by_cases h' : farI ls t x < m
  · have h2 := farI_way h1.1
    have h3 : Way ls t ((farI ls t x).toNat + 1) k := ⟨x, hx, h2⟩
    have h4 := farI_le h3
    omega
  · omega
theorem far_edge {ls : List (List Int)} {t k x : Int} (hx : x ∈ needsAt ls k) (h : 0 ≤ farI ls t x) : 0 ≤ farI ls t k ∧ farI ls t k ≤ farI ls t x + 1 := by
  have h3 : Way ls t ((farI ls t x).toNat + 1) k := ⟨x, hx, farI_way h⟩
  have h4 := farI_le h3
  omega

/-- The next ones least. -/
noncomputable def nextI (ls : List (List Int)) (t k : Int) : Int := ((needsAt ls k).find? (fun x => decide (farI ls t x = farI ls t k - 1))).getD t
noncomputable def wayL (ls : List (List Int)) (t : Int) : Nat → Int → List Int
  | 0, k => [k]
  | m + 1, k => k :: wayL ls t m (nextI ls t k)
theorem next_at {ls : List (List Int)} {t k : Int} {j : Nat} (hj : j < (needsAt ls k).length) (h : ∀ i (hi : i < j), farI ls t (needsAt ls k)[i] ≠ farI ls t k - 1) (he : farI ls t (needsAt ls k)[j] = farI ls t k - 1) : nextI ls t k = (needsAt ls k)[j] := by
  have : (needsAt ls k).find? (fun x => decide (farI ls t x = farI ls t k - 1)) = some (needsAt ls k)[j] := by
    rw [List.find?_eq_some_iff_getElem]
    refine ⟨by simpa using he, j, hj, rfl, fun i hi => ?_⟩
    have := h i hi
    simpa using this
  unfold nextI
  rw [this]; rfl
theorem next_far {ls : List (List Int)} {t k : Int} {m : Nat} (h : farI ls t k = (m : Int) + 1) : farI ls t (nextI ls t k) = m ∧ nextI ls t k ∈ needsAt ls k := by
  obtain ⟨x, hx, hf⟩ := far_next h
  have : ((needsAt ls k).find? (fun x => decide (farI ls t x = farI ls t k - 1))).isSome = true := by
    rw [List.find?_isSome]
    exact ⟨x, hx, by simp; omega⟩
  obtain ⟨y, hy⟩ := Option.isSome_iff_exists.1 this
  have h1 := List.find?_some hy
  have h2 := List.mem_of_find?_eq_some hy
  simp only [decide_eq_true_eq] at h1
  unfold nextI
  rw [hy]
  exact ⟨by simp only [Option.getD_some]; omega, h2⟩
theorem wayL_len (ls : List (List Int)) (t : Int) (m : Nat) (k : Int) : (wayL ls t m k).length = m + 1 := by
  induction m generalizing k with
  | zero => rfl
  | succ m ih => rw [wayL, List.length_cons, ih]

/-- What the queue keeps while one is looked at: those that are behind it, those that are left. -/
structure Spread (ls : List (List Int)) (t : Int) (out : List Int) (all : List Int) : Prop where
  len : out.length = ls.length
  self : t ∈ all ∧ out.getD t.toNat (-1) = 0
  sound : ∀ k : Nat, k < ls.length → (out.getD k (-1) = -1 ∧ (k : Int) ∉ all) ∨ (0 ≤ out.getD k (-1) ∧ (k : Int) ∈ all ∧ Way ls t (out.getD k (-1)).toNat k)
  range : ∀ k ∈ all, 0 ≤ k ∧ k < (ls.length : Int)
  nodup : all.Nodup
/-- How far by the list so far. -/
def at' (out : List Int) (k : Int) : Int := out.getD k.toNat (-1)
structure Front (ls : List (List Int)) (t : Int) (out : List Int) (done queue : List Int) : Prop where
  spread : Spread ls t out (done ++ queue)
  sorted : queue.Pairwise (fun a b => at' out a ≤ at' out b)
  near : ∀ q r, queue = q :: r → ∀ p ∈ done ++ queue, at' out p ≤ at' out q + 1
  closed : ∀ x ∈ done, ∀ k : Nat, (hk : k < ls.length) → x ∈ ls[k] → (k : Int) ∈ done ++ queue ∧ at' out k ≤ at' out x + 1
structure Inner (ls : List (List Int)) (t : Int) (out : List Int) (done : List Int) (x : Int) (d : Int) (queue us : List Int) : Prop where
  spread : Spread ls t out (done ++ x :: queue)
  dist : at' out x = d
  d0 : 0 ≤ d
  sorted : queue.Pairwise (fun a b => at' out a ≤ at' out b)
  least : ∀ q ∈ queue, d ≤ at' out q
  near : ∀ p ∈ done ++ x :: queue, at' out p ≤ d + 1
  closed : ∀ y ∈ done, ∀ k : Nat, (hk : k < ls.length) → y ∈ ls[k] → (k : Int) ∈ done ++ x :: queue ∧ at' out k ≤ at' out y + 1
  seen : ∀ k ∈ us, k ∈ done ++ x :: queue

theorem at_start {n : Nat} {t : Nat} (ht : t < n) (k : Nat) (hk : k < n) : ((List.replicate n (-1 : Int)).set t 0).getD k (-1) = if k = t then 0 else -1 := by
  rw [List.getD_eq_getElem?_getD, List.getElem?_set]
  by_cases h : t = k
  · subst h; simp [ht]
  · rw [if_neg h, if_neg (fun e => h e.symm)]; simp [hk]
theorem Front.start {ls : List (List Int)} {t : Nat} (ht : t < ls.length) : Front ls t ((List.replicate ls.length (-1)).set t 0) [] [(t : Int)] := by
  refine ⟨⟨by simp, ⟨by simp, ?_⟩, fun k hk => ?_, fun k hk => ?_, by simp⟩, by simp, fun q r h p hp => ?_, by simp⟩
  · rw [show ((t : Int)).toNat = t by omega, at_start ht t ht, if_pos rfl]
  · rw [at_start ht k hk]
    by_cases h : k = t
    · subst h; rw [if_pos rfl]; exact .inr ⟨by omega, by simp, rfl⟩
    · rw [if_neg h]; exact .inl ⟨rfl, by simp; omega⟩
  · simp at hk; omega
  · simp only [List.nil_append, List.mem_singleton] at hp
    injection h with h1 h2
    rw [hp, ← h1]; omega
theorem Front.open {ls : List (List Int)} {t : Int} {out done queue : List Int} {x : Int} (h : Front ls t out done (x :: queue)) : Inner ls t out done x (at' out x) queue [] := by
  have hx := h.spread.range x (by simp)
  have h2 := List.pairwise_cons.1 h.sorted
  refine ⟨h.spread, rfl, ?_, h2.2, fun q hq => h2.1 q hq, fun p hp => h.near x queue rfl p hp, h.closed, by simp⟩
  rcases h.spread.sound x.toNat (by omega) with h3 | h3
  · rw [show ((x.toNat : Nat) : Int) = x by omega] at h3; exact absurd (by simp) h3.2
  · exact h3.1
theorem Inner.close {ls : List (List Int)} {t : Int} {out done queue us : List Int} {x d : Int} (h : Inner ls t out done x d queue us) (hus : ∀ k : Nat, (hk : k < ls.length) → x ∈ ls[k] → (k : Int) ∈ us) : Front ls t out (done ++ [x]) queue := by
  have e : done ++ [x] ++ queue = done ++ x :: queue := by simp
  refine ⟨by rw [e]; exact h.spread, h.sorted, fun q r hq p hp => ?_, fun y hy k hk hm => ?_⟩
  · rw [e] at hp
    have h1 := h.near p hp
    have h2 := h.least q (by rw [hq]; simp)
    omega
  · rw [e]
    rw [List.mem_append, List.mem_singleton] at hy
    rcases hy with hy | rfl
    · exact h.closed y hy k hk hm
    · have := h.seen k (hus k hk hm)
      exact ⟨this, by have := h.near k this; rw [h.dist]; exact this⟩
theorem Inner.skip {ls : List (List Int)} {t : Int} {out done queue us : List Int} {x d : Int} {k : Nat} (h : Inner ls t out done x d queue us) (hk : k < ls.length) (hs : ¬ at' out k < 0) : Inner ls t out done x d queue (us ++ [(k : Int)]) := by
  refine ⟨h.spread, h.dist, h.d0, h.sorted, h.least, h.near, h.closed, fun j hj => ?_⟩
  rw [List.mem_append, List.mem_singleton] at hj
  rcases hj with hj | rfl
  · exact h.seen j hj
  · rcases h.spread.sound k hk with h1 | h1
    · exact absurd (show at' out k < 0 by unfold at'; rw [show ((k : Int)).toNat = k by omega, h1.1]; omega) hs
    · exact h1.2.1
theorem set_at {out : List Int} {k j : Nat} {e : Int} (hk : k < out.length) : (out.set k e).getD j (-1) = if j = k then e else out.getD j (-1) := by
  rw [List.getD_eq_getElem?_getD, List.getElem?_set, List.getD_eq_getElem?_getD]
  by_cases h : k = j
  · subst h; simp [hk]
  · rw [if_neg h, if_neg (fun e => h e.symm)]
theorem Inner.put {ls : List (List Int)} {t : Int} {out done queue us : List Int} {x d : Int} {k : Nat} (h : Inner ls t out done x d queue us) (hk : k < ls.length) (hm : x ∈ ls[k]) (hs : at' out k < 0) :
    Inner ls t (out.set k (d + 1)) done x d (queue ++ [(k : Int)]) (us ++ [(k : Int)]) := by
  have hkl : k < out.length := by rw [h.spread.len]; exact hk
  have hno : (k : Int) ∉ done ++ x :: queue := by
    rcases h.spread.sound k hk with h1 | h1
    · exact h1.2
    · exact absurd h1.1 (by unfold at' at hs; rw [show ((k : Int)).toNat = k by omega] at hs; omega)
  have e : done ++ x :: (queue ++ [(k : Int)]) = (done ++ x :: queue) ++ [(k : Int)] := by simp
  have same : ∀ p ∈ done ++ x :: queue, at' (out.set k (d + 1)) p = at' out p := by
    intro p hp
    have hr := h.spread.range p hp
    unfold at'
    rw [set_at hkl, if_neg]
    intro he
    exact hno (by rw [← he, show ((p.toNat : Nat) : Int) = p by omega]; exact hp)
  have new : at' (out.set k (d + 1)) k = d + 1 := by
    unfold at'
    rw [show ((k : Int)).toNat = k by omega, set_at hkl, if_pos rfl]
  have hx := h.spread.range x (by simp)
  have hway : Way ls t d.toNat x := by
    rcases h.spread.sound x.toNat (by omega) with h1 | h1
    · rw [show ((x.toNat : Nat) : Int) = x by omega] at h1; exact absurd (by simp) h1.2
    · have := h1.2.2
      rw [show ((x.toNat : Nat) : Int) = x by omega] at this
      have hd := h.dist
      unfold at' at hd
      rw [hd] at this; exact this
  have d0 := h.d0
  refine ⟨⟨by rw [List.length_set]; exact h.spread.len, ⟨by rw [e]; exact List.mem_append.2 (.inl h.spread.self.1), ?_⟩, fun j hj => ?_, fun j hj => ?_, ?_⟩, by rw [same x (by simp)]; exact h.dist, d0, ?_, fun q hq => ?_, fun p hp => ?_, fun y hy j hj hym => ?_, fun j hj => ?_⟩
  · have := same t h.spread.self.1
    unfold at' at this
    rw [this]; exact h.spread.self.2
  · rw [e, set_at hkl]
    by_cases hjk : j = k
    · subst hjk
      rw [if_pos rfl]
      refine .inr ⟨by omega, by simp, ?_⟩
      rw [show (d + 1).toNat = d.toNat + 1 by omega]
      exact ⟨x, by rw [needsAt_get hj]; exact hm, hway⟩
    · rw [if_neg hjk]
      rcases h.spread.sound j hj with h1 | h1
      · exact .inl ⟨h1.1, by rw [List.mem_append, List.mem_singleton]; rintro (h2 | h2); exact h1.2 h2; omega⟩
      · exact .inr ⟨h1.1, List.mem_append.2 (.inl h1.2.1), h1.2.2⟩
  · rw [e, List.mem_append, List.mem_singleton] at hj
    rcases hj with hj | rfl
    · exact h.spread.range j hj
    · omega
  · rw [e, List.nodup_append]
    refine ⟨h.spread.nodup, by simp, fun a ha b hb => ?_⟩
    rw [List.mem_singleton] at hb
    rintro rfl
    exact hno (by rw [← hb]; exact ha)
  · rw [List.pairwise_append]
    refine ⟨h.sorted.imp_of_mem (fun ha hb hab => by rw [same _ (by simp [ha]), same _ (by simp [hb])]; exact hab), by simp, fun a ha b hb => ?_⟩
    rw [List.mem_singleton] at hb
    rw [hb, new, same a (by simp [ha])]
    exact h.near a (by simp [ha])
  · rw [List.mem_append, List.mem_singleton] at hq
    rcases hq with hq | rfl
    · rw [same q (by simp [hq])]; exact h.least q hq
    · rw [new]; omega
  · rw [e, List.mem_append, List.mem_singleton] at hp
    rcases hp with hp | rfl
    · rw [same p hp]; exact h.near p hp
    · rw [new]; omega
  · obtain ⟨h1, h2⟩ := h.closed y hy j hj hym
    rw [e, same _ h1, same y (by simp [hy])]
    exact ⟨List.mem_append.2 (.inl h1), h2⟩
  · rw [e, List.mem_append]
    rw [List.mem_append] at hj
    rcases hj with hj | hj
    · exact .inl (h.seen j hj)
    · exact .inr hj
/-- Where the queue is empty, all is known. -/
theorem Front.done {ls : List (List Int)} {t : Int} {out done : List Int} (hin : ∀ k (hk : k < ls.length), ∀ x ∈ ls[k], 0 ≤ x ∧ x < (ls.length : Int)) (h : Front ls t out done []) : out = (upto ls.length).map (farI ls t) := by
  have hle : ∀ m : Nat, ∀ k : Nat, k < ls.length → Way ls t m k → 0 ≤ out.getD k (-1) ∧ out.getD k (-1) ≤ m := by
    intro m
    induction m with
    | zero =>
      intro k hk hw
      have : (k : Int) = t := hw
      have h1 := h.spread.self.2
      rw [← this, show ((k : Int)).toNat = k by omega] at h1
      rw [h1]; omega
    | succ m ih =>
      intro k hk hw
      obtain ⟨x, hx, hxw⟩ := hw
      rw [needsAt_get hk] at hx
      have hxr := hin k hk x hx
      have hxe : ((x.toNat : Nat) : Int) = x := by omega
      have h1 := ih x.toNat (by omega) (by rw [hxe]; exact hxw)
      have h2 : x ∈ done := by
        rcases h.spread.sound x.toNat (by omega) with h3 | h3
        · omega
        · have := h3.2.1; rw [hxe, List.append_nil] at this; exact this
      obtain ⟨h3, h4⟩ := h.closed x h2 k hk hx
      unfold at' at h4
      rw [show ((k : Int)).toNat = k by omega] at h4
      rcases h.spread.sound k hk with h5 | h5
      · exact absurd h3 h5.2
      · omega
  apply List.ext_getElem (by rw [h.spread.len, List.length_map, upto_len])
  intro k h1 h2
  have hk : k < ls.length := by rw [h.spread.len] at h1; exact h1
  rw [List.getElem_map, upto_get]
  symm
  apply farI_eq
  have hg : out.getD k (-1) = out[k] := by rw [List.getD_eq_getElem?_getD, List.getElem?_eq_getElem h1]; rfl
  rcases h.spread.sound k hk with h3 | h3
  · refine .inr ⟨by rw [← hg]; exact h3.1, fun m hw => ?_⟩
    have := hle m k hk hw
    omega
  · refine .inl ⟨(out.getD k (-1)).toNat, by rw [← hg]; omega, h3.2.2, fun j hj hw => ?_⟩
    have := hle j k hk hw
    omega
theorem Front.room {ls : List (List Int)} {t : Int} {out done queue : List Int} (h : Front ls t out done queue) : done.length + queue.length ≤ ls.length := by
  have := nodup_sub (a := done ++ queue) (b := upto ls.length) h.spread.nodup (fun x hx => mem_upto.2 (h.spread.range x hx))
  rw [upto_len, List.length_append] at this
  exact this
end Pth
end Go.Proofs.Ytnkkbleebfijgaa

/- Walks: those that need a task. -/
namespace Go.Proofs.Ytnkkbleebfijgaa
open Go.RowKit Pth

/-- Those of the first k that need a task. -/
def usersK (ls : List (List Int)) (t : Int) (k : Nat) : List Int := (upto k).filter (fun i => hasL (needsAt ls i) t)
theorem usersK_yes {ls : List (List Int)} {t : Int} {k : Nat} (hk : k < ls.length) (h : hasL ls[k] t = true) : usersK ls t (k + 1) = usersK ls t k ++ [(k : Int)] := by
  unfold usersK
  rw [upto_succ, List.filter_append]
  simp [needsAt_get hk, h]
theorem usersK_no {ls : List (List Int)} {t : Int} {k : Nat} (hk : k < ls.length) (h : hasL ls[k] t = false) : usersK ls t (k + 1) = usersK ls t k := by
  unfold usersK
  rw [upto_succ, List.filter_append]
  simp [needsAt_get hk, h]
theorem usersK_len (ls : List (List Int)) (t : Int) (k : Nat) : (usersK ls t k).length ≤ k := by
  have := List.length_filter_le (fun i => hasL (needsAt ls i) t) (upto k)
  rw [upto_len] at this
  exact this
def usersL (ls : List (List Int)) (t : Int) : List Int := usersK ls t ls.length
theorem mem_users {ls : List (List Int)} {t x : Int} : x ∈ usersL ls t ↔ (0 ≤ x ∧ x < (ls.length : Int)) ∧ t ∈ needsAt ls x := by
  unfold usersL usersK
  rw [List.mem_filter, mem_upto, hasL, decide_eq_true_iff]

theorem none_ownZ (B e : Nat) (w : World) : w.ownsRow B e 1 (.slice none 0 0) ([] : List Int).length (I []) := ⟨rfl, .inl ⟨rfl, rfl⟩⟩
theorem own_Z {w : World} {B e : Nat} {v : Value} {l : List Int} (h : w.ownsRow B e 1 v l.length (I l)) : w.ownsRow B e 1 v (I l).length (I l) := by rw [I_len]; exact h
theorem own_Z2 {w : World} {B e : Nat} {v : Value} {l : List Int} {x : Int} (h : w.ownsRow B e 1 v (I l ++ [Value.int .i64 x]).length (I l ++ [Value.int .i64 x])) : w.ownsRow B e 1 v (l ++ [x]).length (I (l ++ [x])) := by
  rw [I_append, ← I_len (l ++ [x]), I_append]; exact h

set_option maxRecDepth 20000 in
set_option maxHeartbeats 2000000 in
theorem l5Users_any (ls : List (List Int)) (l : List Int) (t : Int) (v : Value) (w : World) (hst : GraphV w v ls l) (hn : ls.length ≤ 10) :
    Calls Try.prog 111 #[v, .int .i64 t] w (IntsPost w.heap.size (usersL ls t) w) := by
  obtain ⟨nv, ov, rfl, h1, h2⟩ := hst
  obtain ⟨an, cn, rfl, hn1, hn2, hat⟩ := h1.lists
  obtain ⟨ao, co, rfl, ho1, ho2, _⟩ := h2.ints
  clear h1 h2
  unfold maxLen at hn2 ho2
  obtain ⟨wa, hwa⟩ : ∃ wa, wa = w.alloc (.cells #[.slice an ls.length cn, .slice ao l.length co] 27) := ⟨_, rfl⟩
  have HA : Hid (Below w.heap.size w wa) := by rw [hwa]; exact (Below.refl w.heap.size w).alloc (Nat.le_refl _) _
  have HWA := Lib.hid hwa
  clear hwa
  go_enter Try.func111, Try.ntmps111
  go_wp2_with fail
  rw [← HWA.out]
  go_loopw [5, 11] (fun q i wr => ∃ k : Nat, k ≤ ls.length ∧ i = .int .i64 k ∧ Hid (Below w.heap.size w wr) ∧ Hid (wr.ownsRow w.heap.size 3 1 q (usersK ls t k).length (I (usersK ls t k)))) (fun _ i _ => ls.length - (intOf i).toNat)
  case atStart => exact ⟨0, Nat.zero_le _, rfl, HA.out, none_ownZ _ _ _⟩
  case round =>
    obtain ⟨k, hk, rfl, HB, HN⟩ := hrel
    have hbs := HB.out.size
    have hcl := usersK_len ls t k
    by_cases hlt : k < ls.length
    · obtain ⟨g, o, a2, c2, rfl, hg, hcell0, hrk⟩ := hat k hlt
      have hcell : wr.cell? ⟨g, o + k, none⟩ = some (.slice a2 ls[k].length c2) := by rw [HB.out.cell (p := ⟨g, o + k, none⟩) hg]; exact hcell0
      have CH := l1Has_any ls[k] t _ wr (hrk.below HB.out)
      clear hat hcell0 hrk
      rcases hh : hasL ls[k] t with _ | _
      · have HE := Lib.hid (usersK_no hlt hh)
        rw [hh] at CH
        have HC := Lib.hid CH
        clear CH hh
        generalize ls[k].length = n1 at *
        go_wp2_with fail
        refine HC.out.mono ?_
        rintro e w1 ⟨rfl, rfl⟩
        go_wp2_with fail
        go_roundw
        case rel => exact ⟨k + 1, by omega, by go_num, HB, by rw [HE.out]; exact HN.out⟩
        case measure => simp [intOf]; omega
      · have HE := Lib.hid (usersK_yes hlt hh)
        rw [hh] at CH
        have HC := Lib.hid CH
        have HNA := Lib.hid (own_Z HN.out)
        have hIl : (I (usersK ls t k)).length ≤ 1000000 := by rw [I_len]; omega
        clear CH hh HN
        generalize ls[k].length = n1 at *
        generalize usersK ls t k = m at *
        go_wp2_with fail
        refine HC.out.mono ?_
        rintro e w1 ⟨rfl, rfl⟩
        go_wp2_with (at_builtin; refine wpAppOne elemI rfl _ _ rfl w.heap.size _ (I m) rfl HNA.out _ rfl rfl rfl hIl HB.out.size ?_; intro v7 w7 hown7 hg7; have HN7 := Lib.hid (own_Z2 hown7); have HB7 := Lib.hid (HB.out.trans (below_own HNA.out hg7 HB.out.size)); clear hown7 hg7)
        go_roundw
        case rel => exact ⟨k + 1, by omega, by go_num, HB7, by rw [HE.out]; exact HN7.out⟩
        case measure => simp [intOf]; omega
    · obtain rfl : k = ls.length := by omega
      clear hat
      go_wp2_with fail
      go_ret
      exact ⟨_, rfl, HN.out, HB.out⟩

/-- A list of the call's own, and whether it is told. -/
def ListOk (m : List Int) (b : Bool) (w : World) (e : Ending) (w' : World) : Prop := ∃ v', e = .returned (.tuple #[v', .bool b]) ∧ w'.ownsRow w.heap.size 3 1 v' m.length (I m) ∧ Below w.heap.size w w'
noncomputable def usersA (ls : List (List Int)) (l : List Int) (t : Int) : List Int := if taskG ls l t then usersL ls t else []
theorem usersA_no {ls : List (List Int)} {l : List Int} {t : Int} (h : taskG ls l t = false) : usersA ls l t = [] := by unfold usersA; rw [h]; rfl
theorem usersA_yes {ls : List (List Int)} {l : List Int} {t : Int} (h : taskG ls l t = true) : usersA ls l t = usersL ls t := by unfold usersA; rw [h]; rfl
theorem usersA_short (ls : List (List Int)) (l : List Int) (t : Int) : (usersA ls l t).length ≤ 1000000 := by
  rcases h : taskG ls l t with _ | _
  · rw [usersA_no h]; simp
  · rw [usersA_yes h]
    have h1 := (taskG_yes h).1.high
    have h2 := usersK_len ls t ls.length
    unfold usersL
    omega

end Go.Proofs.Ytnkkbleebfijgaa

/- Walks: new graphs. -/
namespace Go.Proofs.Ytnkkbleebfijgaa
open Go.RowKit Pth

/-- A graph of the call's own, and whether it is told. -/
def GraphOk (ls : List (List Int)) (l : List Int) (b : Bool) (w : World) (e : Ending) (w' : World) : Prop := ∃ v', e = .returned (.tuple #[v', .bool b]) ∧ GraphO w.heap.size w' v' ls l ∧ Below w.heap.size w w'
theorem GraphO.none (B : Nat) (w : World) : GraphO B w (.agg #[.slice none 0 0, .slice none 0 0]) [] [] :=
  ⟨_, _, [], rfl, rfl, ⟨rfl, .inl ⟨rfl, rfl⟩⟩, fun p hp => by
    simp only [List.zip_nil_left, List.nil_append, List.mem_singleton] at hp
    subst hp
    exact ⟨rfl, .inl ⟨rfl, rfl⟩⟩, by simp⟩

/-- What a new list's block holds. -/
theorem make_alloc {t e : TypeId} {z : Value} {bytes : Nat} (E : Elem t e z bytes) (hz : z.cells = #[z]) (n : Nat) (hn : n ≤ 2000000) :
    ∃ cs : Array Value, cs.toList = List.replicate n z ∧ ∀ w : World, (Instr.makeSlice t (.int .i64 (n : Int)) (.int .i64 (n : Int))).run Try.prog w = .ok (.slice (some ⟨w.heap.size, 0, none⟩) n n) (w.alloc (.cells cs e)) := by
  obtain ⟨i0, hi, hz0, hz1, hz2⟩ := info_parts E.info
  refine ⟨madeCells z.cells (n * i0.size), by rw [hz, hz1, Nat.mul_one, toList_madeCells_one], fun w => ?_⟩
  have hb : ((i0.bytes : Int)) * (n : Int) ≤ 281474976710656 := by
    have h : i0.bytes * n ≤ 281474976710656 := by rw [hz2]; exact Nat.le_trans (Nat.mul_le_mul E.small hn) (by decide)
    have h' : ((i0.bytes * n : Nat) : Int) ≤ 281474976710656 := by omega
    rwa [Int.natCast_mul] at h'
  have hr := run_make (P := Try.prog) w t e i0 z E.under hi hz0 .i64 .i64 n n (by omega) (Int.le_refl _) hb (by omega)
  simp only [Int.toNat_natCast] at hr
  exact hr
theorem own_of_heap {w : World} {B e n g : Nat} {cs : Array Value} {xs : List Value} (hh : w.heap[g]? = some (.cells cs e (0, 0))) (hg : B ≤ g) (hx : cs.toList = xs) (hl : xs.length = n) (hn : n ≤ maxLen) : w.ownsRow B e 1 (.slice (some ⟨g, 0, none⟩) n n) n xs := by
  subst hx
  have hs : cs.size = n := by rw [Array.length_toList] at hl; exact hl
  refine ⟨by rw [hl, Nat.mul_one], .inr ⟨g, n, cs, rfl, hg, hh, Nat.le_refl _, hn, by omega, ?_⟩⟩
  rw [Nat.mul_one, ← hl, List.take_length]

/-- Four blocks laid one behind the other. -/
theorem four_new (w : World) (A X Y Z : Array Value) (a x y z : TypeId) :
    let W := ((((w.alloc (.cells A a)).alloc (.cells X x)).alloc (.cells Y y)).alloc (.cells Z z)).drew
    W.heap[w.heap.size]? = some (.cells A a (0, 0)) ∧ W.heap[w.heap.size + 1]? = some (.cells X x (0, 0)) ∧ W.heap[w.heap.size + 1 + 1]? = some (.cells Y y (0, 0)) ∧ W.heap[w.heap.size + 1 + 1 + 1]? = some (.cells Z z (0, 0)) ∧ Below w.heap.size w W := by
  have e1 : (w.alloc (.cells A a)).heap.size = w.heap.size + 1 := by simp
  have e2 : ((w.alloc (.cells A a)).alloc (.cells X x)).heap.size = w.heap.size + 1 + 1 := by simp
  have e3 : (((w.alloc (.cells A a)).alloc (.cells X x)).alloc (.cells Y y)).heap.size = w.heap.size + 1 + 1 + 1 := by simp
  have h0 := heap_alloc_new w (.cells A a)
  have h1 := heap_alloc_new (w.alloc (.cells A a)) (.cells X x)
  have h2 := heap_alloc_new ((w.alloc (.cells A a)).alloc (.cells X x)) (.cells Y y)
  have h3 := heap_alloc_new (((w.alloc (.cells A a)).alloc (.cells X x)).alloc (.cells Y y)) (.cells Z z)
  rw [e1] at h1
  rw [e2] at h2
  rw [e3] at h3
  have o1 := Below.heap_alloc (w.alloc (.cells A a)) (.cells X x)
  have o2 := Below.heap_alloc ((w.alloc (.cells A a)).alloc (.cells X x)) (.cells Y y)
  have o3 := Below.heap_alloc (((w.alloc (.cells A a)).alloc (.cells X x)).alloc (.cells Y y)) (.cells Z z)
  refine ⟨?_, ?_, ?_, h3, ?_⟩
  · exact (o3 _ (by omega)).trans ((o2 _ (by omega)).trans ((o1 _ (by omega)).trans h0))
  · exact (o3 _ (by omega)).trans ((o2 _ (by omega)).trans h1)
  · exact (o3 _ (by omega)).trans h2
  · exact Below.drew (((((Below.refl w.heap.size w).alloc (Nat.le_refl _) _).alloc (by omega) _).alloc (by omega) _).alloc (by omega) _)

theorem own_setNe {w : World} {B e n : Nat} {v : Value} {xs : List Value} (h : w.ownsRow B e 1 v n xs) {p : Addr} (hp : v.ownBlock ≠ some p.block) (u : Value) : (w.setCell p u).ownsRow B e 1 v n xs := by
  refine ⟨h.1, ?_⟩
  rcases h.2 with h0 | ⟨g, cap, cur, hv, hg, hh, r⟩
  · exact .inl h0
  · exact .inr ⟨g, cap, cur, hv, hg, (Below.heap_setCell w p u g (fun e => hp (by rw [hv, ← e]; rfl))).trans hh, r⟩
theorem Blk2.setNe {w : World} {b t : Nat} {x y : Value} (h : Blk2 w b t x y) {p : Addr} (hp : b ≠ p.block) (u : Value) : Blk2 (w.setCell p u) b t x y := (Below.heap_setCell w p u b hp).trans h
/-- The blocks of a new graph. -/
structure NewAt (w : World) (csN csI : Array Value) (n b g1 g2 : Nat) (wx : World) : Prop where
  hb : w.heap.size < b
  hg1 : w.heap.size < g1
  hg2 : w.heap.size < g2
  res : Blk2 wx w.heap.size 27 (.slice none 0 0) (.slice none 0 0)
  blk : Blk2 wx b 27 (.slice (some ⟨g1, 0, none⟩) n n) (.slice (some ⟨g2, 0, none⟩) n n)
  needs : wx.heap[g1]? = some (.cells csN 23 (0, 0))
  order : wx.heap[g2]? = some (.cells csI 3 (0, 0))
  below : Below w.heap.size w wx
theorem blk_ne {w : World} {b t g n B e : Nat} {x y : Value} {v : Value} {xs : List Value} (h : Blk2 w b t x y) (ho : w.ownsRow B e 1 v n xs) (he : e ≠ t) : ∀ k, v.ownBlock = some k → b ≠ k := by
  intro k hk hbk
  subst hbk
  rcases ho.2 with ⟨hv, _⟩ | ⟨g, cap, cur, hv, _, hg, _⟩
  · rw [hv] at hk; simp [Value.ownBlock] at hk
  · rw [hv] at hk
    simp only [Value.ownBlock, Option.some.injEq] at hk
    subst hk
    unfold Blk2 at h
    rw [h] at hg
    simp at hg
    exact he hg.2.symm
theorem Blk2.beside {w w' : World} {b t : Nat} {x y : Value} {r : Option Nat} (h : Blk2 w b t x y) (hg : w.grownBy w' r) (hr : r ≠ some b) : Blk2 w' b t x y := (hg.block b (lt_of_block h) (fun e => hr e.symm)).trans h
theorem nil_lists (B : Nat) (w : World) (n : Nat) : Lists B w ((List.replicate n (Value.slice none 0 0)).zip (List.replicate n [])) := by
  rw [List.zip_replicate']
  refine ⟨fun p hp => ?_, ?_⟩
  · rw [List.eq_of_mem_replicate hp]; exact ⟨rfl, .inl ⟨rfl, rfl⟩⟩
  · rw [List.pairwise_replicate]
    exact .inr (fun b h => by simp [Value.ownBlock] at h)
theorem Lists.more {B : Nat} {w : World} {L : List (Value × List Int)} {v : Value} {l : List Int} (h : Lists B w L) (hown : w.ownsRow B 3 1 v l.length (I l)) (ha : ∀ p ∈ L, Apart p (v, l)) : Lists B w (L ++ [(v, l)]) := by
  refine ⟨fun p hp => ?_, ?_⟩
  · rw [List.mem_append, List.mem_singleton] at hp
    rcases hp with hp | rfl
    · exact h.1 p hp
    · exact hown
  · rw [List.pairwise_append]
    refine ⟨h.2, by simp, fun p hp q hq => ?_⟩
    rw [List.mem_singleton] at hq
    subst hq
    exact ha p hp

end Go.Proofs.Ytnkkbleebfijgaa
