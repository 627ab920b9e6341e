/- Texts of one claim, joined in their order. -/
import Derived.Test.YtoahfhidekmodaaGreatDoorM6
import Derived.Test.YtoahfhidekmodaaGreatDoorM5
import Derived.Test.YtoahfhidekmodaaGreatDoorM1

/- Walks: whether stores are the same, as the laws ask it. -/
namespace Go.Proofs.YtoahfhidekmodaaGreatDoor
open Go.RowKit Pth

theorem store_ext {s t : StoreT} (h1 : s.files = t.files) (h2 : s.staged = t.staged) (h3 : s.gone = t.gone) : s = t := by
  cases s; cases t; simp only at h1 h2 h3; rw [h1, h2, h3]

def sameS (s t : StoreT) : Bool := decide (s.files = t.files) && (decide (s.staged = t.staged) && decide (s.gone = t.gone))
theorem sameS_iff {s t : StoreT} : sameS s t = true ↔ s = t := by
  simp only [sameS, Bool.and_eq_true, decide_eq_true_iff]
  exact ⟨fun h => store_ext h.1 h.2.1 h.2.2, fun h => by rw [h]; exact ⟨rfl, rfl, rfl⟩⟩
theorem eqFileS_b {l m : List FileT} {v u : Value} {w : World} {b : Bool} (h1 : RowF w v l) (h2 : RowF w u m) (hl : l.length ≤ 2000000) (h : decide (l = m) = b) :
    Calls Tryz.prog 68 #[v, u] w fun e w' => e = .returned (.bool b) ∧ Below w.heap.size w w' := by
  have := eqFileS_any l m v u w h1 h2 hl
  rw [h] at this
  exact this
theorem sameFiles_b {l m : List FileT} {v u : Value} {w : World} {b : Bool} (h1 : RowF w v l) (h2 : RowF w u m) (hl : l.length ≤ 2000000) (h : decide (l = m) = b) :
    Calls Tryz.prog 19 #[v, u] w fun e w' => e = .returned (.bool b) ∧ Below w.heap.size w w' := by
  have := sameFiles_any l m v u w h1 h2 hl
  rw [h] at this
  exact this
theorem eqStringS_b {l m : List (List UInt8)} {v u : Value} {w : World} {b : Bool} (h1 : RowV w v (S l)) (h2 : RowV w u (S m)) (hl : l.length ≤ 2000000) (h : decide (l = m) = b) :
    Calls Tryz.prog 69 #[v, u] w fun e w' => e = .returned (.bool b) ∧ Below w.heap.size w w' := by
  have := eqStringS_any l m v u w h1 h2 hl
  rw [h] at this
  exact this
theorem sameTexts_b {l m : List (List UInt8)} {v u : Value} {w : World} {b : Bool} (h1 : RowV w v (S l)) (h2 : RowV w u (S m)) (hl : l.length ≤ 2000000) (h : decide (l = m) = b) :
    Calls Tryz.prog 47 #[v, u] w fun e w' => e = .returned (.bool b) ∧ Below w.heap.size w w' := by
  have := sameTexts_any l m v u w h1 h2 hl
  rw [h] at this
  exact this

set_option maxRecDepth 20000 in
set_option maxHeartbeats 4000000 in
theorem eqStore_any (s t : StoreT) (v u : Value) (w : World) (hst : StoreV w v s) (hst2 : StoreV w u t) (hl1 : s.files.length ≤ 2000000) (hl2 : s.staged.length ≤ 2000000) (hl3 : s.gone.length ≤ 2000000) :
    Calls Tryz.prog 35 #[v, u] w fun e w' => e = .returned (.bool (sameS s t)) ∧ Below w.heap.size w w' := by
  obtain ⟨vf, vs, vg, rfl, h1, h2, h3⟩ := hst
  obtain ⟨uf, us, ug, rfl, h4, h5, h6⟩ := hst2
  have H1 := Lib.hid h1
  have H2 := Lib.hid h2
  have H3 := Lib.hid h3
  have H4 := Lib.hid h4
  have H5 := Lib.hid h5
  have H6 := Lib.hid h6
  obtain ⟨af, cf, rfl, _⟩ := h1.files
  obtain ⟨a2, cs, rfl, _⟩ := h2.files
  obtain ⟨ag, cg, rfl, _⟩ := h3.texts
  obtain ⟨bf, df, rfl, _⟩ := h4.files
  obtain ⟨b2, ds, rfl, _⟩ := h5.files
  obtain ⟨bg, dg, rfl, _⟩ := h6.texts
  clear h1 h2 h3 h4 h5 h6
  obtain ⟨wa, hwa⟩ : ∃ wa, wa = (w.alloc (.cells #[.slice af s.files.length cf, .slice a2 s.staged.length cs, .slice ag s.gone.length cg] 26)).alloc (.cells #[.slice bf t.files.length df, .slice b2 t.staged.length ds, .slice bg t.gone.length dg] 26) := ⟨_, rfl⟩
  have hsz : wa.heap.size = w.heap.size + 2 := by rw [hwa]; simp
  have P0 : Hid (Blk3 wa w.heap.size 26 (.slice af s.files.length cf) (.slice a2 s.staged.length cs) (.slice ag s.gone.length cg)) := by rw [hwa]; exact Blk3.new.old _
  have O0 : Hid (Blk3 wa (w.heap.size + 1) 26 (.slice bf t.files.length df) (.slice b2 t.staged.length ds) (.slice bg t.gone.length dg)) := by
    rw [hwa]
    have := Blk3.new (w := w.alloc (.cells #[.slice af s.files.length cf, .slice a2 s.staged.length cs, .slice ag s.gone.length cg] 26)) (t := 26) (x := .slice bf t.files.length df) (y := .slice b2 t.staged.length ds) (z := .slice bg t.gone.length dg)
    simpa [Hid] using this
  have HA : Hid (Below w.heap.size w wa) := by rw [hwa]; exact ((Below.refl w.heap.size w).alloc (Nat.le_refl _) _).alloc (by simp) _
  have HWA := Lib.hid hwa
  clear hwa
  rcases e1 : decide (s.files = t.files) with _ | _
  · have HT : Hid (sameS s t = false) := by rw [sameS, e1]; rfl
    have C1 := Lib.hid (eqFileS_b (H1.out.below HA.out) (H4.out.below HA.out) hl1 e1)
    rw [HT.out]
    clear e1 HT
    go_enter Tryz.func35, Tryz.ntmps35
    go_wp2_with fail
    rw [← HWA.out]
    refine C1.out.mono ?_
    rintro e w1 ⟨rfl, hb1⟩
    have HB1 := Lib.hid hb1
    clear hb1
    go_wp2_with fail
    go_ret
    exact ⟨rfl, HA.out.trans (HB1.out.mono HA.out.size)⟩
  · have C1 := Lib.hid (eqFileS_b (H1.out.below HA.out) (H4.out.below HA.out) hl1 e1)
    rcases e2 : decide (s.staged = t.staged) with _ | _
    · have HT : Hid (sameS s t = false) := by rw [sameS, e2]; simp [Hid]
      have C2 := Lib.hid (fun W (h1 : RowF W (.slice a2 s.staged.length cs) s.staged) (h2 : RowF W (.slice b2 t.staged.length ds) t.staged) => eqFileS_b h1 h2 hl2 e2)
      rw [HT.out]
      clear e1 e2 HT
      go_enter Tryz.func35, Tryz.ntmps35
      go_wp2_with fail
      rw [← HWA.out]
      refine C1.out.mono ?_
      rintro e w1 ⟨rfl, hb1⟩
      have HB1 := Lib.hid hb1
      clear hb1
      have P1 := (P0.out.below HB1.out (by omega)).cells
      have O1 := (O0.out.below HB1.out (by omega)).cells
      have p11 := P1.2.1
      have o11 := O1.2.1
      clear P1 O1
      go_wp2_with fail
      refine (C2.out w1 (H2.out.below (HA.out.trans (HB1.out.mono HA.out.size))) (H5.out.below (HA.out.trans (HB1.out.mono HA.out.size)))).mono ?_
      rintro e w2 ⟨rfl, hb2⟩
      have HB2 := Lib.hid (HB1.out.trans (hb2.mono HB1.out.size))
      clear hb2
      go_wp2_with fail
      go_ret
      exact ⟨rfl, HA.out.trans (HB2.out.mono HA.out.size)⟩
    · have C2 := Lib.hid (fun W (h1 : RowF W (.slice a2 s.staged.length cs) s.staged) (h2 : RowF W (.slice b2 t.staged.length ds) t.staged) => eqFileS_b h1 h2 hl2 e2)
      have HT : Hid (sameS s t = decide (s.gone = t.gone)) := by rw [sameS, e1, e2]; rfl
      rw [HT.out]
      rcases e3 : decide (s.gone = t.gone) with _ | _
      · have C3 := Lib.hid (fun W (h1 : RowV W (.slice ag s.gone.length cg) (S s.gone)) (h2 : RowV W (.slice bg t.gone.length dg) (S t.gone)) => eqStringS_b h1 h2 hl3 e3)
        clear e1 e2 e3 HT
        go_enter Tryz.func35, Tryz.ntmps35
        go_wp2_with fail
        rw [← HWA.out]
        refine C1.out.mono ?_
        rintro e w1 ⟨rfl, hb1⟩
        have HB1 := Lib.hid hb1
        clear hb1
        have P1 := (P0.out.below HB1.out (by omega)).cells
        have O1 := (O0.out.below HB1.out (by omega)).cells
        have p11 := P1.2.1
        have o11 := O1.2.1
        clear P1 O1
        go_wp2_with fail
        refine (C2.out w1 (H2.out.below (HA.out.trans (HB1.out.mono HA.out.size))) (H5.out.below (HA.out.trans (HB1.out.mono HA.out.size)))).mono ?_
        rintro e w2 ⟨rfl, hb2⟩
        have HB2 := Lib.hid (HB1.out.trans (hb2.mono HB1.out.size))
        clear hb2 p11 o11
        have P2 := (P0.out.below HB2.out (by omega)).cells
        have O2 := (O0.out.below HB2.out (by omega)).cells
        have p22 := P2.2.2
        have o22 := O2.2.2
        clear P2 O2
        go_wp2_with fail
        refine (C3.out w2 (H3.out.below (HA.out.trans (HB2.out.mono HA.out.size))) (H6.out.below (HA.out.trans (HB2.out.mono HA.out.size)))).mono ?_
        rintro e w3 ⟨rfl, hb3⟩
        have HB3 := Lib.hid (HB2.out.trans (hb3.mono HB2.out.size))
        clear hb3
        go_wp2_with fail
        go_ret
        exact ⟨rfl, HA.out.trans (HB3.out.mono HA.out.size)⟩
      · have C3 := Lib.hid (fun W (h1 : RowV W (.slice ag s.gone.length cg) (S s.gone)) (h2 : RowV W (.slice bg t.gone.length dg) (S t.gone)) => eqStringS_b h1 h2 hl3 e3)
        clear e1 e2 e3 HT
        go_enter Tryz.func35, Tryz.ntmps35
        go_wp2_with fail
        rw [← HWA.out]
        refine C1.out.mono ?_
        rintro e w1 ⟨rfl, hb1⟩
        have HB1 := Lib.hid hb1
        clear hb1
        have P1 := (P0.out.below HB1.out (by omega)).cells
        have O1 := (O0.out.below HB1.out (by omega)).cells
        have p11 := P1.2.1
        have o11 := O1.2.1
        clear P1 O1
        go_wp2_with fail
        refine (C2.out w1 (H2.out.below (HA.out.trans (HB1.out.mono HA.out.size))) (H5.out.below (HA.out.trans (HB1.out.mono HA.out.size)))).mono ?_
        rintro e w2 ⟨rfl, hb2⟩
        have HB2 := Lib.hid (HB1.out.trans (hb2.mono HB1.out.size))
        clear hb2 p11 o11
        have P2 := (P0.out.below HB2.out (by omega)).cells
        have O2 := (O0.out.below HB2.out (by omega)).cells
        have p22 := P2.2.2
        have o22 := O2.2.2
        clear P2 O2
        go_wp2_with fail
        refine (C3.out w2 (H3.out.below (HA.out.trans (HB2.out.mono HA.out.size))) (H6.out.below (HA.out.trans (HB2.out.mono HA.out.size)))).mono ?_
        rintro e w3 ⟨rfl, hb3⟩
        have HB3 := Lib.hid (HB2.out.trans (hb3.mono HB2.out.size))
        clear hb3
        go_wp2_with fail
        go_ret
        exact ⟨rfl, HA.out.trans (HB3.out.mono HA.out.size)⟩

set_option maxRecDepth 20000 in
set_option maxHeartbeats 4000000 in
theorem sameStore_any (s t : StoreT) (v u : Value) (w : World) (hst : StoreV w v s) (hst2 : StoreV w u t) (hl1 : s.files.length ≤ 2000000) (hl2 : s.staged.length ≤ 2000000) (hl3 : s.gone.length ≤ 2000000) :
    Calls Tryz.prog 12 #[v, u] w fun e w' => e = .returned (.bool (sameS s t)) ∧ Below w.heap.size w w' := by
  obtain ⟨vf, vs, vg, rfl, h1, h2, h3⟩ := hst
  obtain ⟨uf, us, ug, rfl, h4, h5, h6⟩ := hst2
  have H1 := Lib.hid h1
  have H2 := Lib.hid h2
  have H3 := Lib.hid h3
  have H4 := Lib.hid h4
  have H5 := Lib.hid h5
  have H6 := Lib.hid h6
  obtain ⟨af, cf, rfl, _⟩ := h1.files
  obtain ⟨a2, cs, rfl, _⟩ := h2.files
  obtain ⟨ag, cg, rfl, _⟩ := h3.texts
  obtain ⟨bf, df, rfl, _⟩ := h4.files
  obtain ⟨b2, ds, rfl, _⟩ := h5.files
  obtain ⟨bg, dg, rfl, _⟩ := h6.texts
  clear h1 h2 h3 h4 h5 h6
  obtain ⟨wa, hwa⟩ : ∃ wa, wa = (w.alloc (.cells #[.slice af s.files.length cf, .slice a2 s.staged.length cs, .slice ag s.gone.length cg] 26)).alloc (.cells #[.slice bf t.files.length df, .slice b2 t.staged.length ds, .slice bg t.gone.length dg] 26) := ⟨_, rfl⟩
  have hsz : wa.heap.size = w.heap.size + 2 := by rw [hwa]; simp
  have P0 : Hid (Blk3 wa w.heap.size 26 (.slice af s.files.length cf) (.slice a2 s.staged.length cs) (.slice ag s.gone.length cg)) := by rw [hwa]; exact Blk3.new.old _
  have O0 : Hid (Blk3 wa (w.heap.size + 1) 26 (.slice bf t.files.length df) (.slice b2 t.staged.length ds) (.slice bg t.gone.length dg)) := by
    rw [hwa]
    have := Blk3.new (w := w.alloc (.cells #[.slice af s.files.length cf, .slice a2 s.staged.length cs, .slice ag s.gone.length cg] 26)) (t := 26) (x := .slice bf t.files.length df) (y := .slice b2 t.staged.length ds) (z := .slice bg t.gone.length dg)
    simpa [Hid] using this
  have HA : Hid (Below w.heap.size w wa) := by rw [hwa]; exact ((Below.refl w.heap.size w).alloc (Nat.le_refl _) _).alloc (by simp) _
  have HWA := Lib.hid hwa
  clear hwa
  rcases e1 : decide (s.files = t.files) with _ | _
  · have HT : Hid (sameS s t = false) := by rw [sameS, e1]; rfl
    have C1 := Lib.hid (sameFiles_b (H1.out.below HA.out) (H4.out.below HA.out) hl1 e1)
    rw [HT.out]
    clear e1 HT
    go_enter Tryz.func12, Tryz.ntmps12
    go_wp2_with fail
    rw [← HWA.out]
    refine C1.out.mono ?_
    rintro e w1 ⟨rfl, hb1⟩
    have HB1 := Lib.hid hb1
    clear hb1
    go_wp2_with fail
    go_ret
    exact ⟨rfl, HA.out.trans (HB1.out.mono HA.out.size)⟩
  · have C1 := Lib.hid (sameFiles_b (H1.out.below HA.out) (H4.out.below HA.out) hl1 e1)
    rcases e2 : decide (s.staged = t.staged) with _ | _
    · have HT : Hid (sameS s t = false) := by rw [sameS, e2]; simp [Hid]
      have C2 := Lib.hid (fun W (h1 : RowF W (.slice a2 s.staged.length cs) s.staged) (h2 : RowF W (.slice b2 t.staged.length ds) t.staged) => sameFiles_b h1 h2 hl2 e2)
      rw [HT.out]
      clear e1 e2 HT
      go_enter Tryz.func12, Tryz.ntmps12
      go_wp2_with fail
      rw [← HWA.out]
      refine C1.out.mono ?_
      rintro e w1 ⟨rfl, hb1⟩
      have HB1 := Lib.hid hb1
      clear hb1
      have P1 := (P0.out.below HB1.out (by omega)).cells
      have O1 := (O0.out.below HB1.out (by omega)).cells
      have p11 := P1.2.1
      have o11 := O1.2.1
      clear P1 O1
      go_wp2_with fail
      refine (C2.out w1 (H2.out.below (HA.out.trans (HB1.out.mono HA.out.size))) (H5.out.below (HA.out.trans (HB1.out.mono HA.out.size)))).mono ?_
      rintro e w2 ⟨rfl, hb2⟩
      have HB2 := Lib.hid (HB1.out.trans (hb2.mono HB1.out.size))
      clear hb2
      go_wp2_with fail
      go_ret
      exact ⟨rfl, HA.out.trans (HB2.out.mono HA.out.size)⟩
    · have C2 := Lib.hid (fun W (h1 : RowF W (.slice a2 s.staged.length cs) s.staged) (h2 : RowF W (.slice b2 t.staged.length ds) t.staged) => sameFiles_b h1 h2 hl2 e2)
      have HT : Hid (sameS s t = decide (s.gone = t.gone)) := by rw [sameS, e1, e2]; rfl
      rw [HT.out]
      rcases e3 : decide (s.gone = t.gone) with _ | _
      · have C3 := Lib.hid (fun W (h1 : RowV W (.slice ag s.gone.length cg) (S s.gone)) (h2 : RowV W (.slice bg t.gone.length dg) (S t.gone)) => sameTexts_b h1 h2 hl3 e3)
        clear e1 e2 e3 HT
        go_enter Tryz.func12, Tryz.ntmps12
        go_wp2_with fail
        rw [← HWA.out]
        refine C1.out.mono ?_
        rintro e w1 ⟨rfl, hb1⟩
        have HB1 := Lib.hid hb1
        clear hb1
        have P1 := (P0.out.below HB1.out (by omega)).cells
        have O1 := (O0.out.below HB1.out (by omega)).cells
        have p11 := P1.2.1
        have o11 := O1.2.1
        clear P1 O1
        go_wp2_with fail
        refine (C2.out w1 (H2.out.below (HA.out.trans (HB1.out.mono HA.out.size))) (H5.out.below (HA.out.trans (HB1.out.mono HA.out.size)))).mono ?_
        rintro e w2 ⟨rfl, hb2⟩
        have HB2 := Lib.hid (HB1.out.trans (hb2.mono HB1.out.size))
        clear hb2 p11 o11
        have P2 := (P0.out.below HB2.out (by omega)).cells
        have O2 := (O0.out.below HB2.out (by omega)).cells
        have p22 := P2.2.2
        have o22 := O2.2.2
        clear P2 O2
        go_wp2_with fail
        refine (C3.out w2 (H3.out.below (HA.out.trans (HB2.out.mono HA.out.size))) (H6.out.below (HA.out.trans (HB2.out.mono HA.out.size)))).mono ?_
        rintro e w3 ⟨rfl, hb3⟩
        have HB3 := Lib.hid (HB2.out.trans (hb3.mono HB2.out.size))
        clear hb3
        go_wp2_with fail
        go_ret
        exact ⟨rfl, HA.out.trans (HB3.out.mono HA.out.size)⟩
      · have C3 := Lib.hid (fun W (h1 : RowV W (.slice ag s.gone.length cg) (S s.gone)) (h2 : RowV W (.slice bg t.gone.length dg) (S t.gone)) => sameTexts_b h1 h2 hl3 e3)
        clear e1 e2 e3 HT
        go_enter Tryz.func12, Tryz.ntmps12
        go_wp2_with fail
        rw [← HWA.out]
        refine C1.out.mono ?_
        rintro e w1 ⟨rfl, hb1⟩
        have HB1 := Lib.hid hb1
        clear hb1
        have P1 := (P0.out.below HB1.out (by omega)).cells
        have O1 := (O0.out.below HB1.out (by omega)).cells
        have p11 := P1.2.1
        have o11 := O1.2.1
        clear P1 O1
        go_wp2_with fail
        refine (C2.out w1 (H2.out.below (HA.out.trans (HB1.out.mono HA.out.size))) (H5.out.below (HA.out.trans (HB1.out.mono HA.out.size)))).mono ?_
        rintro e w2 ⟨rfl, hb2⟩
        have HB2 := Lib.hid (HB1.out.trans (hb2.mono HB1.out.size))
        clear hb2 p11 o11
        have P2 := (P0.out.below HB2.out (by omega)).cells
        have O2 := (O0.out.below HB2.out (by omega)).cells
        have p22 := P2.2.2
        have o22 := O2.2.2
        clear P2 O2
        go_wp2_with fail
        refine (C3.out w2 (H3.out.below (HA.out.trans (HB2.out.mono HA.out.size))) (H6.out.below (HA.out.trans (HB2.out.mono HA.out.size)))).mono ?_
        rintro e w3 ⟨rfl, hb3⟩
        have HB3 := Lib.hid (HB2.out.trans (hb3.mono HB2.out.size))
        clear hb3
        go_wp2_with fail
        go_ret
        exact ⟨rfl, HA.out.trans (HB3.out.mono HA.out.size)⟩

end Go.Proofs.YtoahfhidekmodaaGreatDoor

/- Walks: the law that good stores are told alike. -/
namespace Go.Proofs.YtoahfhidekmodaaGreatDoor
open Go.RowKit Pth

theorem sameS_self (s : StoreT) : sameS s s = true := by simp [sameS]
/-- A store of the call's own, its three lists as slices. -/
theorem StoreO.slices {B : Nat} {w : World} {v : Value} {s : StoreT} (h : StoreO B w v s) : ∃ a c b d e f, v = .agg #[.slice a s.files.length c, .slice b s.staged.length d, .slice e s.gone.length f] := by
  obtain ⟨vf, vs, vg, rfl, h1, h2, h3, _⟩ := h
  obtain ⟨a, c, rfl⟩ := own_sliceG h1
  obtain ⟨b, d, rfl⟩ := own_sliceG h2
  obtain ⟨e, f, rfl⟩ := own_sliceG h3
  exact ⟨a, c, b, d, e, f, rfl⟩
theorem SizedS.small {s : StoreT} {n : Nat} (h : SizedS s n) (hn : n ≤ 2000000) : s.files.length ≤ 2000000 ∧ s.staged.length ≤ 2000000 ∧ s.gone.length ≤ 2000000 := by
  have := h.1
  exact ⟨by omega, by omega, by omega⟩

end Go.Proofs.YtoahfhidekmodaaGreatDoor

/- What is put behind an empty literal: new memory, if it is something. -/
namespace Go.Proofs.YtoahfhidekmodaaGreatDoor
open Go.RowKit Pth

/-- What an append to the empty literal at block g leaves. -/
def LitTold (e size : Nat) (w : World) (g m : Nat) (ys : List Value) (v' : Value) (w' : World) : Prop :=
  (m = 0 ∧ v' = .slice (some ⟨g, 0, none⟩) 0 0 ∧ w' = w) ∨ (0 < m ∧ w'.ownsRow w.heap.size e size v' m ys)

theorem run_app_lit {t e : TypeId} {z : Value} {size bytes : Nat} (E : ElemG t e z size bytes) (w : World) (g : Nat) (ty : TypeId) (m : Nat) (ys : List Value) (A : Option Addr) (c : Nat) (hrow : RowG size w (.slice A m c) m ys) (hlen : m ≤ 1000000) :
    ∃ v' w', (Builtin.append_ #[t, t] ty #[.slice (some ⟨g, 0, none⟩) 0 0, .slice A m c]).run Tryz.prog w = .ok v' w' ∧ Below w.heap.size w w' ∧ LitTold e size w g m ys v' w' := by
  obtain ⟨i0, hi, hz0, hz1, hz2⟩ := info_parts E.info
  obtain ⟨A', c', hv, h0, h1, h2, hat⟩ := hrow
  injection hv with hA _ _
  subst hA
  rcases m with _ | m
  · refine ⟨_, w, ?_, Below.refl _ _, .inl ⟨rfl, rfl, rfl⟩⟩
    rcases A with _ | ad
    · simp [Builtin.append_, run_underlying E.under, sizeOf, typeInfo, hi, Builtin.lenOf, Builtin.firstCells, storeCells]
    · simp [Builtin.append_, run_underlying E.under, sizeOf, typeInfo, hi, Builtin.lenOf, Builtin.firstCells, storeCells, loadCells, loadCellsFrom]
  · have hpos : 0 < ys.length := by
      have := E.pos
      rw [h0, Nat.add_mul]
      omega
    obtain ⟨g2, o2, rfl, _, _⟩ := hat 0 hpos
    have hnews : ∀ j u, ys[j]? = some u → w.cell? ((⟨g2, o2, none⟩ : Addr).add j) = some u := by
      intro j u hu
      obtain ⟨hj, hu⟩ := List.getElem?_eq_some_iff.1 hu
      obtain ⟨g', o', he, _, hc⟩ := hat j hj
      obtain ⟨rfl, rfl⟩ := addr_inj he
      rw [add_addr, hc, hu]
    subst hz1
    subst hz2
    have hr := run_append_grow (P := Tryz.prog) w t ty e i0 z E.under hi hz0 ⟨g, 0, none⟩ 0 0 [] (by simp) (by simp) ⟨g2, o2, none⟩ (m + 1) c ys h0 hnews (by omega) (by omega) (growslice_fits (by omega) (by have := Nat.mul_le_mul hlen E.small; rw [Nat.zero_add]; omega))
    rw [Nat.zero_add] at hr
    have hge := grownCap_ge w (m + 1) 0 e
    refine ⟨_, _, hr, ?_, .inr ⟨by omega, ⟨h0, .inr ⟨w.heap.size, _, _, rfl, Nat.le_refl _, heap_alloc_new w.drew _, ?_, ?_, ?_, ?_⟩⟩⟩⟩
    · exact (Below.drew (Below.refl _ w)).alloc (by simp) _
    · exact hge
    · exact grownCap_le_maxLen w _ _ e (by unfold maxLen; omega)
    · rw [Array.size_append, Array.size_append, size_zeroCells, E.cells, List.size_toArray, List.size_toArray, h0, List.length_nil, Nat.zero_add, ← Nat.add_mul, Nat.add_sub_cancel' hge]
    · rw [← h0]
      simp

theorem step_lit {t e : TypeId} {z : Value} {size bytes : Nat} (E : ElemG t e z size bytes) {ops : Array Oper} {o : Oper} {a : Act} {K : Act → World → Prop} {Q : Exit → Act → World → Prop} {F : Prop} {w : World} (hgd : o.guard = none) (s x : Operand)
    (ho : o.op = .call { callee := .builtin .append, args := #[s, x], argTypes := #[t, t] }) (g m : Nat) (ys : List Value) (u : Value) (hs : a.eval s = .slice (some ⟨g, 0, none⟩) 0 0) (hx : a.eval x = u) (hrow : RowG size w u m ys) (hlen : m ≤ 1000000)
    (h : ∀ v' w', Below w.heap.size w w' → LitTold e size w g m ys v' w' → K (a.put o.dst v') w') :
    if Region.wanted o (yielded ops a.tmps) = true then Oper.wp Tryz.prog o a w K Q else F := by
  have hw : Region.wanted o (yielded ops a.tmps) = true := by simp [Region.wanted, hgd]
  rw [if_pos hw]
  obtain ⟨A, c, hu, _⟩ := id hrow
  subst hu
  obtain ⟨v', w', hrun, h2, h3⟩ := run_app_lit E w g o.type m ys A c hrow hlen
  unfold Oper.wp execOp
  simp only [ho, resolve, invoke, builtin, Sem.run_bind, Sem.run_pure, Result.andThen_ok, List.map_toArray, List.map_cons, List.map_nil, hs, hx, hrun]
  exact h v' w' h2 h3

end Go.Proofs.YtoahfhidekmodaaGreatDoor

/- Walks: the program's own copies of files. -/
namespace Go.Proofs.YtoahfhidekmodaaGreatDoor
open Go.RowKit Go.Maps Pth

/-- One element put behind a list of the call's own, in a region that draws its order. -/
theorem step_appOneG {t e : TypeId} {z : Value} {size bytes : Nat} (E : ElemG t e z size bytes) {ops : Array Oper} {o : Oper} {a : Act} {K : Act → World → Prop} {Q : Exit → Act → World → Prop} {F : Prop} {w : World} {y : Array Value} (hgd : o.guard = none) (s x : Operand)
    (ho : o.op = .call { callee := .builtin .append, args := #[s, x], argTypes := #[t, t] }) (B : Nat) (v : Value) (n : Nat) (xs : List Value) (hs : a.eval s = v) (hown : w.ownsRow B e size v n xs) (N : Nat) (hx : a.eval x = .slice (some ⟨N, 0, none⟩) 1 1) (hN : N = w.heap.size)
    (hy : y.toList.length = size) (hone : ∀ u ∈ y.toList, u.oneCell' = true) (hlen : n + 1 ≤ 1000000) (hB : B ≤ w.heap.size)
    (h : ∀ v' w', w'.ownsRow B e size v' (n + 1) (xs ++ y.toList) → w.grownBy w' v.ownBlock → K (a.put o.dst v') w') :
    if Region.wanted o (yielded ops a.tmps) = true then Oper.wp Tryz.prog o a (w.alloc (.cells y e)) K Q else F := by
  subst hN
  have hw : Region.wanted o (yielded ops a.tmps) = true := by simp [Region.wanted, hgd]
  rw [if_pos hw]
  have hrow : RowG size (w.alloc (.cells y e)) (.slice (some ⟨w.heap.size, 0, none⟩) 1 1) 1 y.toList := by
    refine ⟨_, _, rfl, by rw [hy]; omega, Nat.le_refl _, by unfold maxLen; omega, fun k hk => ⟨_, _, rfl, by simp, ?_⟩⟩
    simp
  obtain ⟨v', w', hrun, h2, h3⟩ := run_app_rowG E (w.alloc (.cells y e)) B o.type v n 1 xs y.toList _ 1 (hown.alloc _) hrow hone hlen (by simp; omega)
  unfold Oper.wp execOp
  simp only [ho, resolve, invoke, builtin, Sem.run_bind, Sem.run_pure, Result.andThen_ok, List.map_toArray, List.map_cons, List.map_nil, hs, hx, hrun]
  have hg : w.grownBy w' v.ownBlock := ⟨h3.os, h3.tape, h3.output, Nat.le_trans (by simp) h3.size, fun k hk hne => (h3.block k (by simp; omega) hne).trans (Below.heap_alloc _ _ _ hk)⟩
  exact h v' w' h2 hg

theorem cell_old {w : World} {p : Addr} {v : Value} (h : w.cell? p = some v) (o : Obj) : (w.alloc o).cell? p = some v := by
  rw [World.cell?_alloc_lt _ _ _ (World.block_lt_of_cell? _ _ h)]; exact h

set_option maxRecDepth 20000 in
set_option maxHeartbeats 4000000 in
theorem ownFiles_any (l : List FileT) (v : Value) (w : World) (hrow : RowF w v l) (hx : ∀ f ∈ l, f.1.length ≤ 1000 ∧ f.2.length ≤ 1000) (hl : l.length ≤ 1000) :
    Calls Tryz.prog 54 #[v] w (FilesPost l w) := by
  obtain ⟨a, cap, rfl, hc1, hc2, hat⟩ := hrow.files
  clear hrow
  unfold maxLen at hc2
  go_enter Tryz.func54, Tryz.ntmps54
  go_wp2_with fail
  go_loopw [8, 3] (fun i v wr => ∃ k : Nat, k ≤ l.length ∧ i = .int .i64 k ∧ Hid (wr.ownsRow w.heap.size 45 2 v (l.take k).length (FC (l.take k))) ∧ Hid (Below w.heap.size w wr)) (fun i _ _ => l.length - (intOf i).toNat)
  case atStart => exact ⟨0, Nat.zero_le _, rfl, ⟨rfl, .inl ⟨rfl, rfl⟩⟩, Below.refl _ _⟩
  case round =>
    obtain ⟨k, hk, rfl, HN, HB⟩ := hrel
    have hbs := HB.out.size
    by_cases hlt : k < l.length
    · obtain ⟨g, o, rfl, hg, hcell1, hcell2⟩ := hat k hlt
      have hc1' : wr.cell? ⟨g, o + k * 2, none⟩ = some (.string ⟨(l[k]).1.toArray⟩) := by rw [HB.out.cell (p := ⟨g, o + k * 2, none⟩) hg]; exact hcell1
      have hc2' : wr.cell? ⟨g, o + k * 2 + 1, none⟩ = some (.string ⟨(l[k]).2.toArray⟩) := by rw [HB.out.cell (p := ⟨g, o + k * 2 + 1, none⟩) hg]; exact hcell2
      have HXL := Lib.hid (hx l[k] (List.getElem_mem hlt))
      have HT : Hid (l.take k ++ [(l[k].1, l[k].2)] = l.take (k + 1)) := (List.take_succ_eq_append_getElem hlt).symm
      have hln : (l.take k).length = k := by rw [List.length_take]; omega
      generalize l.take k = acc at HN HT hln
      clear hcell1 hcell2 hat hx
      generalize l[k].1 = x at hc1' HT HXL
      generalize l[k].2 = y at hc2' HT HXL
      have HBA := HB.out.alloc hbs (.cells #[.string ⟨x.toArray⟩, .string ⟨y.toArray⟩] 45)
      have HNA := HN.out.alloc (.cells #[.string ⟨x.toArray⟩, .string ⟨y.toArray⟩] 45)
      go_wp2_with fail
      have ks : (wr.alloc (.cells #[.string ⟨x.toArray⟩, .string ⟨y.toArray⟩] 45)).cell? ⟨wr.heap.size, 0, none⟩ = some (.string ⟨x.toArray⟩) ∧ (wr.alloc (.cells #[.string ⟨x.toArray⟩, .string ⟨y.toArray⟩] 45)).cell? ⟨wr.heap.size, 1, none⟩ = some (.string ⟨y.toArray⟩) := by constructor <;> simp
      generalize wr.alloc (.cells #[.string ⟨x.toArray⟩, .string ⟨y.toArray⟩] 45) = wa at ks HBA HNA ⊢
      have hne : some wr.heap.size ≠ u3.ownBlock := fun e => by have := (HN.out.lt _ e.symm).2; omega
      have HBc : Hid (Below w.heap.size w wa.drew) := Below.drew HBA
      have HNc : Hid (wa.drew.ownsRow w.heap.size 45 2 u3 acc.length (FC acc)) := HNA
      clear HBA HNA HB HN
      go_region_held3 (fun w' => w'.cell? ⟨wr.heap.size, 0, none⟩ = some (.string ⟨x.toArray⟩) ∧ w'.cell? ⟨wr.heap.size, 1, none⟩ = some (.string ⟨y.toArray⟩)) (first | exact ks | exact ⟨cell_old ks.1 _, cell_old ks.2 _⟩)
        (first
          | (go_at_call 82; refine (clone_any _ _ (by first | exact HXL.out.1 | exact HXL.out.2)).mono ?_; rintro e wc ⟨rfl, hbc⟩
             have ks := And.intro ((hbc.cell (p := ⟨wr.heap.size, 0, none⟩) (World.block_lt_of_cell? _ _ ks.1)).trans ks.1) ((hbc.cell (p := ⟨wr.heap.size, 1, none⟩) (World.block_lt_of_cell? _ _ ks.2)).trans ks.2)
             have HNc := Lib.hid (own_belowG HNc.out hbc)
             have HBc := Lib.hid (HBc.out.trans (hbc.mono HBc.out.size))
             clear hbc)
          | (refine step_appOneG elemF rfl _ _ rfl w.heap.size _ acc.length (FC acc) rfl HNc.out _ rfl rfl rfl (by intro u hu; simp at hu; rcases hu with rfl | rfl <;> rfl) (by omega) HBc.out.size ?_
             intro v2 w2 hown2 hg2
             have hgb := hg2.block wr.heap.size (World.block_lt_of_cell? _ _ ks.1) hne
             have ks := And.intro ((World.cell?_of_block (a := ⟨wr.heap.size, 0, none⟩) hgb).trans ks.1) ((World.cell?_of_block (a := ⟨wr.heap.size, 1, none⟩) hgb).trans ks.2)
             have HN2 := Lib.hid (file_snoc hown2)
             have HB2 := Lib.hid (HBc.out.trans (below_ownG HNc.out hg2 HBc.out.size))
             clear hown2 hg2))
      all_goals
        rw [HT.out] at HN2
        go_wp2_with fail
        go_roundw
        case rel => exact ⟨k + 1, by omega, by go_num, HN2, HB2⟩
        case measure => simp [intOf]; omega
    · have HN1 : Hid (wr.ownsRow w.heap.size 45 2 u3 l.length (FC l)) := by
        have := HN.out
        rw [List.take_of_length_le (by omega)] at this
        exact this
      clear HN hat hx
      go_wp2_with fail
      go_ret
      exact ⟨_, rfl, HN1.out, HB.out⟩

end Go.Proofs.YtoahfhidekmodaaGreatDoor

/- Walks: how many names are unlike in two maps of the program's. -/
namespace Go.Proofs.YtoahfhidekmodaaGreatDoor
open Go.RowKit Go.Maps Pth

/-- A file that is new, or another one. -/
def freshF (l : List FileT) (f : FileT) : Bool := !hasF l f.1 || !(bodyF l f.1 == f.2)
def lostF (l : List FileT) (f : FileT) : Bool := !hasF l f.1
def unlikeN (l1 l2 : List FileT) : Nat := (l2.filter (freshF l1)).length + (l1.filter (lostF l2)).length
theorem filter_snoc (P : FileT → Bool) (a : List FileT) (f : FileT) : ((a ++ [f]).filter P).length = (a.filter P).length + (if P f = true then 1 else 0) := by
  rw [List.filter_append, List.length_append]
  cases h : P f <;> simp [h]
theorem perm_count {a l : List FileT} (h : a.Perm l) (P : FileT → Bool) : (a.filter P).length = (l.filter P).length := (h.filter P).length_eq

set_option maxRecDepth 20000 in
set_option maxHeartbeats 8000000 in
theorem countUnlike_any (l1 l2 : List FileT) (b1 n1 b2 n2 : Nat) (w : World) (h1 : MapF w b1 n1 l1) (h2 : MapF w b2 n2 l2) (hl1 : l1.length ≤ 5000) (hl2 : l2.length ≤ 5000) :
    Calls Tryz.prog 55 #[.map (some b1), .map (some b2)] w fun e w' => e = .returned (.int .i64 (unlikeN l1 l2 : Int)) ∧ Below w.heap.size w w' := by
  have H1 := Lib.hid h1
  have H2 := Lib.hid h2
  have hb1 := h1.lt
  have hb2 := h2.lt
  have HR1 := Lib.hid h1.2
  have HR2 := Lib.hid h2.2
  clear h1 h2
  have HU : Hid (unlikeN l1 l2 = (l2.filter (freshF l1)).length + (l1.filter (lostF l2)).length) := rfl
  rw [HU.out]
  clear HU
  generalize hN1 : (l2.filter (freshF l1)).length = N1
  generalize hN2 : (l1.filter (lostF l2)).length = N2
  have HN1 := Lib.hid hN1
  have HN2 := Lib.hid hN2
  clear hN1 hN2
  go_enter Tryz.func55, Tryz.ntmps55
  go_wp2_with (at_range; refine wpRangeF _ rfl _ rfl b2 n2 l2 rfl H2.out ?_; intro w0 hrg0 hg0 hs0)
  go_frame
  have HR0 := Lib.hid hrg0
  have HB0 := Lib.hid ((Below.refl w.heap.size w).grown hg0 (Nat.le_refl _) (fun j hj => by cases hj))
  have HM0 := Lib.hid (H1.out.kept hg0 (by simp))
  clear hrg0 hg0
  go_loopw [5] (fun q wr => ∃ (left : Lit → Bool) (cnt : Nat) (acc : List FileT), q = .int .i64 ((acc.filter (freshF l1)).length : Int) ∧ Hid (RangF wr b2 w.heap.size n2 l2 left cnt) ∧ Hid (MapF wr b1 n1 l1) ∧ Hid (CollF l2 left acc) ∧ acc.length + cnt ≤ l2.length ∧ Hid (Below w.heap.size w wr)) (fun _ wr => wr.rangeLeft b2 w.heap.size)
  case atStart => exact ⟨_, _, [], rfl, HR0, HM0, CollF.start l2, by simp, HB0⟩
  case round =>
    clear HR0 HB0 hs0 HM0 H1 H2
    obtain ⟨left, cnt, acc, rfl, HR, HM, HC, hcs, HB⟩ := hrel
    have hfl : (acc.filter (freshF l1)).length ≤ acc.length := List.length_filter_le _ _
    go_wp2_with (at_next; refine wpNextF _ rfl _ rfl b2 w.heap.size n2 l2 left cnt rfl HR.out ?_ ?_)
    · intro hc0 hl0
      have HPC := Lib.hid ((perm_count (HC.out.perm HR2.out hl0) (freshF l1)).trans HN1.out)
      generalize (acc.filter (freshF l1)).length = m1 at hfl HPC
      have H2 := Lib.hid HR.out.owns
      clear hl0 HC HR hc0
      go_wp2_with (at_range; refine wpRangeF _ rfl _ rfl b1 n1 l1 rfl HM.out ?_; intro w0 hrg0 hg0 hs0)
      go_frame
      have HR0 := Lib.hid hrg0
      have HB0 := Lib.hid (HB.out.grown hg0 HB.out.size (fun j hj => by cases hj))
      have HM0 := Lib.hid (H2.out.kept hg0 (by simp))
      have hbw : w.heap.size ≤ wr.heap.size := HB.out.size
      clear hrg0 hg0 HB HM H2
      generalize wr.heap.size = rr at HR0 hs0 hbw ⊢
      go_loopw [5] (fun q wr => ∃ (left : Lit → Bool) (cnt : Nat) (acc : List FileT), q = .int .i64 ((m1 + (acc.filter (lostF l2)).length : Nat) : Int) ∧ Hid (RangF wr b1 rr n1 l1 left cnt) ∧ Hid (MapF wr b2 n2 l2) ∧ Hid (CollF l1 left acc) ∧ acc.length + cnt ≤ l1.length ∧ Hid (Below w.heap.size w wr)) (fun _ wr => wr.rangeLeft b1 rr)
      case atStart => exact ⟨_, _, [], by simp, HR0, HM0, CollF.start l1, by simp, HB0⟩
      case round =>
        clear HR0 HB0 hs0 HM0
        obtain ⟨left, cnt, acc, rfl, HR, HM, HC, hcs, HB⟩ := hrel
        have hfl2 : (acc.filter (lostF l2)).length ≤ acc.length := List.length_filter_le _ _
        go_wp2_with (at_next; refine wpNextF _ rfl _ rfl b1 rr n1 l1 left cnt rfl HR.out ?_ ?_)
        · intro hc0 hl0
          have HPD := Lib.hid ((perm_count (HC.out.perm HR1.out hl0) (lostF l2)).trans HN2.out)
          generalize (acc.filter (lostF l2)).length = m2 at hfl2 HPD
          clear hl0 HC HR hc0
          go_wp2_with fail
          go_ret
          exact ⟨by rw [← HPC.out, ← HPD.out]; rfl, HB.out⟩
        · intro x c w1 cnt1 hmem hx hc hlx hrg1 hlt hg1 hs1 hen
          have HB1 := Lib.hid (HB.out.grown hg1 HB.out.size (fun j hj => by cases hj; exact hbw))
          have HC1 := Lib.hid (HC.out.step HR1.out hmem hlx)
          have HM1 := Lib.hid (HM.out.kept hg1 (by simp; omega))
          have HS := Lib.hid (filter_snoc (lostF l2) acc (x, c))
          have HLX := Lib.hid hx
          have HR1' := Lib.hid hrg1
          have hml : wr.rangeLeft b1 rr = cnt := HR.out.1.left_eq
          have hml2 : w1.rangeLeft b1 rr = cnt1 := hrg1.1.left_eq
          generalize (acc.filter (lostF l2)).length = m2 at hfl2 HS
          clear hmem hc hx hlx hrg1 hg1 hs1 HC HB HM
          rcases eh : hasF l2 x with _ | _
          · have hP : lostF l2 (x, c) = true := by simp [lostF, eh]
            have HE := Lib.hid eh
            have HQ : Hid (((acc ++ [(x, c)]).filter (lostF l2)).length = m2 + 1) := by show _ = _; rw [HS.out, if_pos hP]
            clear eh hP HS
            go_wp2_with (at_lookup; refine wpLookF _ rfl _ _ rfl b2 n2 l2 rfl HM1.out x rfl HLX.out ?_; rw [HE.out])
            go_roundw
            case rel => exact ⟨_, cnt1, acc ++ [(x, c)], by rw [HQ.out]; go_num, HR1', HM1, HC1, by simp; omega, HB1⟩
            case measure => rw [hml, hml2]; exact hlt
          · have hP : lostF l2 (x, c) = false := by simp [lostF, eh]
            have HE := Lib.hid eh
            have HQ : Hid (((acc ++ [(x, c)]).filter (lostF l2)).length = m2) := by show _ = _; rw [HS.out, hP]; simp
            clear eh hP HS
            go_wp2_with (at_lookup; refine wpLookF _ rfl _ _ rfl b2 n2 l2 rfl HM1.out x rfl HLX.out ?_; rw [HE.out])
            go_roundw
            case rel => exact ⟨_, cnt1, acc ++ [(x, c)], by rw [HQ.out]; go_num, HR1', HM1, HC1, by simp; omega, HB1⟩
            case measure => rw [hml, hml2]; exact hlt
    · intro x c w1 cnt1 hmem hx hc hlx hrg1 hlt hg1 hs1 hen
      have HB1 := Lib.hid (HB.out.grown hg1 HB.out.size (fun j hj => by cases hj; exact Nat.le_refl _))
      have HC1 := Lib.hid (HC.out.step HR2.out hmem hlx)
      have HM1 := Lib.hid (HM.out.kept hg1 (by simp; omega))
      have HS := Lib.hid (filter_snoc (freshF l1) acc (x, c))
      have HLX := Lib.hid hx
      have HR1' := Lib.hid hrg1
      have hml : wr.rangeLeft b2 w.heap.size = cnt := HR.out.1.left_eq
      have hml2 : w1.rangeLeft b2 w.heap.size = cnt1 := hrg1.1.left_eq
      generalize (acc.filter (freshF l1)).length = m2 at hfl HS
      clear hmem hc hx hlx hrg1 hg1 hs1 HC HB HM
      rcases eh : hasF l1 x with _ | _
      · have hP : freshF l1 (x, c) = true := by simp [freshF, eh]
        have HE := Lib.hid eh
        have HQ : Hid (((acc ++ [(x, c)]).filter (freshF l1)).length = m2 + 1) := by show _ = _; rw [HS.out, if_pos hP]
        clear eh hP HS
        go_wp2_with (at_lookup; refine wpLookF _ rfl _ _ rfl b1 n1 l1 rfl HM1.out x rfl HLX.out ?_; rw [HE.out])
        go_roundw
        case rel => exact ⟨_, cnt1, acc ++ [(x, c)], by rw [HQ.out]; go_num, HR1', HM1, HC1, by simp; omega, HB1⟩
        case measure => rw [hml, hml2]; exact hlt
      · rcases eb : (bodyF l1 x == c) with _ | _
        · have hP : freshF l1 (x, c) = true := by simp only [freshF, eb, Bool.not_false, Bool.or_true]
          obtain ⟨t, ht⟩ : ∃ t, bodyF l1 x = t := ⟨_, rfl⟩
          have HBD := Lib.hid ht
          rw [ht] at eb
          have hb : (t == c) = false := eb
          have HE := Lib.hid eh
          have HQ : Hid (((acc ++ [(x, c)]).filter (freshF l1)).length = m2 + 1) := by show _ = _; rw [HS.out, if_pos hP]
          clear eh hP HS eb ht
          go_wp2_with (at_lookup; refine wpLookF _ rfl _ _ rfl b1 n1 l1 rfl HM1.out x rfl HLX.out ?_; rw [HE.out, HBD.out])
          go_roundw
          case rel => exact ⟨_, cnt1, acc ++ [(x, c)], by rw [HQ.out]; go_num, HR1', HM1, HC1, by simp; omega, HB1⟩
          case measure => rw [hml, hml2]; exact hlt
        · have hP : freshF l1 (x, c) = false := by simp only [freshF, eb, eh]; rfl
          have hb : bodyF l1 x = c := by simpa using eb
          have HE := Lib.hid eh
          have HBD := Lib.hid hb
          have hcc : (c != c) = false := by simp
          have HQ : Hid (((acc ++ [(x, c)]).filter (freshF l1)).length = m2) := by show _ = _; rw [HS.out, hP]; simp
          clear eh hP HS eb hb
          go_wp2_with (at_lookup; refine wpLookF _ rfl _ _ rfl b1 n1 l1 rfl HM1.out x rfl HLX.out ?_; rw [HE.out, HBD.out])
          go_roundw
          case rel => exact ⟨_, cnt1, acc ++ [(x, c)], by rw [HQ.out], HR1', HM1, HC1, by simp; omega, HB1⟩
          case measure => rw [hml, hml2]; exact hlt

end Go.Proofs.YtoahfhidekmodaaGreatDoor

/- Walks: what is taken (the reference). -/
namespace Go.Proofs.YtoahfhidekmodaaGreatDoor
open Go.RowKit Pth

/-- Whether a staged file makes a change. -/
def newF (l : List FileT) (f : FileT) : Bool := match l[(findF l f.1).toNat]? with | some g => decide (findF l f.1 < 0) || !(decide (g = f)) | none => true
def newN (s : StoreT) (k : Nat) : Nat := ((s.staged.take k).filter (newF s.files)).length
def gonN (s : StoreT) (k : Nat) : Nat := ((s.gone.take k).filter (fun n => decide (0 ≤ findF s.files n))).length
def commitN (s : StoreT) : Nat := if goodS s = true then newN s s.staged.length + gonN s s.gone.length else 0
def commitT (s : StoreT) : StoreT := if goodS s = true then ⟨takenF s, [], []⟩ else noStore
/-- A store, a number and a bool are handed back. -/
def StoreNOk (t : StoreT) (n : Nat) (ok : Bool) (w : World) (e : Ending) (w' : World) : Prop := ∃ v, e = .returned (.tuple #[v, .int .i64 (n : Int), .bool ok]) ∧ StoreO w.heap.size w' v t ∧ Below w.heap.size w w'

theorem noStore_own (B : Nat) (w : World) : StoreO B w (.agg #[.slice none 0 0, .slice none 0 0, .slice none 0 0]) noStore :=
  ⟨_, _, _, rfl, World.ownsRow_nil _ _ _ _, World.ownsRow_nil _ _ _ _, World.ownsRow_nil _ _ _ _, fun k hk => by simp [Value.ownBlock] at hk⟩

theorem newF_neg {l : List FileT} {f : FileT} (h : findF l f.1 < 0) : newF l f = true := by
  unfold newF
  rw [decide_eq_true h]
  cases l[(findF l f.1).toNat]? <;> rfl
theorem newF_hit {l : List FileT} {f : FileT} {j : Nat} (hj : j < l.length) (h : findF l f.1 = j) : newF l f = !(decide (l[j] = f)) := by
  have e : ((j : Int)).toNat = j := by omega
  unfold newF
  rw [h, e, List.getElem?_eq_getElem hj, decide_eq_false (by omega : ¬ (j : Int) < 0)]
  rfl
theorem newN_next {s : StoreT} {k : Nat} (hk : k < s.staged.length) : newN s (k + 1) = newN s k + (if newF s.files s.staged[k] = true then 1 else 0) := by
  unfold newN
  rw [List.take_succ_eq_append_getElem hk, List.filter_append, List.length_append]
  cases h : newF s.files s.staged[k] <;> simp [h]
theorem newN_le (s : StoreT) (k : Nat) : newN s k ≤ k := by
  unfold newN
  have h1 := List.length_filter_le (newF s.files) (s.staged.take k)
  have h2 := List.length_take_le k s.staged
  omega
theorem gonN_next {s : StoreT} {k : Nat} (hk : k < s.gone.length) : gonN s (k + 1) = gonN s k + (if 0 ≤ findF s.files s.gone[k] then 1 else 0) := by
  unfold gonN
  rw [List.take_succ_eq_append_getElem hk, List.filter_append, List.length_append]
  by_cases h : 0 ≤ findF s.files s.gone[k] <;> simp [h]
theorem gonN_le (s : StoreT) (k : Nat) : gonN s k ≤ k := by
  unfold gonN
  have h1 := List.length_filter_le (fun n => decide (0 ≤ findF s.files n)) (s.gone.take k)
  have h2 := List.length_take_le k s.gone
  omega

set_option maxRecDepth 20000 in
set_option maxHeartbeats 20000000 in
theorem specCommit_any (s : StoreT) (v : Value) (w : World) (hst : StoreV w v s) (hx : Fits s) :
    Calls Tryz.prog 27 #[v] w (StoreNOk (commitT s) (commitN s) (goodS s) w) := by
  have HST := Lib.hid hst
  obtain ⟨vf, vs, vg, rfl, h1, h2, h3⟩ := hst
  have H1 := Lib.hid h1
  obtain ⟨af, cf, rfl, hf1, hf2, hatf⟩ := h1.files
  obtain ⟨a2, cs, rfl, hs1, hs2, hats⟩ := h2.files
  obtain ⟨ag, cg, rfl, hg1, hg2, hatg⟩ := h3.texts
  clear h1 h2 h3
  have HG := Lib.hid (fun W hr => specGoodStore_any s (.agg #[.slice af s.files.length cf, .slice a2 s.staged.length cs, .slice ag s.gone.length cg]) W hr hx)
  clear hx
  unfold maxLen at hf2 hs2 hg2
  obtain ⟨wa, hwa⟩ : ∃ wa, wa = (w.alloc (.cells #[.slice af s.files.length cf, .slice a2 s.staged.length cs, .slice ag s.gone.length cg] 26)).alloc (.cells #[.slice none 0 0, .slice none 0 0, .slice none 0 0] 26) := ⟨_, rfl⟩
  have hsz : wa.heap.size = w.heap.size + 2 := by rw [hwa]; simp
  have P0 : Hid (Blk3 wa w.heap.size 26 (.slice af s.files.length cf) (.slice a2 s.staged.length cs) (.slice ag s.gone.length cg)) := by rw [hwa]; exact Blk3.new.old _
  have R0 : Hid (Blk3 wa (w.heap.size + 1) 26 (.slice none 0 0) (.slice none 0 0) (.slice none 0 0)) := by
    rw [hwa]
    have := Blk3.new (w := w.alloc (.cells #[.slice af s.files.length cf, .slice a2 s.staged.length cs, .slice ag s.gone.length cg] 26)) (t := 26) (x := .slice none 0 0) (y := .slice none 0 0) (z := .slice none 0 0)
    simpa [Hid] using this
  have HA : Hid (Below w.heap.size w wa) := by rw [hwa]; exact ((Below.refl w.heap.size w).alloc (Nat.le_refl _) _).alloc (by simp) _
  have HWA := Lib.hid hwa
  clear hwa
  rcases eg : goodS s with _ | _
  · have HT : Hid (commitT s = noStore) := by rw [commitT, eg]; rfl
    have HT2 : Hid (commitN s = 0) := by rw [commitN, eg]; rfl
    rw [HT.out, HT2.out]
    rw [eg] at HG
    clear eg HT HT2 hatf hats hatg
    go_enter Tryz.func27, Tryz.ntmps27
    go_wp2_with fail
    rw [← HWA.out]
    refine (HG.out wa (HST.out.below HA.out)).mono ?_
    rintro e w1 ⟨rfl, hb1⟩
    have HB1 := Lib.hid hb1
    have R1 := Lib.hid (R0.out.below hb1 (by omega))
    obtain ⟨k0, k1, k2⟩ := R1.out.cells
    have z0 := R1.out.soft 0
    have z1 := R1.out.soft 1
    have z2 := R1.out.soft 2
    clear hb1
    go_wp2_with fail
    have Z := ((R1.out.set0 (.slice none 0 0)).set1 (.slice none 0 0)).set2 (.slice none 0 0)
    refine bodyPost_ret (results_cell3 rfl rfl (load_store Z.cells.1 Z.cells.2.1 Z.cells.2.2)) rfl ?_
    refine ⟨_, rfl, noStore_own _ _, ?_⟩
    have HW := HA.out.trans (HB1.out.mono HA.out.size)
    exact ((HW.setCell (p := ⟨w.heap.size + 1, 0, none⟩) (Nat.le_succ _) _).setCell (p := ⟨w.heap.size + 1, 1, none⟩) (Nat.le_succ _) _).setCell (p := ⟨w.heap.size + 1, 2, none⟩) (Nat.le_succ _) _
  · rw [eg] at HG
    obtain ⟨l1, l2, l3⟩ := good_sizes eg
    have HT : Hid (commitT s = ⟨takenF s, [], []⟩) := by rw [commitT, eg]; rfl
    have HT2 : Hid (commitN s = newN s s.staged.length + gonN s s.gone.length) := by rw [commitN, eg]; rfl
    rw [HT.out, HT2.out]
    clear eg HT HT2
    go_enter Tryz.func27, Tryz.ntmps27
    go_wp2_with fail
    rw [← HWA.out]
    refine (HG.out wa (HST.out.below HA.out)).mono ?_
    rintro e w1 ⟨rfl, hb1⟩
    have HB1 := Lib.hid hb1
    have P1 := Lib.hid (P0.out.below hb1 (by omega))
    obtain ⟨c0, c1, c2⟩ := P1.out.cells
    clear hb1
    go_wp2_with fail
    refine (l3Taken_any s _ w1 (HST.out.below (HA.out.trans (HB1.out.mono HA.out.size))) (by omega) (by omega) (by omega)).mono ?_
    rintro e w2 ⟨v2, rfl, hown2, hb2⟩
    have HB2 := Lib.hid (HB1.out.trans (hb2.mono HB1.out.size))
    have HN2 := Lib.hid (own_baseG hown2 (Nat.le_trans (by omega) HB1.out.size) : w2.ownsRow wa.heap.size _ _ _ _ _)
    have P2 := Lib.hid (P0.out.below HB2.out (by omega))
    clear hown2 hb2 c0 c1 c2 P1
    obtain ⟨c0, c1, c2⟩ := P2.out.cells
    go_wp2_with fail
    go_loopw [6, 21] (fun q i wr => ∃ k : Nat, k ≤ s.staged.length ∧ q = .int .i64 (newN s k : Int) ∧ i = .int .i64 k ∧ Hid (wr.ownsRow wa.heap.size 45 2 v2 (takenF s).length (FC (takenF s))) ∧ Hid (Below wa.heap.size wa wr)) (fun _ i _ => s.staged.length - (intOf i).toNat)
    case atStart => exact ⟨0, Nat.zero_le _, rfl, rfl, HN2, HB2⟩
    case round =>
      clear HN2 HB2 P2 c0 c1 c2
      obtain ⟨k, hk, rfl, rfl, HN, HB⟩ := hrel
      have P2 := Lib.hid (P0.out.below HB.out (by omega))
      obtain ⟨c0, c1, c2⟩ := P2.out.cells
      have HW := Lib.hid (HA.out.trans (HB.out.mono HA.out.size))
      have hbs := HB.out.size
      have hnle := newN_le s k
      by_cases hlt : k < s.staged.length
      · obtain ⟨g, o, rfl, hg, hcell1, hcell2⟩ := hats k hlt
        have hc1 := (HW.out.cell (p := ⟨g, o + k * 2, none⟩) hg).trans hcell1
        have hc2 := (HW.out.cell (p := ⟨g, o + k * 2 + 1, none⟩) hg).trans hcell2
        have hfr := find_range s.files s.staged[k].1
        have HF := Lib.hid (fun W hr => l3Find_any s.files s.staged[k].1 (.slice af s.files.length cf) W hr)
        have HNX := Lib.hid (newN_next hlt)
        have hpos : ∀ j : Nat, findF s.files s.staged[k].1 = j → j < s.files.length := fun j hj => by omega
        by_cases hneg : findF s.files s.staged[k].1 < 0
        · rw [newF_neg hneg, if_pos rfl] at HNX
          have hd : decide (findF s.files s.staged[k].1 < 0) = true := decide_eq_true hneg
          clear hcell1 hcell2 hats hatf hatg hpos
          generalize findF s.files s.staged[k].1 = fi at HF hneg hd hfr
          generalize s.staged[k].1 = x at hc1 HF
          generalize s.staged[k].2 = y at hc2
          have c0x : (wr.alloc (.cells #[.string ⟨x.toArray⟩, .string ⟨y.toArray⟩] 45)).cell? ⟨w.heap.size, 0, none⟩ = some (.slice af s.files.length cf) := by rw [World.cell?_alloc_lt _ _ _ (by show w.heap.size < _; omega)]; exact c0
          obtain ⟨wf, hwf⟩ : ∃ wf, wf = wr.alloc (.cells #[.string ⟨x.toArray⟩, .string ⟨y.toArray⟩] 45) := ⟨_, rfl⟩
          have HF0 : Hid (wf.cell? ⟨wr.heap.size, 0, none⟩ = some (.string ⟨x.toArray⟩)) := by rw [hwf]; simp [Hid]
          have HF1 : Hid (wf.cell? ⟨wr.heap.size, 1, none⟩ = some (.string ⟨y.toArray⟩)) := by rw [hwf]; simp [Hid]
          have hfs : wf.heap.size = wr.heap.size + 1 := by rw [hwf]; simp
          have HBF : Hid (Below wa.heap.size wa wf) := by rw [hwf]; exact HB.out.alloc hbs _
          have HNF : Hid (wf.ownsRow wa.heap.size 45 2 v2 (takenF s).length (FC (takenF s))) := by rw [hwf]; exact own_belowG HN.out ((Below.refl _ wr).alloc (Nat.le_refl _) _)
          have HWF := Lib.hid hwf
          clear hwf c0 c1 c2
          go_wp2_with fail
          rw [← HWF.out]
          refine (HF.out wf (H1.out.below (HA.out.trans (HBF.out.mono HA.out.size)))).mono ?_
          rintro e w5 ⟨rfl, hb5⟩
          have HB5 := Lib.hid (HBF.out.trans (hb5.mono HBF.out.size))
          have HN5 := Lib.hid (own_belowG HNF.out hb5)
          have d0 := (P0.out.below HB5.out (by omega)).cells.1
          have f0 := (hb5.cell (p := ⟨wr.heap.size, 0, none⟩) (by show wr.heap.size < _; omega)).trans HF0.out
          have f1 := (hb5.cell (p := ⟨wr.heap.size, 1, none⟩) (by show wr.heap.size < _; omega)).trans HF1.out
          clear hb5 c0x
          go_wp2_with fail
          go_quiet (fail)
          have HB6 := Lib.hid (below_drewN HB5.out nq)
          have HN6 := Lib.hid (own_drewN HN5.out nq)
          go_wp2_with fail
          go_roundw
          case rel => exact ⟨k + 1, by omega, by rw [HNX.out]; go_num, by go_num, HN6, HB6⟩
          case measure => simp [intOf]; omega
        · obtain ⟨j, hj⟩ : ∃ j : Nat, findF s.files s.staged[k].1 = j := ⟨(findF s.files s.staged[k].1).toNat, by omega⟩
          have hjl := hpos j hj
          rw [newF_hit hjl hj] at HNX
          rw [hj] at HF hneg
          have hd : decide ((j : Int) < 0) = false := decide_eq_false hneg
          have hj1 : (j : Int) < (s.files.length : Int) := by omega
          obtain ⟨gf, of, rfl, hgf, hq1, hq2⟩ := hatf j hjl
          have hgw : gf < w.heap.size := hgf
          have e1 : s.files[j] = (s.files[j].1, s.files[j].2) := rfl
          have e2 : s.staged[k] = (s.staged[k].1, s.staged[k].2) := rfl
          rw [e1, e2] at HNX
          clear hcell1 hcell2 hats hatf hatg hpos e1 e2 hj hfr
          generalize s.staged[k].1 = x at hc1 HF HNX
          generalize s.staged[k].2 = y at hc2 HNX
          generalize s.files[j].1 = x' at hq1 HNX
          generalize s.files[j].2 = y' at hq2 HNX
          have c0x : (wr.alloc (.cells #[.string ⟨x.toArray⟩, .string ⟨y.toArray⟩] 45)).cell? ⟨w.heap.size, 0, none⟩ = some (.slice (some ⟨gf, of, none⟩) s.files.length cf) := by rw [World.cell?_alloc_lt _ _ _ (by show w.heap.size < _; omega)]; exact c0
          obtain ⟨wf, hwf⟩ : ∃ wf, wf = wr.alloc (.cells #[.string ⟨x.toArray⟩, .string ⟨y.toArray⟩] 45) := ⟨_, rfl⟩
          have HF0 : Hid (wf.cell? ⟨wr.heap.size, 0, none⟩ = some (.string ⟨x.toArray⟩)) := by rw [hwf]; simp [Hid]
          have HF1 : Hid (wf.cell? ⟨wr.heap.size, 1, none⟩ = some (.string ⟨y.toArray⟩)) := by rw [hwf]; simp [Hid]
          have hfs : wf.heap.size = wr.heap.size + 1 := by rw [hwf]; simp
          have HBF : Hid (Below wa.heap.size wa wf) := by rw [hwf]; exact HB.out.alloc hbs _
          have HNF : Hid (wf.ownsRow wa.heap.size 45 2 v2 (takenF s).length (FC (takenF s))) := by rw [hwf]; exact own_belowG HN.out ((Below.refl _ wr).alloc (Nat.le_refl _) _)
          have HWF := Lib.hid hwf
          clear hwf c0 c1 c2
          go_wp2_with fail
          rw [← HWF.out]
          refine (HF.out wf (H1.out.below (HA.out.trans (HBF.out.mono HA.out.size)))).mono ?_
          rintro e w5 ⟨rfl, hb5⟩
          have HB5 := Lib.hid (HBF.out.trans (hb5.mono HBF.out.size))
          have HN5 := Lib.hid (own_belowG HNF.out hb5)
          have d0 := (P0.out.below HB5.out (by omega)).cells.1
          have f0 := (hb5.cell (p := ⟨wr.heap.size, 0, none⟩) (by show wr.heap.size < _; omega)).trans HF0.out
          have f1 := (hb5.cell (p := ⟨wr.heap.size, 1, none⟩) (by show wr.heap.size < _; omega)).trans HF1.out
          clear hb5 c0x
          have HW5 := Lib.hid (HA.out.trans (HB5.out.mono HA.out.size))
          have g1 := (HW5.out.cell (p := ⟨gf, of + j * 2, none⟩) hgf).trans hq1
          have g2 := (HW5.out.cell (p := ⟨gf, of + j * 2 + 1, none⟩) hgf).trans hq2
          clear hq1 hq2
          by_cases hxx : x' = x
          · have b1 : (x' == x) = true := by simp [hxx]
            by_cases hyy : y' = y
            · have b2 : (y' == y) = true := by simp [hyy]
              rw [hxx, hyy, decide_eq_true rfl, if_neg (by decide)] at HNX
              clear hxx hyy
              go_wp2_with fail
              go_quiet (fail)
              have HB6 := Lib.hid (below_drewN HB5.out nq)
              have HN6 := Lib.hid (own_drewN HN5.out nq)
              go_wp2_with fail
              go_roundw
              case rel => exact ⟨k + 1, by omega, by rw [HNX.out]; go_num, by go_num, HN6, HB6⟩
              case measure => simp [intOf]; omega
            · have b2 : (y' == y) = false := by simp [hyy]
              rw [decide_eq_false (fun h => hyy (Prod.mk.inj h).2), if_pos (by decide)] at HNX
              clear hxx hyy
              go_wp2_with fail
              go_quiet (fail)
              have HB6 := Lib.hid (below_drewN HB5.out nq)
              have HN6 := Lib.hid (own_drewN HN5.out nq)
              go_wp2_with fail
              go_roundw
              case rel => exact ⟨k + 1, by omega, by rw [HNX.out]; go_num, by go_num, HN6, HB6⟩
              case measure => simp [intOf]; omega
          · have b1 : (x' == x) = false := by simp [hxx]
            rw [decide_eq_false (fun h => hxx (Prod.mk.inj h).1), if_pos (by decide)] at HNX
            clear hxx
            go_wp2_with fail
            go_quiet (fail)
            have HB6 := Lib.hid (below_drewN HB5.out nq)
            have HN6 := Lib.hid (own_drewN HN5.out nq)
            go_wp2_with fail
            go_roundw
            case rel => exact ⟨k + 1, by omega, by rw [HNX.out]; go_num, by go_num, HN6, HB6⟩
            case measure => simp [intOf]; omega
      · obtain rfl : k = s.staged.length := by omega
        clear hats hatf
        obtain ⟨N, hN⟩ : ∃ N, N = newN s s.staged.length := ⟨_, rfl⟩
        rw [← hN] at hnle ⊢
        go_wp2_with fail
        clear c0 c1 c2 P2
        go_loopw [6, 47] (fun q i wr => ∃ k : Nat, k ≤ s.gone.length ∧ q = .int .i64 ((N + gonN s k : Nat) : Int) ∧ i = .int .i64 k ∧ Hid (wr.ownsRow wa.heap.size 45 2 v2 (takenF s).length (FC (takenF s))) ∧ Hid (Below wa.heap.size wa wr)) (fun _ i _ => s.gone.length - (intOf i).toNat)
        case atStart => exact ⟨0, Nat.zero_le _, rfl, rfl, HN, HB⟩
        case round =>
          clear HN HB HW hbs
          obtain ⟨k, hk, rfl, rfl, HN, HB⟩ := hrel
          have P2 := Lib.hid (P0.out.below HB.out (by omega))
          obtain ⟨c0, c1, c2⟩ := P2.out.cells
          have HW := Lib.hid (HA.out.trans (HB.out.mono HA.out.size))
          have hbs := HB.out.size
          have hgle := gonN_le s k
          by_cases hlt : k < s.gone.length
          · obtain ⟨g, o, rfl, hg, hcell1⟩ := hatg k hlt
            have hc1 := (HW.out.cell (p := ⟨g, o + k, none⟩) hg).trans hcell1
            have HF := Lib.hid (fun W hr => l3Find_any s.files s.gone[k] (.slice af s.files.length cf) W hr)
            have HNX := Lib.hid (gonN_next hlt)
            by_cases hpos : 0 ≤ findF s.files s.gone[k]
            · rw [if_pos hpos] at HNX
              have hd : decide (0 ≤ findF s.files s.gone[k]) = true := decide_eq_true hpos
              clear hcell1 hatg
              generalize findF s.files s.gone[k] = fi at HF hpos hd
              generalize s.gone[k] = x at hc1 HF
              go_wp2_with fail
              refine (HF.out wr (H1.out.below HW.out)).mono ?_
              rintro e w5 ⟨rfl, hb5⟩
              have HB5 := Lib.hid (HB.out.trans (hb5.mono HB.out.size))
              have HN5 := Lib.hid (own_belowG HN.out hb5)
              clear hb5
              go_wp2_with fail
              go_roundw
              case rel => exact ⟨k + 1, by omega, by rw [HNX.out]; go_num, by go_num, HN5, HB5⟩
              case measure => simp [intOf]; omega
            · rw [if_neg hpos] at HNX
              have hd : decide (0 ≤ findF s.files s.gone[k]) = false := decide_eq_false hpos
              clear hcell1 hatg
              generalize findF s.files s.gone[k] = fi at HF hpos hd
              generalize s.gone[k] = x at hc1 HF
              go_wp2_with fail
              refine (HF.out wr (H1.out.below HW.out)).mono ?_
              rintro e w5 ⟨rfl, hb5⟩
              have HB5 := Lib.hid (HB.out.trans (hb5.mono HB.out.size))
              have HN5 := Lib.hid (own_belowG HN.out hb5)
              clear hb5
              go_wp2_with fail
              go_roundw
              case rel => exact ⟨k + 1, by omega, by rw [HNX.out]; go_num, by go_num, HN5, HB5⟩
              case measure => simp [intOf]; omega
          · obtain rfl : k = s.gone.length := by omega
            obtain ⟨a9, c9, hv9⟩ := own_sliceG HN.out
            subst hv9
            have R1 := Lib.hid (R0.out.below HB.out (by omega))
            obtain ⟨k0, k1, k2⟩ := R1.out.cells
            have z0 := R1.out.soft 0
            have z1 := R1.out.soft 1
            have z2 := R1.out.soft 2
            clear hatg c0 c1 c2 P2
            go_wp2_with fail
            have Z := ((R1.out.set0 (.slice a9 (takenF s).length c9)).set1 (.slice none 0 0)).set2 (.slice none 0 0)
            refine bodyPost_ret (results_cell3 rfl rfl (load_store Z.cells.1 Z.cells.2.1 Z.cells.2.2)) rfl ?_
            have q1 : w.heap.size + 1 < wa.heap.size := by omega
            refine ⟨_, by simp [hN], ⟨_, _, _, rfl, own_baseG (own_set (own_set (own_set HN.out (p := ⟨w.heap.size + 1, 0, none⟩) q1 _) (p := ⟨w.heap.size + 1, 1, none⟩) q1 _) (p := ⟨w.heap.size + 1, 2, none⟩) q1 _) (by omega), World.ownsRow_nil _ _ _ _, World.ownsRow_nil _ _ _ _, fun j _ h => by simp [Value.ownBlock] at h⟩, ?_⟩
            exact ((HW.out.setCell (p := ⟨w.heap.size + 1, 0, none⟩) (Nat.le_succ _) _).setCell (p := ⟨w.heap.size + 1, 1, none⟩) (Nat.le_succ _) _).setCell (p := ⟨w.heap.size + 1, 2, none⟩) (Nat.le_succ _) _

end Go.Proofs.YtoahfhidekmodaaGreatDoor

/- Mathematics of a commit: how many names are unlike. -/
namespace Go.Proofs.YtoahfhidekmodaaGreatDoor
open Go.RowKit Go.Maps Pth

theorem hasF_iff {l : List FileT} {n : List UInt8} : hasF l n = true ↔ ∃ f ∈ l, f.1 = n := by
  rw [hasF, List.any_eq_true]
  exact ⟨fun ⟨f, h, e⟩ => ⟨f, h, by simpa using e⟩, fun ⟨f, h, e⟩ => ⟨f, h, by simpa using e⟩⟩
theorem hasF_body {l : List FileT} {n : List UInt8} (h : hasF l n = true) : (n, bodyF l n) ∈ l := by
  obtain ⟨f, hf, e⟩ := hasF_iff.1 h
  rcases hq : l.find? (fun f => f.1 == n) with _ | g
  · have := List.find?_eq_none.1 hq f hf
    simp [e] at this
  · have h1 := List.find?_some hq
    have h2 := List.mem_of_find?_eq_some hq
    have e2 : g = (n, bodyF l n) := Prod.ext (by simpa using h1) (by rw [bodyF, hq])
    exact e2 ▸ h2
theorem fresh_mem {l : List FileT} (hr : RiseF l) (f : FileT) : freshF l f = !decide (f ∈ l) := by
  rcases h : hasF l f.1 with _ | _
  · have : ¬ f ∈ l := fun hm => by
      have := hasF_iff.2 ⟨f, hm, rfl⟩
      rw [h] at this; cases this
    simp [freshF, h, this]
  · have hb := hasF_body h
    by_cases hm : f ∈ l
    · have e := hr.one hm hb rfl
      have e2 : bodyF l f.1 = f.2 := (congrArg Prod.snd e).symm
      simp [freshF, h, e2, hm]
    · have e2 : ¬ bodyF l f.1 = f.2 := fun e => hm (by
        have : (f.1, bodyF l f.1) = f := Prod.ext rfl e
        exact this ▸ hb)
      simp [freshF, h, e2, hm]
theorem find_name {l : List FileT} {n : List UInt8} (h : 0 ≤ findF l n) : ∃ hj : (findF l n).toNat < l.length, (l[(findF l n).toNat]).1 = n := by
  induction l with
  | nil => simp [findF] at h
  | cons f t ih =>
    by_cases e : f.1 = n
    · have e1 : findF (f :: t) n = 0 := by rw [findF, if_pos e]
      simp only [e1]
      exact ⟨by simp, e⟩
    · by_cases h2 : findF t n = -1
      · have e1 : findF (f :: t) n = -1 := by rw [findF, if_neg e, if_pos h2]
        rw [e1] at h
        omega
      · have h3 := (find_range t n).1
        have e1 : findF (f :: t) n = findF t n + 1 := by rw [findF, if_neg e, if_neg h2]
        obtain ⟨hj, hn⟩ := ih (by omega)
        have e2 : (findF t n + 1).toNat = (findF t n).toNat + 1 := by omega
        simp only [e1, e2, List.length_cons, List.getElem_cons_succ]
        exact ⟨by omega, hn⟩
theorem new_mem {l : List FileT} (hr : RiseF l) (f : FileT) : newF l f = !decide (f ∈ l) := by
  by_cases h : findF l f.1 < 0
  · have hh : hasF l f.1 = false := (find_has l f.1).1 (by have := (find_range l f.1).1; omega)
    have : ¬ f ∈ l := fun hm => by
      have := hasF_iff.2 ⟨f, hm, rfl⟩
      rw [hh] at this; cases this
    rw [newF_neg h]; simp [this]
  · obtain ⟨hj, hn⟩ := find_name (l := l) (n := f.1) (by omega)
    have e : findF l f.1 = ((findF l f.1).toNat : Int) := by omega
    rw [newF_hit hj e]
    congr 1
    by_cases hm : f ∈ l
    · have : l[(findF l f.1).toNat] = f := hr.one (List.getElem_mem hj) hm hn
      simp [this, hm]
    · have : ¬ l[(findF l f.1).toNat] = f := fun e => hm (e ▸ List.getElem_mem hj)
      simp [this, hm]
theorem mem_put_iff {l : List FileT} (hr : RiseF l) {f g : FileT} : g ∈ putF l f ↔ g = f ∨ (g ∈ l ∧ g.1 ≠ f.1) := by
  induction l with
  | nil => simp [putF]
  | cons x t ih =>
    unfold putF
    split
    · rename_i hx
      rw [List.mem_cons, ih hr.tail]
      constructor
      · rintro (rfl | rfl | ⟨h1, h2⟩)
        · exact .inr ⟨by simp, ltT_ne hx⟩
        · exact .inl rfl
        · exact .inr ⟨by simp [h1], h2⟩
      · rintro (rfl | ⟨h1, h2⟩)
        · exact .inr (.inl rfl)
        · rcases List.mem_cons.1 h1 with rfl | h1
          · exact .inl rfl
          · exact .inr (.inr ⟨h1, h2⟩)
    · rename_i hx
      split
      · rename_i he
        rw [List.mem_cons]
        constructor
        · rintro (h | h)
          · exact .inl h
          · exact .inr ⟨by simp [h], he ▸ (ltT_ne (hr.head g h)).symm⟩
        · rintro (h | ⟨h1, h2⟩)
          · exact .inl h
          · rcases List.mem_cons.1 h1 with rfl | h1
            · exact absurd he h2
            · exact .inr h1
      · rename_i he
        have hlt : ltT f.1 x.1 = true := by
          rcases ltT_total x.1 f.1 with h1 | h1 | h1
          · exact absurd h1 hx
          · exact absurd h1 he
          · exact h1
        rw [List.mem_cons]
        constructor
        · rintro (h | h)
          · exact .inl h
          · refine .inr ⟨h, ?_⟩
            rcases List.mem_cons.1 h with rfl | h
            · exact he
            · exact (ltT_ne (ltT_trans hlt (hr.head g h))).symm
        · rintro (h | ⟨h1, _⟩)
          · exact .inl h
          · exact .inr h1
theorem mem_fold_put {l m : List FileT} (hl : RiseF l) (hm : RiseF m) {g : FileT} : g ∈ l.foldl putF m ↔ g ∈ l ∨ (g ∈ m ∧ hasF l g.1 = false) := by
  induction l generalizing m with
  | nil => simp [hasF]
  | cons x t ih =>
    rw [List.foldl_cons, ih hl.tail (hm.put x), mem_put_iff hm]
    have hh : hasF (x :: t) g.1 = (x.1 == g.1 || hasF t g.1) := rfl
    constructor
    · rintro (h | ⟨rfl | ⟨h1, h2⟩, h3⟩)
      · exact .inl (by simp [h])
      · exact .inl (by simp)
      · refine .inr ⟨h1, ?_⟩
        rw [hh, h3, Bool.or_false]
        simpa using fun e => h2 e.symm
    · rintro (h | ⟨h1, h2⟩)
      · rcases List.mem_cons.1 h with rfl | h
        · refine .inr ⟨.inl rfl, ?_⟩
          rw [hasF, List.any_eq_false]
          intro f hf
          simpa using (ltT_ne (hl.head f hf)).symm
        · exact .inl h
      · rw [hh, Bool.or_eq_false_iff] at h2
        exact .inr ⟨.inr ⟨h1, fun e => by simp [e] at h2⟩, h2.2⟩
theorem mem_fold_drop {l : List (List UInt8)} {m : List FileT} {g : FileT} : g ∈ l.foldl dropF m ↔ g ∈ m ∧ g.1 ∉ l := by
  induction l generalizing m with
  | nil => simp
  | cons x t ih =>
    rw [List.foldl_cons, ih, dropF, List.mem_filter]
    simp only [List.mem_cons, not_or, Bool.not_eq_true', beq_eq_false_iff_ne]
    exact ⟨fun ⟨⟨a, b⟩, c⟩ => ⟨a, b, c⟩, fun ⟨a, b, c⟩ => ⟨⟨a, b⟩, c⟩⟩
theorem mem_taken_iff {s : StoreT} (h1 : RiseF s.files) (h2 : RiseF s.staged) {g : FileT} : g ∈ takenF s ↔ (g ∈ s.staged ∨ (g ∈ s.files ∧ hasF s.staged g.1 = false)) ∧ g.1 ∉ s.gone := by
  rw [takenF, mem_fold_drop, mem_fold_put h2 h1]
/-- What a good store says of its parts. -/
theorem goodS_names {s : StoreT} (h : goodS s = true) : RiseF s.files ∧ RiseF s.staged ∧ s.gone.Nodup ∧ (∀ n ∈ s.gone, hasF s.staged n = false) ∧ RiseF (takenF s) := by
  have hg := goodS_files h
  rw [goodS_parts] at h
  simp only [Bool.and_eq_true, decide_eq_true_iff] at h
  obtain ⟨_, _, _, hn, ha, _⟩ := h
  rw [namesOk, Bool.and_eq_true, riseN_iff] at hn
  refine ⟨good_rise hg.1, good_rise hg.2.1, hn.2.imp (fun h => ltT_ne h), fun n hm => ?_, good_rise hg.2.2⟩
  have := List.all_eq_true.1 ha n hm
  simpa using this
theorem len_of_mem {α : Type} {a b : List α} (ha : a.Nodup) (hb : b.Nodup) (h : ∀ x, x ∈ a ↔ x ∈ b) : a.length = b.length := by
  classical
  exact ((List.perm_ext_iff_of_nodup ha hb).2 h).length_eq
theorem commit_count {s : StoreT} (h : goodS s = true) : unlikeN s.files (takenF s) = commitN s := by
  obtain ⟨h1, h2, h3, h4, h5⟩ := goodS_names h
  have e0 : commitN s = newN s s.staged.length + gonN s s.gone.length := by rw [commitN, h]; rfl
  have e1 : ((takenF s).filter (freshF s.files)).length = newN s s.staged.length := by
    unfold newN
    rw [List.take_of_length_le (Nat.le_refl _)]
    refine len_of_mem ((nodup_of_map h5.nodup).filter _) ((nodup_of_map h2.nodup).filter _) fun f => ?_
    rw [List.mem_filter, List.mem_filter, fresh_mem h1, new_mem h1, mem_taken_iff h1 h2]
    constructor
    · rintro ⟨⟨ha | ⟨ha, _⟩, _⟩, hb⟩
      · exact ⟨ha, hb⟩
      · simp [ha] at hb
    · rintro ⟨ha, hb⟩
      refine ⟨⟨.inl ha, fun hg => ?_⟩, hb⟩
      have := h4 _ hg
      rw [hasF_iff.2 ⟨f, ha, rfl⟩] at this
      cases this
  have e2 : (s.files.filter (lostF (takenF s))).length = gonN s s.gone.length := by
    unfold gonN
    rw [List.take_of_length_le (Nat.le_refl _), ← List.length_map (f := (·.1))]
    refine len_of_mem ?_ (h3.filter _) fun n => ?_
    · exact (h1.nodup.sublist (List.Sublist.map _ List.filter_sublist))
    · rw [List.mem_map, List.mem_filter, has_find]
      constructor
      · rintro ⟨f, hf, rfl⟩
        obtain ⟨hf1, hf2⟩ := List.mem_filter.1 hf
        have hl : hasF (takenF s) f.1 = false := by simpa [lostF] using hf2
        refine ⟨?_, hasF_iff.2 ⟨f, hf1, rfl⟩⟩
        by_cases hg : f.1 ∈ s.gone
        · exact hg
        · exfalso
          rcases hs : hasF s.staged f.1 with _ | _
          · have := hasF_iff.2 ⟨f, (mem_taken_iff h1 h2).2 ⟨.inr ⟨hf1, hs⟩, hg⟩, rfl⟩
            rw [hl] at this; cases this
          · obtain ⟨g, hg1, hg2⟩ := hasF_iff.1 hs
            have := hasF_iff.2 ⟨g, (mem_taken_iff h1 h2).2 ⟨.inl hg1, by rw [hg2]; exact hg⟩, hg2⟩
            rw [hl] at this; cases this
      · rintro ⟨hg, hf⟩
        obtain ⟨f, hf1, rfl⟩ := hasF_iff.1 hf
        refine ⟨f, List.mem_filter.2 ⟨hf1, ?_⟩, rfl⟩
        have : hasF (takenF s) f.1 = false := by
          rcases hq : hasF (takenF s) f.1 with _ | _
          · rfl
          · obtain ⟨g, hg1, hg2⟩ := hasF_iff.1 hq
            exact absurd (hg2 ▸ hg) ((mem_taken_iff h1 h2).1 hg1).2
        simp [lostF, this]
  rw [unlikeN, e0, e1, e2]

end Go.Proofs.YtoahfhidekmodaaGreatDoor

/- Walks: the program's commits and discards. -/
namespace Go.Proofs.YtoahfhidekmodaaGreatDoor
open Go.RowKit Go.Maps Pth

/-- A store and a bool are handed back. -/
def StoreBOk (t : StoreT) (ok : Bool) (w : World) (e : Ending) (w' : World) : Prop := ∃ v, e = .returned (.tuple #[v, .bool ok]) ∧ StoreO w.heap.size w' v t ∧ Below w.heap.size w w'
def discardT (s : StoreT) : StoreT := if goodS s = true then ⟨s.files, [], []⟩ else noStore
theorem name_len {n : List UInt8} (h : nameOk n = true) : n.length ≤ 20 := by
  simp only [nameOk, Bool.and_eq_true, decide_eq_true_iff] at h
  exact h.2.1
theorem good_small {l : List FileT} (h : goodF l = true) : ∀ f ∈ l, f.1.length ≤ 1000 ∧ f.2.length ≤ 1000 := fun f hf => by
  have h1 := good_bodies h f hf
  rw [goodF_parts, Bool.and_eq_true, namesOk, Bool.and_eq_true] at h
  have h2 := name_len (List.all_eq_true.1 h.1.1 f.1 (List.mem_map.2 ⟨f, hf, rfl⟩))
  exact ⟨by omega, by omega⟩

set_option maxRecDepth 20000 in
set_option maxHeartbeats 8000000 in
theorem implCommit_any (s : StoreT) (v : Value) (w : World) (hst : StoreV w v s) (hx : Fits s) (hm : MaxAt w) :
    Calls Tryz.prog 15 #[v] w (StoreNOk (commitT s) (commitN s) (goodS s) w) := by
  have HST := Lib.hid hst
  have HFX := Lib.hid hx
  have HM := Lib.hid hm
  obtain ⟨vf, vs, vg, rfl, h1, h2, h3⟩ := hst
  have H1 := Lib.hid h1
  obtain ⟨af, cf, rfl, hf1, hf2, _⟩ := h1.files
  obtain ⟨a2, cs, rfl, hs1, hs2, _⟩ := h2.files
  obtain ⟨ag, cg, rfl, hg1, hg2, _⟩ := h3.texts
  clear h1 h2 h3 hm
  unfold maxLen at hf2 hs2 hg2
  obtain ⟨wa, hwa⟩ : ∃ wa, wa = (w.alloc (.cells #[.slice af s.files.length cf, .slice a2 s.staged.length cs, .slice ag s.gone.length cg] 26)).alloc (.cells #[.slice none 0 0, .slice none 0 0, .slice none 0 0] 26) := ⟨_, rfl⟩
  have hsz : wa.heap.size = w.heap.size + 2 := by rw [hwa]; simp
  have P0 : Hid (Blk3 wa w.heap.size 26 (.slice af s.files.length cf) (.slice a2 s.staged.length cs) (.slice ag s.gone.length cg)) := by rw [hwa]; exact Blk3.new.old _
  have R0 : Hid (Blk3 wa (w.heap.size + 1) 26 (.slice none 0 0) (.slice none 0 0) (.slice none 0 0)) := by
    rw [hwa]
    have := Blk3.new (w := w.alloc (.cells #[.slice af s.files.length cf, .slice a2 s.staged.length cs, .slice ag s.gone.length cg] 26)) (t := 26) (x := .slice none 0 0) (y := .slice none 0 0) (z := .slice none 0 0)
    simpa [Hid] using this
  have HA : Hid (Below w.heap.size w wa) := by rw [hwa]; exact ((Below.refl w.heap.size w).alloc (Nat.le_refl _) _).alloc (by simp) _
  obtain ⟨c0, c1, c2⟩ := P0.out.cells
  have HWA := Lib.hid hwa
  clear hwa
  rcases eg : goodS s with _ | _
  · have HC := Lib.hid (goodStore_m hx eg _ wa (HST.out.below HA.out) (HM.out.below HA.out))
    have HT : Hid (commitT s = noStore) := by rw [commitT, eg]; rfl
    have HT2 : Hid (commitN s = 0) := by rw [commitN, eg]; rfl
    rw [HT.out, HT2.out]
    clear eg HT HT2 hx
    go_enter Tryz.func15, Tryz.ntmps15
    go_wp2_with fail
    rw [← HWA.out]
    refine HC.out.mono ?_
    rintro e w1 ⟨rfl, hb1⟩
    have HB1 := Lib.hid hb1
    have R1 := Lib.hid (R0.out.below hb1 (by omega))
    obtain ⟨k0, k1, k2⟩ := R1.out.cells
    have z0 := R1.out.soft 0
    have z1 := R1.out.soft 1
    have z2 := R1.out.soft 2
    clear hb1
    go_wp2_with fail
    have Z := ((R1.out.set0 (.slice none 0 0)).set1 (.slice none 0 0)).set2 (.slice none 0 0)
    refine bodyPost_ret (results_cell3 rfl rfl (load_store Z.cells.1 Z.cells.2.1 Z.cells.2.2)) rfl ?_
    refine ⟨_, rfl, noStore_own _ _, ?_⟩
    have HW := HA.out.trans (HB1.out.mono HA.out.size)
    exact ((HW.setCell (p := ⟨w.heap.size + 1, 0, none⟩) (Nat.le_succ _) _).setCell (p := ⟨w.heap.size + 1, 1, none⟩) (Nat.le_succ _) _).setCell (p := ⟨w.heap.size + 1, 2, none⟩) (Nat.le_succ _) _
  · have HC := Lib.hid (goodStore_m hx eg _ wa (HST.out.below HA.out) (HM.out.below HA.out))
    have HT : Hid (commitT s = ⟨takenF s, [], []⟩) := by rw [commitT, eg]; rfl
    have HG := Lib.hid (goodS_files eg)
    rw [HT.out, ← commit_count eg]
    have hlf := good_len HG.out.1
    have hls := good_len HG.out.2.1
    have hlt := good_len HG.out.2.2
    have HCN := Lib.hid (fun W b1 n1 b2 n2 h1 h2 => countUnlike_any s.files (takenF s) b1 n1 b2 n2 W h1 h2 (by omega) (by omega))
    generalize unlikeN s.files (takenF s) = N at HCN ⊢
    have e0 : s.files.foldl putF [] = s.files := by
      have := fill_is (good_rise HG.out.1) s.files.length
      rwa [List.take_of_length_le (Nat.le_refl _)] at this
    have HBO := Lib.hid (fun W (hr : RowF W (.slice af s.files.length cf) s.files) => bodiesOf_any s.files (.slice af s.files.length cf) W hr HFX.out.1 (by omega))
    rw [e0] at HBO
    have HBT := Lib.hid (fun W (hr : StoreV W (.agg #[.slice af s.files.length cf, .slice a2 s.staged.length cs, .slice ag s.gone.length cg]) s) => bodiesTaken_any s _ W hr HFX.out (good_rise HG.out.1) (by omega) (by omega))
    clear eg HT hx e0
    go_enter Tryz.func15, Tryz.ntmps15
    go_wp2_with fail
    rw [← HWA.out]
    refine HC.out.mono ?_
    rintro e w1 ⟨rfl, hb1⟩
    have HB1 := Lib.hid hb1
    have HW1 : Hid (Below w.heap.size w w1.drew) := Below.drew (bth HA.out hb1)
    have P1 := Lib.hid (P0.out.below hb1 (by omega))
    have R1' := R0.out.below hb1 (show w.heap.size + 1 < wa.heap.size by omega)
    have R1 : Hid (Blk3 w1.drew (w.heap.size + 1) 26 (.slice none 0 0) (.slice none 0 0) (.slice none 0 0)) := R1'
    clear R1'
    have hz1 : w.heap.size + 2 ≤ w1.drew.heap.size := by have := hb1.size; show _ ≤ w1.heap.size; omega
    clear hb1 HC c0 c1 c2
    have ks := P1.out.cells
    go_wp2_with fail
    go_region_held3 (fun w' => w'.cell? ⟨w.heap.size, 0, none⟩ = some (.slice af s.files.length cf) ∧ w'.cell? ⟨w.heap.size, 1, none⟩ = some (.slice a2 s.staged.length cs) ∧ w'.cell? ⟨w.heap.size, 2, none⟩ = some (.slice ag s.gone.length cg)) (first | exact ks)
      (first
        | (go_at_call 41; refine (HBO.out _ (H1.out.below HW1.out)).mono ?_; rintro e w2 ⟨rfl, hm2, hb2⟩
           have ks := And.intro ((hb2.cell (p := ⟨w.heap.size, 0, none⟩) (World.block_lt_of_cell? _ _ ks.1)).trans ks.1) (And.intro ((hb2.cell (p := ⟨w.heap.size, 1, none⟩) (World.block_lt_of_cell? _ _ ks.2.1)).trans ks.2.1) ((hb2.cell (p := ⟨w.heap.size, 2, none⟩) (World.block_lt_of_cell? _ _ ks.2.2)).trans ks.2.2))
           have HM2 := Lib.hid hm2
           have HW2 := Lib.hid (bth HW1.out hb2)
           have R2 := Lib.hid (R1.out.below hb2 (Nat.lt_of_lt_of_le (Nat.lt_succ_self _) hz1))
           have hz2 := Nat.le_trans hz1 hb2.size
           clear hm2 hb2)
        | (go_at_call 50; refine (HBT.out _ (HST.out.below HW2.out)).mono ?_; rintro e w3 ⟨b3, n3, rfl, hb3b, hn3, hm3, hb3⟩
           have ks := And.intro ((hb3.cell (p := ⟨w.heap.size, 0, none⟩) (World.block_lt_of_cell? _ _ ks.1)).trans ks.1) (And.intro ((hb3.cell (p := ⟨w.heap.size, 1, none⟩) (World.block_lt_of_cell? _ _ ks.2.1)).trans ks.2.1) ((hb3.cell (p := ⟨w.heap.size, 2, none⟩) (World.block_lt_of_cell? _ _ ks.2.2)).trans ks.2.2))
           have HM3 := Lib.hid hm3
           have HN3 := Lib.hid (HM2.out.below hb3)
           have HW3 := Lib.hid (bth HW2.out hb3)
           have R3 := Lib.hid (R2.out.below hb3 (Nat.lt_of_lt_of_le (Nat.lt_succ_self _) hz2))
           have hz3 := Nat.le_trans hz2 hb3.size
           clear hm3 hb3 hb3b))
    all_goals
      clear ks hz1 hz2 R1 R2 HM2 HW1 HW2
      have HF := Lib.hid (filesIn_any (takenF s) b3 n3 w3 HM3.out (by omega))
      go_wp2_with fail
      refine HF.out.mono ?_
      rintro e w4 ⟨v4, rfl, ho4, hb4⟩
      have HW4 := Lib.hid (bth HW3.out hb4)
      have R4 := Lib.hid (R3.out.below hb4 (by omega))
      have HM4 := Lib.hid (HM3.out.below hb4)
      have HN4 := Lib.hid (HN3.out.below hb4)
      have hz4 := Nat.le_trans hz3 hb4.size
      have HO := Lib.hid (ownFiles_any (takenF s) v4 w4 (RowF.of_own ho4) (good_small HG.out.2.2) (by omega))
      clear ho4 hb4 HF
      go_wp2_with fail
      refine HO.out.mono ?_
      rintro e w5 ⟨v5, rfl, ho5, hb5⟩
      have HW5 := Lib.hid (bth HW4.out hb5)
      have R5 := Lib.hid (R4.out.below hb5 (by omega))
      have HQ := Lib.hid (HCN.out w5 _ _ _ _ (HN4.out.below hb5) (HM4.out.below hb5))
      have hz5 := Nat.le_trans hz4 hb5.size
      have HO5 := Lib.hid (own_baseG ho5 hz4)
      obtain ⟨a5, c5, hv5⟩ := own_sliceG ho5
      subst hv5
      clear ho5 hb5 HO
      go_wp2_with fail
      refine HQ.out.mono ?_
      rintro e w6 ⟨rfl, hb6⟩
      have HW6 := Lib.hid (bth HW5.out hb6)
      have R6 := Lib.hid (R5.out.below hb6 (by omega))
      have HO6 := Lib.hid (own_belowG HO5.out hb6)
      obtain ⟨k0, k1, k2⟩ := R6.out.cells
      have y0 := R6.out.soft 0
      have y1 := R6.out.soft 1
      have y2 := R6.out.soft 2
      clear hb6 HQ
      go_wp2_with fail
      have Z := ((R6.out.set0 (.slice a5 (takenF s).length c5)).set1 (.slice none 0 0)).set2 (.slice none 0 0)
      refine bodyPost_ret (results_cell3 rfl rfl (load_store Z.cells.1 Z.cells.2.1 Z.cells.2.2)) rfl ?_
      have q1 : w.heap.size + 1 < w.heap.size + 2 := by omega
      refine ⟨_, rfl, ⟨_, _, _, rfl, own_baseG (own_set (own_set (own_set HO6.out (p := ⟨w.heap.size + 1, 0, none⟩) q1 _) (p := ⟨w.heap.size + 1, 1, none⟩) q1 _) (p := ⟨w.heap.size + 1, 2, none⟩) q1 _) (by omega), World.ownsRow_nil _ _ _ _, World.ownsRow_nil _ _ _ _, fun j _ h => by simp [Value.ownBlock] at h⟩, ?_⟩
      exact ((HW6.out.setCell (p := ⟨w.heap.size + 1, 0, none⟩) (Nat.le_succ _) _).setCell (p := ⟨w.heap.size + 1, 1, none⟩) (Nat.le_succ _) _).setCell (p := ⟨w.heap.size + 1, 2, none⟩) (Nat.le_succ _) _

set_option maxRecDepth 20000 in
set_option maxHeartbeats 8000000 in
theorem implDiscard_any (s : StoreT) (v : Value) (w : World) (hst : StoreV w v s) (hx : Fits s) (hm : MaxAt w) :
    Calls Tryz.prog 18 #[v] w (StoreBOk (discardT s) (goodS s) w) := by
  have HST := Lib.hid hst
  have HFX := Lib.hid hx
  have HM := Lib.hid hm
  obtain ⟨vf, vs, vg, rfl, h1, h2, h3⟩ := hst
  have H1 := Lib.hid h1
  obtain ⟨af, cf, rfl, hf1, hf2, _⟩ := h1.files
  obtain ⟨a2, cs, rfl, hs1, hs2, _⟩ := h2.files
  obtain ⟨ag, cg, rfl, hg1, hg2, _⟩ := h3.texts
  clear h1 h2 h3 hm
  unfold maxLen at hf2 hs2 hg2
  obtain ⟨wa, hwa⟩ : ∃ wa, wa = (w.alloc (.cells #[.slice af s.files.length cf, .slice a2 s.staged.length cs, .slice ag s.gone.length cg] 26)).alloc (.cells #[.slice none 0 0, .slice none 0 0, .slice none 0 0] 26) := ⟨_, rfl⟩
  have hsz : wa.heap.size = w.heap.size + 2 := by rw [hwa]; simp
  have P0 : Hid (Blk3 wa w.heap.size 26 (.slice af s.files.length cf) (.slice a2 s.staged.length cs) (.slice ag s.gone.length cg)) := by rw [hwa]; exact Blk3.new.old _
  have R0 : Hid (Blk3 wa (w.heap.size + 1) 26 (.slice none 0 0) (.slice none 0 0) (.slice none 0 0)) := by
    rw [hwa]
    have := Blk3.new (w := w.alloc (.cells #[.slice af s.files.length cf, .slice a2 s.staged.length cs, .slice ag s.gone.length cg] 26)) (t := 26) (x := .slice none 0 0) (y := .slice none 0 0) (z := .slice none 0 0)
    simpa [Hid] using this
  have HA : Hid (Below w.heap.size w wa) := by rw [hwa]; exact ((Below.refl w.heap.size w).alloc (Nat.le_refl _) _).alloc (by simp) _
  obtain ⟨c0, c1, c2⟩ := P0.out.cells
  have HWA := Lib.hid hwa
  clear hwa
  rcases eg : goodS s with _ | _
  · have HC := Lib.hid (goodStore_m hx eg _ wa (HST.out.below HA.out) (HM.out.below HA.out))
    have HT : Hid (discardT s = noStore) := by rw [discardT, eg]; rfl
    rw [HT.out]
    clear eg HT hx
    go_enter Tryz.func18, Tryz.ntmps18
    go_wp2_with fail
    rw [← HWA.out]
    refine HC.out.mono ?_
    rintro e w1 ⟨rfl, hb1⟩
    have HB1 := Lib.hid hb1
    have R1 := Lib.hid (R0.out.below hb1 (by omega))
    obtain ⟨k0, k1, k2⟩ := R1.out.cells
    have z0 := R1.out.soft 0
    have z1 := R1.out.soft 1
    have z2 := R1.out.soft 2
    clear hb1
    go_wp2_with fail
    have Z := ((R1.out.set0 (.slice none 0 0)).set1 (.slice none 0 0)).set2 (.slice none 0 0)
    refine bodyPost_ret (results_cell2 rfl rfl (load_store Z.cells.1 Z.cells.2.1 Z.cells.2.2)) rfl ?_
    refine ⟨_, rfl, noStore_own _ _, ?_⟩
    have HW := HA.out.trans (HB1.out.mono HA.out.size)
    exact ((HW.setCell (p := ⟨w.heap.size + 1, 0, none⟩) (Nat.le_succ _) _).setCell (p := ⟨w.heap.size + 1, 1, none⟩) (Nat.le_succ _) _).setCell (p := ⟨w.heap.size + 1, 2, none⟩) (Nat.le_succ _) _
  · have HC := Lib.hid (goodStore_m hx eg _ wa (HST.out.below HA.out) (HM.out.below HA.out))
    have HT : Hid (discardT s = ⟨s.files, [], []⟩) := by rw [discardT, eg]; rfl
    have HG := Lib.hid (goodS_files eg)
    rw [HT.out]
    have hlf := good_len HG.out.1
    clear eg HT hx
    go_enter Tryz.func18, Tryz.ntmps18
    go_wp2_with fail
    rw [← HWA.out]
    refine HC.out.mono ?_
    rintro e w1 ⟨rfl, hb1⟩
    have HW1 := Lib.hid (bth HA.out hb1)
    have P1 := Lib.hid (P0.out.below hb1 (by omega))
    have R1 := Lib.hid (R0.out.below hb1 (by omega))
    have hz1 : w.heap.size + 2 ≤ w1.heap.size := by have := hb1.size; omega
    have HO := Lib.hid (ownFiles_any s.files (.slice af s.files.length cf) w1 (H1.out.below HW1.out) (good_small HG.out.1) (by omega))
    clear hb1 HC c0 c1 c2
    obtain ⟨c0, c1, c2⟩ := P1.out.cells
    go_wp2_with fail
    refine HO.out.mono ?_
    rintro e w5 ⟨v5, rfl, ho5, hb5⟩
    have HW5 := Lib.hid (bth HW1.out hb5)
    have R5 := Lib.hid (R1.out.below hb5 (by omega))
    have HO5 := Lib.hid (own_baseG ho5 hz1)
    obtain ⟨a5, c5, hv5⟩ := own_sliceG ho5
    subst hv5
    obtain ⟨k0, k1, k2⟩ := R5.out.cells
    have y0 := R5.out.soft 0
    have y1 := R5.out.soft 1
    have y2 := R5.out.soft 2
    clear ho5 hb5 HO c0 c1 c2
    go_wp2_with fail
    have Z := ((R5.out.set0 (.slice a5 s.files.length c5)).set1 (.slice none 0 0)).set2 (.slice none 0 0)
    refine bodyPost_ret (results_cell2 rfl rfl (load_store Z.cells.1 Z.cells.2.1 Z.cells.2.2)) rfl ?_
    have q1 : w.heap.size + 1 < w.heap.size + 2 := by omega
    refine ⟨_, rfl, ⟨_, _, _, rfl, own_baseG (own_set (own_set (own_set HO5.out (p := ⟨w.heap.size + 1, 0, none⟩) q1 _) (p := ⟨w.heap.size + 1, 1, none⟩) q1 _) (p := ⟨w.heap.size + 1, 2, none⟩) q1 _) (by omega), World.ownsRow_nil _ _ _ _, World.ownsRow_nil _ _ _ _, fun j _ h => by simp [Value.ownBlock] at h⟩, ?_⟩
    exact ((HW5.out.setCell (p := ⟨w.heap.size + 1, 0, none⟩) (Nat.le_succ _) _).setCell (p := ⟨w.heap.size + 1, 1, none⟩) (Nat.le_succ _) _).setCell (p := ⟨w.heap.size + 1, 2, none⟩) (Nat.le_succ _) _

end Go.Proofs.YtoahfhidekmodaaGreatDoor

/- Walks: the laws' marks in files. -/
namespace Go.Proofs.YtoahfhidekmodaaGreatDoor
open Go.RowKit Pth

/-- The files that are marks, from k on. -/
def marksF (k : Nat) (n : Nat) : List FileT := (List.range n).map (fun (i : Nat) => (markT (k + i * 2), markT (k + i * 2 + 1)))
theorem marksF_len (k n : Nat) : (marksF k n).length = n := by simp [marksF]
theorem marksF_snoc (k n : Nat) : marksF k (n + 1) = marksF k n ++ [(markT (k + n * 2), markT (k + n * 2 + 1))] := by simp [marksF, List.range_succ]
theorem marksF_at (k n j : Nat) (hj : j < (marksF k n).length) : (marksF k n)[j] = (markT (k + j * 2), markT (k + j * 2 + 1)) := by simp [marksF]
theorem set_nameF (a : List FileT) (k : Nat) (ha : a.length = k) (x p q : List UInt8) (rest : List FileT) :
    (FC a ++ FC ((p, q) :: rest)).set (k * 2) (.string ⟨x.toArray⟩) = FC a ++ FC ((x, q) :: rest) := by
  have hl : (FC a).length = k * 2 := by rw [FC_len, ha]
  rw [List.set_append_right _ _ (by omega), hl, Nat.sub_self]
  rfl
theorem set_bodyF (a : List FileT) (k : Nat) (ha : a.length = k) (x y q : List UInt8) (rest : List FileT) :
    (FC a ++ FC ((x, q) :: rest)).set (k * 2 + 1) (.string ⟨y.toArray⟩) = FC (a ++ [(x, y)]) ++ FC rest := by
  have hl : (FC a).length = k * 2 := by rw [FC_len, ha]
  rw [List.set_append_right _ _ (by omega), hl, show k * 2 + 1 - k * 2 = 1 by omega, FC_append]
  simp [FC, fileC]

/-- The files hold the marks, and nothing but their own block has turned. -/
def MarkedF (B : Nat) (v : Value) (k : Nat) (n : Nat) (w : World) (e : Ending) (w' : World) : Prop :=
  e = .returned (.int .i64 ((k : Int) + (n : Int) * 2)) ∧ w'.ownsRow B 45 2 v n (FC (marksF k n)) ∧ w.grownBy w' v.ownBlock

theorem mark_l (k j : Nat) (i : Int) (h : (j : Int) = i) (hk : k = j) (hk1 : j ≤ 8000000) (h1 : 1 ≤ j) (w : World) : Calls Tryz.prog 86 #[.int .i64 i] w fun e w' => e = .returned (.string ⟨(markT j).toArray⟩) ∧ Below w.heap.size w w' := by
  subst h
  exact markText_any j w hk1 h1

set_option maxRecDepth 20000 in
set_option maxHeartbeats 1000000 in
theorem markFileS_any (l : List FileT) (k : Nat) (B : Nat) (v : Value) (w : World) (hown : w.ownsRow B 45 2 v l.length (FC l)) (hl : l.length ≤ 1500000) (hk : k ≤ 4000000) (hk1 : 1 ≤ k) :
    Calls Tryz.prog 70 #[v, .int .i64 (k : Int)] w (MarkedF B v k l.length w) := by
  have HW := Lib.hid hown
  obtain ⟨a, cap, rfl⟩ := own_sliceG hown
  clear hown
  go_enter Tryz.func70, Tryz.ntmps70
  go_wp2_with fail
  go_loopw [1, 5] (fun q i wr => ∃ j : Nat, j ≤ l.length ∧ q = .int .i64 ((k : Int) + (j : Int) * 2) ∧ i = .int .i64 j ∧ wr.ownsRow B 45 2 (.slice a l.length cap) l.length (FC (marksF k j) ++ FC (l.drop j)) ∧ w.grownBy wr (Value.slice a l.length cap).ownBlock) (fun _ i _ => l.length - (intOf i).toNat)
  case atStart => exact ⟨0, Nat.zero_le _, by simp, rfl, HW.out, grown_refl _ _⟩
  case round =>
    clear HW
    obtain ⟨j, hj, rfl, rfl, hown, hg⟩ := hrel
    by_cases hlt : j < l.length
    · obtain ⟨g, c2, hv⟩ : ∃ g c2, (Value.slice a l.length cap) = .slice (some ⟨g, 0, none⟩) l.length c2 := by
        rcases hown.2 with ⟨_, h0⟩ | ⟨g, c2, cur, hv, _⟩
        · omega
        · exact ⟨g, c2, hv⟩
      injection hv with hv1 hv2 hv3
      subst hv1
      have hc4 : l.length ≤ cap := by
        rcases hown.2 with ⟨_, h0⟩ | ⟨g, c2, cur, hv, _, _, h5, _⟩
        · omega
        · injection hv with _ _ hv3; omega
      have HC := Lib.hid (fun W => mark_l _ (k + j * 2) ((k : Int) + (j : Int) * 2) (by omega) rfl (by omega) (by omega) W)
      have HC2 := Lib.hid (fun W => mark_l _ (k + j * 2 + 1) ((k : Int) + (j : Int) * 2 + 1) (by omega) rfl (by omega) (by omega) W)
      rw [List.drop_eq_getElem_cons hlt, show l[j] = (l[j].1, l[j].2) from rfl] at hown
      have HN := Lib.hid hown
      have HG := Lib.hid hg
      have ha := marksF_len k j
      have HE := Lib.hid (marksF_snoc k j)
      clear hown hg hv2 hv3
      generalize l[j].1 = p at HN
      generalize l[j].2 = q at HN
      generalize markT (k + j * 2) = x at HC HE
      generalize markT (k + j * 2 + 1) = y at HC2 HE
      go_wp2_with fail
      refine (HC.out _).mono ?_
      rintro e w1 ⟨rfl, hb1⟩
      have HN1 := Lib.hid (own_belowG HN.out hb1)
      have hfz := HN1.out.frozenAt (j * 2)
      have hcz : w1.cell? ⟨g, j * 2, none⟩ = some (.string ⟨p.toArray⟩) := by rw [HN1.out.cellAt (j * 2) (by omega), (get_two (marksF k j) j ha (p, q) _).1]
      have hst := HN1.out.stored (j * 2) (.string ⟨x.toArray⟩)
      rw [set_nameF (marksF k j) j ha] at hst
      have HN2 := Lib.hid hst.1
      have HG2 := Lib.hid (grown_trans (grown_trans HG.out (below_grown hb1)) hst.2)
      clear hst hb1 HN HN1 HG
      go_wp2_with fail
      generalize w1.setCell ⟨g, j * 2, none⟩ (.string ⟨x.toArray⟩) = w2 at HN2 HG2
      refine (HC2.out _).mono ?_
      rintro e w3 ⟨rfl, hb3⟩
      have HN3 := Lib.hid (own_belowG HN2.out hb3)
      have hfz2 := HN3.out.frozenAt (j * 2 + 1)
      have hcz2 : w3.cell? ⟨g, j * 2 + 1, none⟩ = some (.string ⟨q.toArray⟩) := by rw [HN3.out.cellAt (j * 2 + 1) (by omega), (get_two (marksF k j) j ha (x, q) _).2]
      have hst := HN3.out.stored (j * 2 + 1) (.string ⟨y.toArray⟩)
      rw [set_bodyF (marksF k j) j ha, ← HE.out] at hst
      have HN4 := Lib.hid hst.1
      have HG4 := Lib.hid (grown_trans (grown_trans HG2.out (below_grown hb3)) hst.2)
      clear hst hb3 HN2 HN3 HG2 hcz hfz
      go_wp2_with fail
      go_roundw
      case rel => exact ⟨j + 1, by omega, by go_num, by go_num, HN4.out, HG4.out⟩
      case measure => simp [intOf]; omega
    · obtain rfl : j = l.length := by omega
      rw [List.drop_of_length_le (Nat.le_refl _), show FC [] = [] from rfl, List.append_nil] at hown
      have HN := Lib.hid hown
      have HG := Lib.hid hg
      clear hown hg
      go_wp2_with fail
      go_ret
      exact ⟨rfl, HN.out, HG.out⟩

end Go.Proofs.YtoahfhidekmodaaGreatDoor
