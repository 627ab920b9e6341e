/- Texts of one claim, joined in their order. -/
import Derived.Test.YtgcaplbeahjbmaaGreatDoorM7
import Derived.Test.YtgcaplbeahjbmaaGreatDoorM6

/- Walks: what is staged (the reference). -/
namespace Go.Proofs.YtgcaplbeahjbmaaGreatDoor
open Go.RowKit Pth


set_option maxRecDepth 20000 in
set_option maxHeartbeats 16000000 in
theorem specStageFile_anyA (s : StoreT) (n b : List UInt8) (v : Value) (w : World) (hst : StoreV w v s) (hx : Fits s) (hn : n.length ≤ maxLen) (hb : b.length ≤ maxLen) :
    Calls Tryz.prog 6 #[v, .string ⟨n.toArray⟩, .string ⟨b.toArray⟩] w (StoreLA (stFT s n b) (stFB s n b) w) := by
  have HST := Lib.hid hst
  obtain ⟨vf, vs, vg, rfl, h1, h2, h3⟩ := hst
  have H1 := Lib.hid h1
  have H2 := Lib.hid h2
  have H3 := Lib.hid h3
  obtain ⟨af, cf, rfl, _⟩ := h1.files
  obtain ⟨a2, cs, rfl, _⟩ := h2.files
  obtain ⟨ag, cg, rfl, _⟩ := h3.texts
  have HG := Lib.hid (fun W hr => specGoodStore_any s (.agg #[.slice af s.files.length cf, .slice a2 s.staged.length cs, .slice ag s.gone.length cg]) W hr hx)
  clear h1 h2 h3
  obtain ⟨wa, hwa⟩ : ∃ wa, wa = (w.alloc (.cells #[.slice af s.files.length cf, .slice a2 s.staged.length cs, .slice ag s.gone.length cg] 29)).alloc (.cells #[.slice none 0 0, .slice none 0 0, .slice none 0 0] 29) := ⟨_, rfl⟩
  have hsz : wa.heap.size = w.heap.size + 2 := by rw [hwa]; simp
  have P0 : Hid (Blk3 wa w.heap.size 29 (.slice af s.files.length cf) (.slice a2 s.staged.length cs) (.slice ag s.gone.length cg)) := by rw [hwa]; exact Blk3.new.old _
  have R0 : Hid (Blk3 wa (w.heap.size + 1) 29 (.slice none 0 0) (.slice none 0 0) (.slice none 0 0)) := by
    rw [hwa]
    have := Blk3.new (w := w.alloc (.cells #[.slice af s.files.length cf, .slice a2 s.staged.length cs, .slice ag s.gone.length cg] 29)) (t := 29) (x := .slice none 0 0) (y := .slice none 0 0) (z := .slice none 0 0)
    simpa [Hid] using this
  have HA : Hid (Below w.heap.size w wa) := by rw [hwa]; exact ((Below.refl w.heap.size w).alloc (Nat.le_refl _) _).alloc (by simp) _
  have HWA := Lib.hid hwa
  clear hwa
  obtain ⟨c0, c1, c2⟩ := P0.out.cells
  rcases eg : goodS s with _ | _
  · have HT : Hid (stFT s n b = noStore) := by rw [stFT, eg]; rfl
    have HT2 : Hid (stFB s n b = false) := by rw [stFB, eg]; rfl
    rw [HT.out, HT2.out]
    rw [eg] at HG
    clear eg hx HT HT2
    go_enter Tryz.func6, Tryz.ntmps6
    go_wp2_with fail
    rw [← HWA.out]
    refine (HG.out wa (HST.out.below HA.out)).mono ?_
    rintro e w1 ⟨rfl, hb1⟩
    have HB1 := Lib.hid hb1
    have R1 := Lib.hid (R0.out.below hb1 (by omega))
    obtain ⟨k0, k1, k2⟩ := R1.out.cells
    have z0 := R1.out.soft 0
    have z1 := R1.out.soft 1
    have z2 := R1.out.soft 2
    clear hb1
    go_wp2_with fail
    have Z := ((R1.out.set0 (.slice none 0 0)).set1 (.slice none 0 0)).set2 (.slice none 0 0)
    refine bodyPost_ret (results_cell2 rfl rfl (load_store Z.cells.1 Z.cells.2.1 Z.cells.2.2)) rfl ?_
    refine ⟨_, rfl, noStore_L _ _, ?_, ApartL.of ApartV.none⟩
    have HW := HA.out.trans (HB1.out.mono HA.out.size)
    exact ((HW.setCell (p := ⟨w.heap.size + 1, 0, none⟩) (Nat.le_succ _) _).setCell (p := ⟨w.heap.size + 1, 1, none⟩) (Nat.le_succ _) _).setCell (p := ⟨w.heap.size + 1, 2, none⟩) (Nat.le_succ _) _
  · have HT : Hid (stFT s n b = tellT (stageFT s n b)) := by rw [stFT, eg]; rfl
    have HT2 : Hid (stFB s n b = goodS (stageFT s n b)) := by rw [stFB, eg]; rfl
    rw [HT.out, HT2.out]
    obtain ⟨l1, l2, l3⟩ := good_sizes eg
    have HFT : Hid (Fits (stageFT s n b)) := stageFT_fits hx hn hb
    have HTL := Lib.hid (fun W u (hr : StoreV W u (stageFT s n b)) => l3Tell_anyA (stageFT s n b) u W hr HFT.out)
    have HPU := Lib.hid (fun W (hr : RowF W (.slice a2 s.staged.length cs) s.staged) => l3Put_any s.staged n b (.slice a2 s.staged.length cs) W hr (by omega))
    have HDR := Lib.hid (fun W (hr : RowV W (.slice ag s.gone.length cg) (S s.gone)) => l3DropName_any s.gone n (.slice ag s.gone.length cg) W hr (by omega))
    have HMID : Hid (stageFT s n b = ⟨s.files, putF s.staged (n, b), dropN s.gone n⟩) := rfl
    generalize putF s.staged (n, b) = pf at HPU HMID
    generalize dropN s.gone n = dn at HDR HMID
    rw [HMID.out] at HTL ⊢
    generalize tellT ⟨s.files, pf, dn⟩ = t at HTL ⊢
    generalize goodS ⟨s.files, pf, dn⟩ = okk at HTL ⊢
    rw [eg] at HG
    clear eg hx HT HT2 HFT HMID
    go_enter Tryz.func6, Tryz.ntmps6
    go_wp2_with fail
    rw [← HWA.out]
    refine (HG.out wa (HST.out.below HA.out)).mono ?_
    rintro e w1 ⟨rfl, hb1⟩
    have HW1 : Hid (Below w.heap.size w w1.drew) := Below.drew (HA.out.trans (hb1.mono HA.out.size))
    have hR1 := R0.out.below hb1 (show w.heap.size + 1 < wa.heap.size by omega)
    have R1 : Hid (Blk3 w1.drew (w.heap.size + 1) 29 (.slice none 0 0) (.slice none 0 0) (.slice none 0 0)) := hR1
    have s1 : w.heap.size + 2 ≤ w1.drew.heap.size := by have := hb1.size; show _ ≤ w1.heap.size; omega
    have hks := (P0.out.below hb1 (by omega)).cells
    have ks : Hid (C3 w w1.drew (.slice af s.files.length cf) (.slice a2 s.staged.length cs) (.slice ag s.gone.length cg)) := hks
    clear hb1 c0 c1 c2 hR1 hks
    go_wp2_with fail
    go_region_held3 (fun W => W.cell? ⟨w.heap.size, 0, none⟩ = some (.slice af s.files.length cf) ∧ W.cell? ⟨w.heap.size, 1, none⟩ = some (.slice a2 s.staged.length cs) ∧ W.cell? ⟨w.heap.size, 2, none⟩ = some (.slice ag s.gone.length cg)) (first | exact ks.out | exact ks.out.set _ _ _)
      (first
        | (go_at_call 18; refine (HPU.out _ (H2.out.below HW1.out)).mono ?_; rintro e w2 ⟨v2, rfl, ho2, hb2⟩
           have HF2 := Lib.hid (RowF.of_own ho2)
           obtain ⟨p2, q2, hv2⟩ := own_sliceG ho2
           subst hv2
           have HW2 := Lib.hid (HW1.out.trans (hb2.mono HW1.out.size))
           have R2 := Lib.hid (R1.out.below hb2 (lt_of_block R1.out))
           have s2 := Nat.le_trans s1 hb2.size
           have kt := Lib.hid (ks.out.below hb2)
           clear ks
           have ks := kt
           clear kt hb2 ho2)
        | (go_at_call 19; refine (HDR.out _ (H3.out.below HW2.out)).mono ?_; rintro e w3 ⟨v3, rfl, ho3, hb3⟩
           have HF3 := Lib.hid (RowV.of_rowG (RowG.of_own ho3))
           obtain ⟨p3, q3, hv3⟩ := own_sliceG ho3
           subst hv3
           have HW3 := Lib.hid (HW2.out.trans (hb3.mono HW2.out.size))
           have R3 := Lib.hid (R2.out.below hb3 (lt_of_block R2.out))
           have s3 := Nat.le_trans s2 hb3.size
           have HF2' := Lib.hid (HF2.out.below hb3)
           have kt := Lib.hid (ks.out.below hb3)
           clear ks
           have ks := kt
           clear kt hb3 ho3)
        | (go_at_call 17; refine (HTL.out _ _ ⟨_, _, _, rfl, H1.out.below HW3.out, HF2'.out, HF3.out⟩).mono ?_; rintro e w4 ⟨v4, rfl, ho4, hb4, ap4⟩
           have HW4 := Lib.hid (HW3.out.trans (hb4.mono HW3.out.size))
           have R4 := Lib.hid (R3.out.below hb4 (lt_of_block R3.out))
           have HO4 := Lib.hid (ho4.base s3)
           have AP4 := Lib.hid ap4
           clear ap4
           obtain ⟨a3, c3, a7, c7, a11, c11, hv4⟩ := ho4.slices
           subst hv4
           obtain ⟨k0, k1, k2⟩ := R4.out.cells
           have z0 := R4.out.soft 0
           have z1 := R4.out.soft 1
           have z2 := R4.out.soft 2
           have kt := Lib.hid (ks.out.below hb4)
           clear ks
           have ks := kt
           clear kt hb4 ho4))
    all_goals
      go_wp2_with fail
      have Z := ((R4.out.set0 (.slice a3 t.files.length c3)).set1 (.slice a7 t.staged.length c7)).set2 (.slice a11 t.gone.length c11)
      refine bodyPost_ret (results_cell2 rfl rfl (load_store Z.cells.1 Z.cells.2.1 Z.cells.2.2)) rfl ?_
      have q1 : w.heap.size + 1 < w.heap.size + 2 := by omega
      refine ⟨_, rfl, (((HO4.out.set (p := ⟨w.heap.size + 1, 0, none⟩) q1 _).set (p := ⟨w.heap.size + 1, 1, none⟩) q1 _).set (p := ⟨w.heap.size + 1, 2, none⟩) q1 _).base (by omega), ?_, AP4.out⟩
      exact ((HW4.out.setCell (p := ⟨w.heap.size + 1, 0, none⟩) (Nat.le_succ _) _).setCell (p := ⟨w.heap.size + 1, 1, none⟩) (Nat.le_succ _) _).setCell (p := ⟨w.heap.size + 1, 2, none⟩) (Nat.le_succ _) _

set_option maxRecDepth 20000 in
set_option maxHeartbeats 16000000 in
theorem specStageGone_anyA (s : StoreT) (n : List UInt8) (v : Value) (w : World) (hst : StoreV w v s) (hx : Fits s) (hn : n.length ≤ maxLen) :
    Calls Tryz.prog 12 #[v, .string ⟨n.toArray⟩] w (StoreLA (stGT s n) (stGB s n) w) := by
  have HST := Lib.hid hst
  obtain ⟨vf, vs, vg, rfl, h1, h2, h3⟩ := hst
  have H1 := Lib.hid h1
  have H2 := Lib.hid h2
  have H3 := Lib.hid h3
  obtain ⟨af, cf, rfl, _⟩ := h1.files
  obtain ⟨a2, cs, rfl, _⟩ := h2.files
  obtain ⟨ag, cg, rfl, _⟩ := h3.texts
  have HG := Lib.hid (fun W hr => specGoodStore_any s (.agg #[.slice af s.files.length cf, .slice a2 s.staged.length cs, .slice ag s.gone.length cg]) W hr hx)
  clear h1 h2 h3
  obtain ⟨wa, hwa⟩ : ∃ wa, wa = (w.alloc (.cells #[.slice af s.files.length cf, .slice a2 s.staged.length cs, .slice ag s.gone.length cg] 29)).alloc (.cells #[.slice none 0 0, .slice none 0 0, .slice none 0 0] 29) := ⟨_, rfl⟩
  have hsz : wa.heap.size = w.heap.size + 2 := by rw [hwa]; simp
  have P0 : Hid (Blk3 wa w.heap.size 29 (.slice af s.files.length cf) (.slice a2 s.staged.length cs) (.slice ag s.gone.length cg)) := by rw [hwa]; exact Blk3.new.old _
  have R0 : Hid (Blk3 wa (w.heap.size + 1) 29 (.slice none 0 0) (.slice none 0 0) (.slice none 0 0)) := by
    rw [hwa]
    have := Blk3.new (w := w.alloc (.cells #[.slice af s.files.length cf, .slice a2 s.staged.length cs, .slice ag s.gone.length cg] 29)) (t := 29) (x := .slice none 0 0) (y := .slice none 0 0) (z := .slice none 0 0)
    simpa [Hid] using this
  have HA : Hid (Below w.heap.size w wa) := by rw [hwa]; exact ((Below.refl w.heap.size w).alloc (Nat.le_refl _) _).alloc (by simp) _
  have HWA := Lib.hid hwa
  clear hwa
  obtain ⟨c0, c1, c2⟩ := P0.out.cells
  rcases eg : goodS s with _ | _
  · have HT : Hid (stGT s n = noStore) := by rw [stGT, eg]; rfl
    have HT2 : Hid (stGB s n = false) := by rw [stGB, eg]; rfl
    rw [HT.out, HT2.out]
    rw [eg] at HG
    clear eg hx HT HT2
    go_enter Tryz.func12, Tryz.ntmps12
    go_wp2_with fail
    rw [← HWA.out]
    refine (HG.out wa (HST.out.below HA.out)).mono ?_
    rintro e w1 ⟨rfl, hb1⟩
    have HB1 := Lib.hid hb1
    have R1 := Lib.hid (R0.out.below hb1 (by omega))
    obtain ⟨k0, k1, k2⟩ := R1.out.cells
    have z0 := R1.out.soft 0
    have z1 := R1.out.soft 1
    have z2 := R1.out.soft 2
    clear hb1
    go_wp2_with fail
    have Z := ((R1.out.set0 (.slice none 0 0)).set1 (.slice none 0 0)).set2 (.slice none 0 0)
    refine bodyPost_ret (results_cell2 rfl rfl (load_store Z.cells.1 Z.cells.2.1 Z.cells.2.2)) rfl ?_
    refine ⟨_, rfl, noStore_L _ _, ?_, ApartL.of ApartV.none⟩
    have HW := HA.out.trans (HB1.out.mono HA.out.size)
    exact ((HW.setCell (p := ⟨w.heap.size + 1, 0, none⟩) (Nat.le_succ _) _).setCell (p := ⟨w.heap.size + 1, 1, none⟩) (Nat.le_succ _) _).setCell (p := ⟨w.heap.size + 1, 2, none⟩) (Nat.le_succ _) _
  · have HT : Hid (stGT s n = tellT (stageGT s n)) := by rw [stGT, eg]; rfl
    have HT2 : Hid (stGB s n = goodS (stageGT s n)) := by rw [stGB, eg]; rfl
    rw [HT.out, HT2.out]
    obtain ⟨l1, l2, l3⟩ := good_sizes eg
    have HFT : Hid (Fits (stageGT s n)) := stageGT_fits hx hn
    have HTL := Lib.hid (fun W u (hr : StoreV W u (stageGT s n)) => l3Tell_anyA (stageGT s n) u W hr HFT.out)
    have HPU := Lib.hid (fun W (hr : RowF W (.slice a2 s.staged.length cs) s.staged) => l3Drop_any s.staged n (.slice a2 s.staged.length cs) W hr (by omega))
    have HDR := Lib.hid (fun W (hr : RowV W (.slice ag s.gone.length cg) (S s.gone)) => l3PutName_any s.gone n (.slice ag s.gone.length cg) W hr (by omega))
    have HMID : Hid (stageGT s n = ⟨s.files, dropF s.staged n, putN s.gone n⟩) := rfl
    generalize dropF s.staged n = pf at HPU HMID
    generalize putN s.gone n = dn at HDR HMID
    rw [HMID.out] at HTL ⊢
    generalize tellT ⟨s.files, pf, dn⟩ = t at HTL ⊢
    generalize goodS ⟨s.files, pf, dn⟩ = okk at HTL ⊢
    rw [eg] at HG
    clear eg hx HT HT2 HFT HMID
    go_enter Tryz.func12, Tryz.ntmps12
    go_wp2_with fail
    rw [← HWA.out]
    refine (HG.out wa (HST.out.below HA.out)).mono ?_
    rintro e w1 ⟨rfl, hb1⟩
    have HW1 : Hid (Below w.heap.size w w1.drew) := Below.drew (HA.out.trans (hb1.mono HA.out.size))
    have hR1 := R0.out.below hb1 (show w.heap.size + 1 < wa.heap.size by omega)
    have R1 : Hid (Blk3 w1.drew (w.heap.size + 1) 29 (.slice none 0 0) (.slice none 0 0) (.slice none 0 0)) := hR1
    have s1 : w.heap.size + 2 ≤ w1.drew.heap.size := by have := hb1.size; show _ ≤ w1.heap.size; omega
    have hks := (P0.out.below hb1 (by omega)).cells
    have ks : Hid (C3 w w1.drew (.slice af s.files.length cf) (.slice a2 s.staged.length cs) (.slice ag s.gone.length cg)) := hks
    clear hb1 c0 c1 c2 hR1 hks
    go_wp2_with fail
    go_region_held3 (fun W => W.cell? ⟨w.heap.size, 0, none⟩ = some (.slice af s.files.length cf) ∧ W.cell? ⟨w.heap.size, 1, none⟩ = some (.slice a2 s.staged.length cs) ∧ W.cell? ⟨w.heap.size, 2, none⟩ = some (.slice ag s.gone.length cg)) (first | exact ks.out | exact ks.out.set _ _ _)
      (first
        | (go_at_call 32; refine (HPU.out _ (H2.out.below HW1.out)).mono ?_; rintro e w2 ⟨v2, rfl, ho2, hb2⟩
           have HF2 := Lib.hid (RowF.of_own ho2)
           obtain ⟨p2, q2, hv2⟩ := own_sliceG ho2
           subst hv2
           have HW2 := Lib.hid (HW1.out.trans (hb2.mono HW1.out.size))
           have R2 := Lib.hid (R1.out.below hb2 (lt_of_block R1.out))
           have s2 := Nat.le_trans s1 hb2.size
           have kt := Lib.hid (ks.out.below hb2)
           clear ks
           have ks := kt
           clear kt hb2 ho2)
        | (go_at_call 33; refine (HDR.out _ (H3.out.below HW2.out)).mono ?_; rintro e w3 ⟨v3, rfl, ho3, hb3⟩
           have HF3 := Lib.hid (RowV.of_rowG (RowG.of_own ho3))
           obtain ⟨p3, q3, hv3⟩ := own_sliceG ho3
           subst hv3
           have HW3 := Lib.hid (HW2.out.trans (hb3.mono HW2.out.size))
           have R3 := Lib.hid (R2.out.below hb3 (lt_of_block R2.out))
           have s3 := Nat.le_trans s2 hb3.size
           have HF2' := Lib.hid (HF2.out.below hb3)
           have kt := Lib.hid (ks.out.below hb3)
           clear ks
           have ks := kt
           clear kt hb3 ho3)
        | (go_at_call 17; refine (HTL.out _ _ ⟨_, _, _, rfl, H1.out.below HW3.out, HF2'.out, HF3.out⟩).mono ?_; rintro e w4 ⟨v4, rfl, ho4, hb4, ap4⟩
           have HW4 := Lib.hid (HW3.out.trans (hb4.mono HW3.out.size))
           have R4 := Lib.hid (R3.out.below hb4 (lt_of_block R3.out))
           have HO4 := Lib.hid (ho4.base s3)
           have AP4 := Lib.hid ap4
           clear ap4
           obtain ⟨a3, c3, a7, c7, a11, c11, hv4⟩ := ho4.slices
           subst hv4
           obtain ⟨k0, k1, k2⟩ := R4.out.cells
           have z0 := R4.out.soft 0
           have z1 := R4.out.soft 1
           have z2 := R4.out.soft 2
           have kt := Lib.hid (ks.out.below hb4)
           clear ks
           have ks := kt
           clear kt hb4 ho4))
    all_goals
      go_wp2_with fail
      have Z := ((R4.out.set0 (.slice a3 t.files.length c3)).set1 (.slice a7 t.staged.length c7)).set2 (.slice a11 t.gone.length c11)
      refine bodyPost_ret (results_cell2 rfl rfl (load_store Z.cells.1 Z.cells.2.1 Z.cells.2.2)) rfl ?_
      have q1 : w.heap.size + 1 < w.heap.size + 2 := by omega
      refine ⟨_, rfl, (((HO4.out.set (p := ⟨w.heap.size + 1, 0, none⟩) q1 _).set (p := ⟨w.heap.size + 1, 1, none⟩) q1 _).set (p := ⟨w.heap.size + 1, 2, none⟩) q1 _).base (by omega), ?_, AP4.out⟩
      exact ((HW4.out.setCell (p := ⟨w.heap.size + 1, 0, none⟩) (Nat.le_succ _) _).setCell (p := ⟨w.heap.size + 1, 1, none⟩) (Nat.le_succ _) _).setCell (p := ⟨w.heap.size + 1, 2, none⟩) (Nat.le_succ _) _
theorem specStageFile_any (s : StoreT) (n b : List UInt8) (v : Value) (w : World) (hst : StoreV w v s) (hx : Fits s) (hn : n.length ≤ maxLen) (hb : b.length ≤ maxLen) :
    Calls Tryz.prog 6 #[v, .string ⟨n.toArray⟩, .string ⟨b.toArray⟩] w (StoreLOk (stFT s n b) (stFB s n b) w) :=
  (specStageFile_anyA s n b v w hst hx hn hb).mono fun _ _ h => h.ok
theorem specStageGone_any (s : StoreT) (n : List UInt8) (v : Value) (w : World) (hst : StoreV w v s) (hx : Fits s) (hn : n.length ≤ maxLen) :
    Calls Tryz.prog 12 #[v, .string ⟨n.toArray⟩] w (StoreLOk (stGT s n) (stGB s n) w) :=
  (specStageGone_anyA s n v w hst hx hn).mono fun _ _ h => h.ok

end Go.Proofs.YtgcaplbeahjbmaaGreatDoor

/- Maps of names: as rising lists; the laws at a map's operations; the program's sets of names. -/
namespace Go.Proofs.YtgcaplbeahjbmaaGreatDoor
open Go.RowKit Go.Maps Go.Sort Go.Lib Pth

def RiseM (l : List (List UInt8)) : Prop := l.Pairwise (fun a b => ltT a b = true)
theorem RiseM.nil : RiseM [] := List.Pairwise.nil
theorem RiseM.tail {x : List UInt8} {t : List (List UInt8)} (h : RiseM (x :: t)) : RiseM t := (List.pairwise_cons.1 h).2
theorem RiseM.head {x : List UInt8} {t : List (List UInt8)} (h : RiseM (x :: t)) : ∀ g ∈ t, ltT x g = true := (List.pairwise_cons.1 h).1
theorem putN_of {l : List (List UInt8)} {n g : List UInt8} (h : g ∈ putN l n) : g = n ∨ g ∈ l := by
  induction l with
  | nil => simp [putN] at h; exact .inl h
  | cons x t ih =>
    unfold putN at h
    split at h
    · rcases List.mem_cons.1 h with rfl | h
      · exact .inr (by simp)
      · rcases ih h with h | h
        · exact .inl h
        · exact .inr (by simp [h])
    · split at h
      · exact .inr h
      · rcases List.mem_cons.1 h with h | h
        · exact .inl h
        · exact .inr h
theorem RiseM.put {l : List (List UInt8)} (h : RiseM l) (n : List UInt8) : RiseM (putN l n) := by
  induction l with
  | nil => exact List.pairwise_cons.2 ⟨fun g hg => by simp at hg, List.Pairwise.nil⟩
  | cons x t ih =>
    unfold putN
    split
    · rename_i hx
      refine List.pairwise_cons.2 ⟨fun g hg => ?_, ih h.tail⟩
      rcases putN_of hg with rfl | hg
      · exact hx
      · exact h.head g hg
    · rename_i hx
      split
      · exact h
      · rename_i he
        have hlt : ltT n x = true := by
          rcases ltT_total x n with h1 | h1 | h1
          · exact absurd h1 hx
          · exact absurd h1 he
          · exact h1
        refine List.pairwise_cons.2 ⟨fun g hg => ?_, h⟩
        rcases List.mem_cons.1 hg with rfl | hg
        · exact hlt
        · exact ltT_trans hlt (h.head g hg)
theorem RiseM.drop {l : List (List UInt8)} (h : RiseM l) (n : List UInt8) : RiseM (dropN l n) := List.Pairwise.sublist List.filter_sublist h
theorem RiseM.nodup {l : List (List UInt8)} (h : RiseM l) : l.Nodup := List.Pairwise.imp (fun h => ltT_ne h) h

def entN (n : List UInt8) : Lit × DataW Unit := (.string n, .lit (.bool true))
def datN (l : List (List UInt8)) : DataW Unit := .map (l.map entN)
theorem insert_firstN (f : List UInt8) (t : List (List UInt8)) (h : ∀ g ∈ t, ltT f g = true) : DataW.insert (entN f) (t.map entN) = (f :: t).map entN := by
  cases t with
  | nil => rfl
  | cons x u =>
    show (if Lit.before (.string f) (.string x) then _ else _) = _
    rw [before_lt, if_pos (h x (by simp))]; rfl
theorem filter_otherN (n : List UInt8) (t : List (List UInt8)) (h : ∀ g ∈ t, g ≠ n) : (t.map entN).filter (fun p => !p.1.sameKey (.string n)) = t.map entN := by
  refine List.filter_eq_self.2 fun p hp => ?_
  obtain ⟨g, hg, rfl⟩ := List.mem_map.1 hp
  show (!(g == n)) = true
  simp [h g hg]
theorem datN_put {l : List (List UInt8)} (h : RiseM l) (f : List UInt8) : (datN l).put (.string f) (.lit (.bool true)) = datN (putN l f) := by
  show DataW.map (DataW.insert (entN f) ((l.map entN).filter fun p => !p.1.sameKey (.string f))) = .map _
  congr 1
  induction l with
  | nil => rfl
  | cons x t ih =>
    rw [List.map_cons, List.filter_cons]
    show DataW.insert (entN f) (if (!(x == f)) = true then _ else _) = _
    unfold putN
    by_cases hx : ltT x f = true
    · rw [if_pos hx, if_pos (by simp [ltT_ne hx])]
      show (if Lit.before (.string f) (.string x) then _ else _) = _
      rw [before_lt, ltT_asymm hx, if_neg (by simp), ih h.tail]; rfl
    · rw [if_neg hx]
      by_cases he : x = f
      · rw [if_pos he, if_neg (by simp [he]), filter_otherN _ _ (fun g hg => (ltT_ne (he ▸ h.head g hg)).symm)]
        subst he
        exact insert_firstN x t (fun g hg => h.head g hg)
      · have hlt : ltT f x = true := by
          rcases ltT_total x f with h1 | h1 | h1
          · exact absurd h1 hx
          · exact absurd h1 he
          · exact h1
        rw [if_neg he, if_pos (by simp [he]), filter_otherN _ _ (fun g hg => (ltT_ne (ltT_trans hlt (h.head g hg))).symm)]
        exact insert_firstN f (x :: t) (fun g hg => by
          rcases List.mem_cons.1 hg with rfl | hg
          · exact hlt
          · exact ltT_trans hlt (h.head g hg))
theorem datN_del (l : List (List UInt8)) (n : List UInt8) : (datN l).del (.string n) = datN (dropN l n) := by
  show DataW.map ((l.map entN).filter fun p => !p.1.sameKey (.string n)) = .map ((l.filter fun f => !(f == n)).map entN)
  rw [List.filter_map]; rfl
theorem datN_has (l : List (List UInt8)) (n : List UInt8) : Maps.has (datN l) (.string n) = l.any (fun f => f == n) := by
  show (l.map entN).any (fun p => p.1.sameKey (.string n)) = l.any (fun f => f == n)
  rw [List.any_map]; rfl
theorem datN_mem {l : List (List UInt8)} {x : List UInt8} {y : DataW Unit} (h : ∀ z, (datN l).atKey (.string x) z = y) : x ∈ l := by
  have h1 : Maps.has (datN l) (.string x) = true := has_true_of_atKey h
  rw [datN_has, List.any_eq_true] at h1
  obtain ⟨g, hg, e⟩ := h1
  have e2 : g = x := by simpa using e
  exact e2 ▸ hg
theorem datN_at {l : List (List UInt8)} {x : List UInt8} {y : DataW Unit} (h : ∀ z, (datN l).atKey (.string x) z = y) : y = .lit (.bool true) := by
  have h1 := h .nil
  have hm := datN_mem h
  unfold datN DataW.atKey at h1
  simp only [List.find?_map] at h1
  rcases hf : l.find? ((fun p : Lit × DataW Unit => p.1.sameKey (.string x)) ∘ entN) with _ | f
  · have := List.find?_eq_none.1 hf x hm
    simp [entN, Lit.sameKey] at this
  · rw [hf] at h1
    exact h1.symm
theorem datN_size (l : List (List UInt8)) : Maps.size (datN l) = l.length := by show (l.map entN).length = _; simp

/-- A block is a set of names that reads as a rising list. -/
def MapN (w : World) (b n : Nat) (l : List (List UInt8)) : Prop := w.ownsMap Tryz.prog 9 (plainElem (H := Unit) Tryz.prog 4) b n (datN l) ∧ RiseM l
theorem MapN.lt {w : World} {b n : Nat} {l : List (List UInt8)} (h : MapN w b n l) : b < w.heap.size := h.1.lt
theorem MapN.kept {w w' : World} {b n : Nat} {l : List (List UInt8)} {row : Option Nat} (h : MapN w b n l) (hg : w.grownBy w' row) (hne : some b ≠ row) : MapN w' b n l := ⟨h.1.kept hg hne, h.2⟩
theorem MapN.below {w w' : World} {b n : Nat} {l : List (List UInt8)} (h : MapN w b n l) (hb : Below w.heap.size w w') : MapN w' b n l := by
  obtain ⟨⟨es, clock, hh, r⟩, hr⟩ := h
  exact ⟨⟨es, clock, (hb.block b (lt_of_block hh)).trans hh, r⟩, hr⟩
theorem MapN.made (w : World) : MapN (w.alloc (.map #[] 0)) w.heap.size 0 [] := ⟨World.ownsMap_made w _ _ _, RiseM.nil⟩
set_option maxRecDepth 20000 in
theorem plainElem_bool_inv {v : Value} {z : DataW Unit × List MemPlace} (h : plainElem (H := Unit) Tryz.prog 4 v = some z) : ∃ x, v = .bool x := by
  unfold plainElem at h
  rw [Tryz.underlying4] at h
  cases v <;> simp at h
  exact ⟨_, rfl⟩

section
variable (w : World) {ops : Array Oper} {rest : List Oper} {o : Oper} {a : Act} {Q : Exit → Act → World → Prop}
theorem wpPutN (hg : o.guard = none) (m x v : Operand) (hop : o.op = Op.mapUpdate 50 m x v) (b n : Nat) (l : List (List UInt8))
    (hm : a.eval m = .map (some b)) (hown : MapN w b n l) (hn : n ≤ 1000000) (k : List UInt8) (hx : a.eval x = .string ⟨k.toArray⟩) (hv : a.eval v = .bool true) (hk : k.length ≤ maxLen)
    (hK : ∀ w', MapN w' b (n + 1) (putN l k) → w.grownBy w' (some b) → wpList Tryz.prog ops Q rest (a.put o.dst undef) w') : wpList Tryz.prog ops Q (o :: rest) a w := by
  refine wpList_mapUpdate_own w hg m x v 50 hop 9 4 keyS Tryz.underlying50 _ b n (datN l) hm hown.1 (by unfold maxLen; omega) _ _ (.string k) hx hv (key_of k hk) (.lit (.bool true)) [] (plainElem_bool Tryz.underlying4 true) ?_
  intro w' h1 h2
  rw [datN_put hown.2 k] at h1
  exact hK w' ⟨h1, hown.2.put _⟩ h2
theorem wpDelN (hg : o.guard = none) (m x : Operand) (hop : o.op = Op.call { callee := Callee.builtin Builtin.delete, args := #[m, x], argTypes := #[50, 9] }) (b n : Nat) (l : List (List UInt8))
    (hm : a.eval m = .map (some b)) (hown : MapN w b n l) (k : List UInt8) (hx : a.eval x = .string ⟨k.toArray⟩) (hk : k.length ≤ maxLen)
    (hK : ∀ w', MapN w' b n (dropN l k) → w.grownBy w' (some b) → wpList Tryz.prog ops Q rest (a.put o.dst (.tuple #[])) w') : wpList Tryz.prog ops Q (o :: rest) a w := by
  refine wpList_delete_own w hg m x 50 9 hop 4 keyS Tryz.underlying50 _ b n (datN l) hm hown.1 _ (.string k) hx (key_of k hk) ?_
  intro w' h1 h2
  rw [datN_del] at h1
  exact hK w' ⟨h1, hown.2.drop _⟩ h2.grown
def RangN (w : World) (b r n : Nat) (l : List (List UInt8)) (left : Lit → Bool) (cnt : Nat) : Prop := w.ranges Tryz.prog 9 (plainElem (H := Unit) Tryz.prog 4) b r n (datN l) left cnt ∧ RiseM l
theorem wpRangeN (hg : o.guard = none) (m : Operand) (hop : o.op = Op.range 50 m) (b n : Nat) (l : List (List UInt8)) (hm : a.eval m = .map (some b)) (hown : MapN w b n l)
    (hK : ∀ w', RangN w' b w.heap.size n l (Maps.has (datN l)) l.length → w.grownBy w' none → w'.heap.size = w.heap.size + 1 → wpList Tryz.prog ops Q rest (a.put o.dst (.pointer (some ⟨w.heap.size, 0, none⟩))) w') : wpList Tryz.prog ops Q (o :: rest) a w := by
  refine wpList_range_own w hg m 50 hop 9 4 keyS Tryz.underlying50 _ b n (datN l) hm hown.1 ?_
  intro w' h1 h2 h3
  rw [datN_size] at h1
  exact hK w' ⟨h1, hown.2⟩ h2 h3
set_option maxRecDepth 20000 in
theorem wpNextN (hg : o.guard = none) (it : Operand) (hop : o.op = Op.next it false) (b r n : Nat) (l : List (List UInt8)) (left : Lit → Bool) (cnt : Nat) (hit : a.eval it = .pointer (some ⟨r, 0, none⟩)) (h : RangN w b r n l left cnt)
    (hDone : cnt = 0 → (∀ kl, left kl = false) → wpList Tryz.prog ops Q rest (a.put o.dst (.tuple #[.bool false])) w)
    (hMore : ∀ (x : List UInt8) (w' : World) (cnt' : Nat), x ∈ l → x.length ≤ maxLen → left (.string x) = true → RangN w' b r n l (fun z => left z && !z.sameKey (.string x)) cnt' → cnt' < cnt → w.grownBy w' (some r) → w'.heap.size = w.heap.size →
      (Instr.entry (.pointer (some ⟨r, 0, none⟩))).run Tryz.prog w' = .ok (.tuple #[.string ⟨x.toArray⟩, .bool true]) w' → wpList Tryz.prog ops Q rest (a.put o.dst (.tuple #[.bool true, .string ⟨x.toArray⟩, .bool true])) w') : wpList Tryz.prog ops Q (o :: rest) a w := by
  refine wpList_next_ranges w hg it hop 9 keyS (plainElem (H := Unit) Tryz.prog 4) (fun l : List UInt8 => .string ⟨l.toArray⟩) Value.bool
    (fun key kl hkey => by obtain ⟨x, rfl, _⟩ := Maps.keyOf_str Tryz.underlying9 hkey; exact ⟨x, rfl⟩) (fun v y hv => plainElem_bool_inv hv) b r n (datN l) left cnt hit h.1 hDone ?_
  intro x c kl y w' cnt' hkey hlk hv hat hrg hlt hgr hsz hen
  obtain ⟨x', ex, rfl, hx⟩ := Maps.keyOf_str Tryz.underlying9 hkey
  obtain rfl : x = x' := encStr_inj ex
  have hy := plainElem_bool (H := Unit) (P := Tryz.prog) Tryz.underlying4 c
  have hc : c = true := by
    rw [hy] at hv
    have e1 : y.1 = .lit (.bool c) := by rw [← Option.some.inj hv]
    have e2 := datN_at hat
    rw [e1] at e2
    simpa using e2
  subst hc
  exact hMore x w' cnt' (datN_mem hat) hx hlk ⟨hrg, h.2⟩ hlt hgr hsz hen
end

/-- The names met so far. -/
def CollN (l : List (List UInt8)) (left : Lit → Bool) (acc : List (List UInt8)) : Prop := acc.Nodup ∧ ∀ f, f ∈ acc ↔ f ∈ l ∧ left (.string f) = false
theorem CollN.start (l : List (List UInt8)) : CollN l (Maps.has (datN l)) [] := by
  refine ⟨List.nodup_nil, fun f => ⟨fun h => by simp at h, fun ⟨h1, h2⟩ => ?_⟩⟩
  rw [datN_has, List.any_eq_false] at h2
  exact absurd (by simp) (h2 f h1)
theorem CollN.step {l acc : List (List UInt8)} {left : Lit → Bool} (h : CollN l left acc) {x : List UInt8} (hx : x ∈ l) (hl : left (.string x) = true) : CollN l (fun z => left z && !z.sameKey (.string x)) (acc ++ [x]) := by
  have hno : x ∉ acc := fun hf => by
    have := ((h.2 x).1 hf).2
    rw [hl] at this; cases this
  refine ⟨?_, fun f => ?_⟩
  · rw [List.nodup_append]
    refine ⟨h.1, by simp, fun a ha b hb => ?_⟩
    simp at hb
    subst hb
    exact fun e => hno (e ▸ ha)
  · rw [List.mem_append, h.2 f, List.mem_singleton]
    show _ ↔ f ∈ l ∧ (left (.string f) && !(f == x)) = false
    constructor
    · rintro (⟨h1, h2⟩ | rfl)
      · exact ⟨h1, by rw [h2]; rfl⟩
      · exact ⟨hx, by simp⟩
    · rintro ⟨h1, h2⟩
      by_cases e : f = x
      · exact .inr e
      · have : (f == x) = false := by simpa using e
        rw [this] at h2
        exact .inl ⟨h1, by simpa using h2⟩
theorem CollN.perm {l acc : List (List UInt8)} {left : Lit → Bool} (h : CollN l left acc) (hr : RiseM l) (hl : ∀ kl, left kl = false) : acc.Perm l :=
  (List.perm_ext_iff_of_nodup h.1 hr.nodup).2 fun f => by rw [h.2 f, hl]; simp
theorem lt_iff_ltT (a b : List UInt8) : a < b ↔ ltT a b = true := by
  induction a generalizing b with
  | nil =>
    cases b with
    | nil => simp [ltT_nil]
    | cons y u => simp [ltT_nil_cons]
  | cons x t ih =>
    cases b with
    | nil => simp [ltT_nil]
    | cons y u =>
      rw [List.cons_lt_cons_iff, ih u, ltT_cons]
      simp
theorem sorted_names {l acc : List (List UInt8)} (hp : acc.Perm l) (hr : RiseM l) : (acc.mergeSort fun x y => decide (x ≤ y)) = l := by
  have e1 := mergeSort_of_perm hp
  have e2 : l.mergeSort leB = l := by
    refine List.mergeSort_of_pairwise ?_
    refine List.Pairwise.imp (fun {a b} h => ?_) hr
    simp only [leB, decide_eq_true_eq]
    exact List.le_of_lt ((lt_iff_ltT a b).2 h)
  exact e1.trans e2

theorem S_enc (l : List (List UInt8)) : S l = l.map encStr := rfl
/-- The sort, at names of a rising list in whatever order. -/
theorem sortN_any (l acc : List (List UInt8)) (v : Value) (B : Nat) (w : World) (hown : w.ownsRow B 9 1 v acc.length (S acc)) (hp : acc.Perm l) (hr : RiseM l) (hl : acc.length ≤ 1000000) (hB : B ≤ w.heap.size) :
    Calls Tryz.prog 55 #[v] w fun e w' => e = .returned (.tuple #[]) ∧ w'.ownsRow B 9 1 v l.length (S l) ∧ Below B w w' := by
  have hpl := hp.length_eq
  rcases hown.2 with ⟨hv, h0⟩ | ⟨g, cap, cur, hv, hBg, hh, h1, h2, h3, h4⟩
  · subst hv
    have h00 : acc = [] := List.eq_nil_of_length_eq_zero h0
    subst h00
    have hl0 : l = [] := List.Perm.nil_eq hp |>.symm
    subst hl0
    refine (AnyM.slices_Sort_string_none Tryz.sortS none 0 w).mono fun e w' ⟨he, hw⟩ => ?_
    subst hw
    exact ⟨he, hown, Below.refl _ _⟩
  · subst hv
    have hH := holds_of_block (ss := acc) hh (by rw [Nat.mul_one] at h4; rw [← S_enc]; exact h4)
    refine (AnyM.slices_Sort_string Tryz.sortS g 0 cap acc w hH (lt_of_block hh) (by omega)).mono ?_
    rintro e w' ⟨he, n, os, rfl⟩
    rw [sorted_names hp hr]
    refine ⟨he, ?_, (Below.refl B w).grown (grownBy_sorted _) hB (fun k hk => by cases hk; exact hBg)⟩
    have := ownsRow_sorted (base := B) (n := n) (os := os) (ss := acc) (ts := l) hpl.symm hBg hh h1 h2 h3
    rw [← hpl, S_enc]
    exact this

set_option maxRecDepth 20000 in
set_option maxHeartbeats 2000000 in
theorem setOfNames_any (l : List (List UInt8)) (v : Value) (w : World) (hrow : RowV w v (S l)) (hx : ∀ f ∈ l, f.length ≤ maxLen) (hl : l.length ≤ 1000) :
    Calls Tryz.prog 24 #[v] w fun e w' => e = .returned (.map (some w.heap.size)) ∧ MapN w' w.heap.size l.length (l.foldl putN []) ∧ Below w.heap.size w w' := by
  obtain ⟨a, cap, rfl, hc1, hc2, hat⟩ := hrow.texts
  clear hrow
  unfold maxLen at hc2
  have HM0 := Lib.hid (MapN.made w)
  have HB0 := Lib.hid ((Below.refl w.heap.size w).alloc (Nat.le_refl _) (.map #[] 0))
  have hmm := @run_makeMap Tryz.prog
  go_enter Tryz.func24, Tryz.ntmps24
  go_wp2_with fail
  clear hmm
  go_loopw [9] (fun i wr => ∃ k : Nat, k ≤ l.length ∧ i = .int .i64 k ∧ Hid (MapN wr w.heap.size k ((l.take k).foldl putN [])) ∧ Hid (Below w.heap.size w wr)) (fun i _ => l.length - (intOf i).toNat)
  case atStart => exact ⟨0, Nat.zero_le _, rfl, HM0, HB0⟩
  case round =>
    clear HM0 HB0
    obtain ⟨k, hk, rfl, HN, HB⟩ := hrel
    by_cases hlt : k < l.length
    · obtain ⟨g, o, rfl, hg, hcell1⟩ := hat k hlt
      have hc1' : wr.cell? ⟨g, o + k, none⟩ = some (.string ⟨(l[k]).toArray⟩) := by rw [HB.out.cell (p := ⟨g, o + k, none⟩) hg]; exact hcell1
      have HXL := Lib.hid (hx l[k] (List.getElem_mem hlt))
      have HT : Hid ((l.take (k + 1)).foldl putN [] = putN ((l.take k).foldl putN []) l[k]) := by
        show _ = _
        rw [List.take_succ_eq_append_getElem hlt, List.foldl_append]; rfl
      generalize (l.take k).foldl putN [] = acc at HN HT
      clear hcell1 hat hx
      generalize l[k] = x at hc1' HT HXL
      go_wp2_with (at_mapUpdate; refine wpPutN _ rfl _ _ _ rfl w.heap.size k acc rfl HN.out (by omega) x rfl rfl HXL.out ?_; intro w2 hm2 hg2; have HN2 := Lib.hid hm2; have HB2 := Lib.hid (HB.out.grown hg2 HB.out.size (fun j hj => by cases hj; exact Nat.le_refl _)); clear hm2 hg2)
      rw [← HT.out] at HN2
      go_roundw
      case rel => exact ⟨k + 1, by omega, by go_num, HN2, HB2⟩
      case measure => simp [intOf]; omega
    · obtain rfl : k = l.length := by omega
      have HN1 : Hid (MapN wr w.heap.size l.length (l.foldl putN [])) := by
        have := HN.out
        rw [List.take_of_length_le (Nat.le_refl _)] at this
        exact this
      clear HN hat hx
      go_wp2_with fail
      go_ret
      exact ⟨rfl, HN1.out, HB.out⟩
theorem fillN_is {l : List (List UInt8)} (h : RiseM l) : l.foldl putN [] = l := by
  have snoc : ∀ (a : List (List UInt8)) (f : List UInt8), (∀ g ∈ a, ltT g f = true) → putN a f = a ++ [f] := by
    intro a f
    induction a with
    | nil => intro _; rfl
    | cons x t ih => intro hh; rw [putN, if_pos (hh x (by simp)), ih (fun g hg => hh g (by simp [hg]))]; rfl
  have key : ∀ (a b : List (List UInt8)), RiseM (a ++ b) → b.foldl putN a = a ++ b := by
    intro a b
    induction b generalizing a with
    | nil => intro _; simp
    | cons x t ih =>
      intro hh
      rw [List.foldl_cons, snoc a x (fun g hg => (List.pairwise_append.1 hh).2.2 g hg x (by simp)), ih (a ++ [x]) (by simpa [RiseM] using hh)]
      simp
  exact key [] l h

set_option maxRecDepth 20000 in
set_option maxHeartbeats 4000000 in
theorem namesIn_any (l : List (List UInt8)) (b n : Nat) (w : World) (hm : MapN w b n l) (hl : l.length ≤ 5000) :
    Calls Tryz.prog 44 #[.map (some b)] w (NamesPost l w) := by
  have HM := Lib.hid hm
  have hb := hm.lt
  have HRI := Lib.hid hm.2
  clear hm
  go_enter Tryz.func44, Tryz.ntmps44
  go_wp2_with (at_range; refine wpRangeN _ rfl _ rfl b n l rfl HM.out ?_; intro w0 hrg0 hg0 hs0)
  go_frame
  have HR0 := Lib.hid hrg0
  have HB0 := Lib.hid ((Below.refl w.heap.size w).grown hg0 (Nat.le_refl _) (fun j hj => by cases hj))
  clear hrg0 hg0
  go_loopw [3] (fun v wr => ∃ (left : Lit → Bool) (cnt : Nat) (acc : List (List UInt8)), Hid (RangN wr b w.heap.size n l left cnt) ∧ Hid (wr.ownsRow (w.heap.size + 1) 9 1 v acc.length (S acc)) ∧ Hid (CollN l left acc) ∧ acc.length + cnt ≤ l.length ∧ w.heap.size + 1 ≤ wr.heap.size ∧ Hid (Below w.heap.size w wr)) (fun _ wr => wr.rangeLeft b w.heap.size)
  case atStart => exact ⟨_, _, [], HR0, ⟨rfl, .inl ⟨rfl, rfl⟩⟩, CollN.start l, by simp, by omega, HB0⟩
  case round =>
    clear HR0 HB0 hs0
    obtain ⟨left, cnt, acc, HR, HN, HC, hcs, hsz, HB⟩ := hrel
    go_wp2_with (at_next; refine wpNextN _ rfl _ rfl b w.heap.size n l left cnt rfl HR.out ?_ ?_)
    · intro hc0 hl0
      have HS := Lib.hid (sortN_any l acc u3 (w.heap.size + 1) wr HN.out (HC.out.perm HRI.out hl0) HRI.out (by omega) hsz)
      clear hl0 HC HR HN
      go_wp2_with fail
      refine HS.out.mono ?_
      rintro e w1 ⟨rfl, hown1, hb1⟩
      have HN1 := Lib.hid (own_baseG hown1 (Nat.le_succ _))
      have HB1 := Lib.hid (HB.out.trans (hb1.mono (Nat.le_succ _)))
      clear hown1 hb1 HS HB
      go_wp2_with fail
      go_ret
      exact ⟨_, rfl, HN1.out, HB1.out⟩
    · intro x w1 cnt1 hmem hx hlx hrg1 hlt hg1 hs1 hen
      have HN1 := Lib.hid (HN.out.kept hg1 (.inr (own_ne HN.out (Nat.lt_succ_self _)).symm))
      have HB1 := Lib.hid (HB.out.grown hg1 HB.out.size (fun j hj => by cases hj; exact Nat.le_refl _))
      have HC1 := Lib.hid (HC.out.step hmem hlx)
      have HR1 := Lib.hid hrg1
      have HSZ : Hid (w.heap.size + 1 ≤ w1.heap.size) := by show _ ≤ _; omega
      clear hmem hx hlx hrg1 hg1 hs1 HC HN HB
      go_wp2_with (at_builtin; refine wpAppOne elemS rfl _ _ rfl (w.heap.size + 1) _ (S acc) rfl (by rw [S_len]; exact HN1.out) _ rfl rfl rfl (by rw [S_len]; omega) HSZ.out ?_; intro v2 w2 hown2 hg2; go_frame)
      have HN2 := Lib.hid (text_snoc hown2)
      have HR2 : Hid (RangN w2 b w.heap.size n l (fun z => left z && !z.sameKey (.string x)) cnt1) := ⟨HR1.out.1.kept hg2 (own_ne HN1.out (by omega)) (own_ne HN1.out (Nat.lt_succ_self _)), HR1.out.2⟩
      have HB2 := Lib.hid (HB1.out.trans ((below_own HN1.out hg2 HSZ.out).mono (Nat.le_succ _)))
      have hz2 : w.heap.size + 1 ≤ w2.heap.size := Nat.le_trans HSZ.out hg2.size
      have hml : wr.rangeLeft b w.heap.size = cnt := HR.out.1.left_eq
      have hml2 : w2.rangeLeft b w.heap.size = cnt1 := HR2.out.1.left_eq
      clear hown2 hg2
      go_roundw
      case rel => exact ⟨_, cnt1, acc ++ [x], HR2, HN2, HC1, by simp; omega, hz2, HB2⟩
      case measure => rw [hml, hml2]; exact hlt

set_option maxRecDepth 20000 in
set_option maxHeartbeats 2000000 in
theorem ownNames_any (l : List (List UInt8)) (v : Value) (w : World) (hrow : RowV w v (S l)) (hx : ∀ f ∈ l, f.length ≤ 1000) (hl : l.length ≤ 1000) :
    Calls Tryz.prog 46 #[v] w (NamesPost l w) := by
  obtain ⟨a, cap, rfl, hc1, hc2, hat⟩ := hrow.texts
  clear hrow
  unfold maxLen at hc2
  go_enter Tryz.func46, Tryz.ntmps46
  go_wp2_with fail
  go_loopw [8, 3] (fun i v wr => ∃ k : Nat, k ≤ l.length ∧ i = .int .i64 k ∧ Hid (wr.ownsRow w.heap.size 9 1 v (l.take k).length (S (l.take k))) ∧ Hid (Below w.heap.size w wr)) (fun i _ _ => l.length - (intOf i).toNat)
  case atStart => exact ⟨0, Nat.zero_le _, rfl, ⟨rfl, .inl ⟨rfl, rfl⟩⟩, Below.refl _ _⟩
  case round =>
    obtain ⟨k, hk, rfl, HN, HB⟩ := hrel
    by_cases hlt : k < l.length
    · obtain ⟨g, o, rfl, hg, hcell1⟩ := hat k hlt
      have hc1' : wr.cell? ⟨g, o + k, none⟩ = some (.string ⟨(l[k]).toArray⟩) := by rw [HB.out.cell (p := ⟨g, o + k, none⟩) hg]; exact hcell1
      have HT : Hid (l.take k ++ [l[k]] = l.take (k + 1)) := (List.take_succ_eq_append_getElem hlt).symm
      have HCL := Lib.hid (clone_any l[k] wr (hx l[k] (List.getElem_mem hlt)))
      have hln : (l.take k).length = k := by rw [List.length_take]; omega
      generalize l.take k = acc at HN HT hln
      clear hcell1 hat hx
      generalize l[k] = x at hc1' HT HCL
      go_wp2_with fail
      refine HCL.out.mono ?_
      rintro e w1 ⟨rfl, hb1⟩
      have HN1 := Lib.hid (own_belowG HN.out hb1)
      have HB1 := Lib.hid (bth HB.out hb1)
      clear hb1 HN HB HCL
      go_wp2_with (at_builtin; refine wpAppOne elemS rfl _ _ rfl w.heap.size _ (S acc) rfl (by rw [S_len]; exact HN1.out) _ rfl rfl rfl (by rw [S_len]; omega) HB1.out.size ?_; intro v2 w2 hown2 hg2; have HN2 := Lib.hid (text_snoc hown2); have HB2 := Lib.hid (HB1.out.trans (below_own HN1.out hg2 HB1.out.size)); clear hown2 hg2)
      rw [HT.out] at HN2
      go_roundw
      case rel => exact ⟨k + 1, by omega, by go_num, HN2, HB2⟩
      case measure => simp [intOf]; omega
    · have HN1 : Hid (wr.ownsRow w.heap.size 9 1 u3 l.length (S l)) := by
        have := HN.out
        rw [List.take_of_length_le (by omega)] at this
        exact this
      clear HN hat hx
      go_wp2_with fail
      go_ret
      exact ⟨_, rfl, HN1.out, HB.out⟩

end Go.Proofs.YtgcaplbeahjbmaaGreatDoor

/- Walks: the program's stores with something on the side. -/
namespace Go.Proofs.YtgcaplbeahjbmaaGreatDoor
open Go.RowKit Go.Maps Pth

/-- The cells of a block of three, wherever it lies. -/
def D3 (b : Nat) (W : World) (x y z : Value) : Prop := W.cell? ⟨b, 0, none⟩ = some x ∧ W.cell? ⟨b, 1, none⟩ = some y ∧ W.cell? ⟨b, 2, none⟩ = some z
theorem D3.below {b : Nat} {W W' : World} {x y z : Value} (h : D3 b W x y z) (hb : Below W.heap.size W W') : D3 b W' x y z :=
  ⟨(hb.cell (p := ⟨b, 0, none⟩) (World.block_lt_of_cell? _ _ h.1)).trans h.1, (hb.cell (p := ⟨b, 1, none⟩) (World.block_lt_of_cell? _ _ h.2.1)).trans h.2.1, (hb.cell (p := ⟨b, 2, none⟩) (World.block_lt_of_cell? _ _ h.2.2)).trans h.2.2⟩
theorem set_apart (W : World) {b c j i : Nat} (h : b ≠ c) (u : Value) : (W.setCell ⟨c, j, none⟩ u).cell? ⟨b, i, none⟩ = W.cell? ⟨b, i, none⟩ :=
  World.cell?_of_block (w := W) (a := ⟨b, i, none⟩) (Below.heap_setCell W _ u b h)
theorem D3.set {b c : Nat} {W : World} {x y z : Value} (h : D3 b W x y z) (hbc : b ≠ c) (u0 u1 u2 : Value) : D3 b (((W.setCell ⟨c, 0, none⟩ u0).setCell ⟨c, 1, none⟩ u1).setCell ⟨c, 2, none⟩ u2) x y z := by
  unfold D3
  rw [set_apart _ hbc, set_apart _ hbc, set_apart _ hbc, set_apart _ hbc, set_apart _ hbc, set_apart _ hbc, set_apart _ hbc, set_apart _ hbc, set_apart _ hbc]
  exact h
theorem good_gone {s : StoreT} (h : goodS s = true) : ∀ n ∈ s.gone, n.length ≤ 1000 := fun n hn => by
  rw [goodS_parts] at h
  simp only [Bool.and_eq_true, decide_eq_true_iff] at h
  have h1 := h.2.2.2.1
  rw [namesOk, Bool.and_eq_true] at h1
  have := name_len (List.all_eq_true.1 h1.1 n hn)
  omega

set_option maxRecDepth 20000 in
set_option maxHeartbeats 8000000 in
theorem onSide_any (s : StoreT) (vf : Value) (b1 n1 b2 n2 : Nat) (w : World) (hf : RowF w vf s.files) (h1 : MapF w b1 n1 s.staged) (h2 : MapN w b2 n2 s.gone) (hx : Fits s) (hm : MaxAt w) (hl1 : s.staged.length ≤ 1000) (hl2 : s.gone.length ≤ 1000) :
    Calls Tryz.prog 25 #[vf, .map (some b1), .map (some b2)] w (StoreBOk (tellT s) (goodS s) w) := by
  have HF := Lib.hid hf
  have H1 := Lib.hid h1
  have H2 := Lib.hid h2
  have HX := Lib.hid hx
  have HM := Lib.hid hm
  obtain ⟨af, cf, rfl, hf1, hf2, _⟩ := hf.files
  clear hf h1 h2 hx hm
  unfold maxLen at hf2
  obtain ⟨wa, hwa⟩ : ∃ wa, wa = w.alloc (.cells #[.slice none 0 0, .slice none 0 0, .slice none 0 0] 29) := ⟨_, rfl⟩
  have hsz : wa.heap.size = w.heap.size + 1 := by rw [hwa]; simp
  have R0 : Hid (Blk3 wa w.heap.size 29 (.slice none 0 0) (.slice none 0 0) (.slice none 0 0)) := by rw [hwa]; exact Blk3.new
  have HA : Hid (Below w.heap.size w wa) := by rw [hwa]; exact (Below.refl w.heap.size w).alloc (Nat.le_refl _) _
  have HWA := Lib.hid hwa
  clear hwa
  have HFI := Lib.hid (filesIn_any s.staged b1 n1 wa (H1.out.below HA.out) (by omega))
  have HGS := Lib.hid (fun v W (hr : StoreV W v s) (hm : MaxAt W) => implGoodStore_any s v W hr HX.out hm)
  rcases eg : goodS s with _ | _
  · have HT : Hid (tellT s = noStore) := by rw [tellT, eg]; rfl
    rw [HT.out]
    rw [eg] at HGS
    clear eg HT
    go_enter Tryz.func25, Tryz.ntmps25
    go_wp2_with fail
    rw [← HWA.out]
    refine HFI.out.mono ?_
    rintro e w1 ⟨v1, rfl, ho1, hb1⟩
    have HW1 := Lib.hid (bth HA.out hb1)
    have R1 := Lib.hid (R0.out.below hb1 (by omega))
    have HV1 := Lib.hid (RowF.of_own ho1)
    obtain ⟨p1, q1, rfl⟩ := own_sliceG ho1
    have HNI := Lib.hid (namesIn_any s.gone b2 n2 w1 (H2.out.below HW1.out) (by omega))
    have s1 := hb1.size
    clear ho1 hb1 HFI HWA
    go_wp2_with fail
    refine HNI.out.mono ?_
    rintro e w2 ⟨v2, rfl, ho2, hb2⟩
    have HW2 := Lib.hid (bth HW1.out hb2)
    have R2 := Lib.hid (R1.out.below hb2 (by omega))
    have HV2 := Lib.hid (HV1.out.below hb2)
    have HN2 := Lib.hid (RowV.of_own ho2)
    obtain ⟨p2, q2, rfl⟩ := own_sliceG ho2
    have s2 := hb2.size
    obtain ⟨wb, hwb⟩ : ∃ wb, wb = w2.alloc (.cells #[.slice af s.files.length cf, .slice p1 s.staged.length q1, .slice p2 s.gone.length q2] 29) := ⟨_, rfl⟩
    have hAB : Below w2.heap.size w2 wb := by rw [hwb]; exact (Below.refl w2.heap.size w2).alloc (Nat.le_refl _) _
    have HWb := Lib.hid (bth HW2.out hAB)
    have Rb := Lib.hid (R2.out.below hAB (by omega))
    have HST : Hid (StoreV wb (.agg #[.slice af s.files.length cf, .slice p1 s.staged.length q1, .slice p2 s.gone.length q2]) s) := ⟨_, _, _, rfl, HF.out.below HWb.out, HV2.out.below hAB, HN2.out.below hAB⟩
    have sb : wb.heap.size = w2.heap.size + 1 := by rw [hwb]; simp
    have HWB := Lib.hid hwb
    clear ho2 hb2 hAB hwb HNI HV1 HV2 HN2 R1 R2
    go_wp2_with fail
    rw [← HWB.out]
    refine (HGS.out _ wb HST.out (HM.out.below HWb.out)).mono ?_
    rintro e w3 ⟨rfl, hb3⟩
    have HW3 := Lib.hid (bth HWb.out hb3)
    have R3 := Lib.hid (Rb.out.below hb3 (by omega))
    obtain ⟨k0, k1, k2⟩ := R3.out.cells
    have z0 := R3.out.soft 0
    have z1 := R3.out.soft 1
    have z2 := R3.out.soft 2
    clear hb3
    go_wp2_with fail
    have Z := ((R3.out.set0 (.slice none 0 0)).set1 (.slice none 0 0)).set2 (.slice none 0 0)
    refine bodyPost_ret (results_cell2 rfl rfl (load_store Z.cells.1 Z.cells.2.1 Z.cells.2.2)) rfl ?_
    refine ⟨_, rfl, noStore_own _ _, ?_⟩
    exact ((HW3.out.setCell (p := ⟨w.heap.size, 0, none⟩) (Nat.le_refl _) _).setCell (p := ⟨w.heap.size, 1, none⟩) (Nat.le_refl _) _).setCell (p := ⟨w.heap.size, 2, none⟩) (Nat.le_refl _) _
  · have HT : Hid (tellT s = s) := by rw [tellT, eg]; rfl
    rw [HT.out]
    rw [eg] at HGS
    obtain ⟨l1, l2, l3⟩ := good_sizes eg
    have HGF := Lib.hid (goodS_files eg)
    have HGG := Lib.hid (good_gone eg)
    have HOF := Lib.hid (fun v W (hr : RowF W v s.files) => ownFiles_any s.files v W hr (good_small HGF.out.1) (by omega))
    have HOS := Lib.hid (fun v W (hr : RowF W v s.staged) => ownFiles_any s.staged v W hr (good_small HGF.out.2.1) (by omega))
    have HON := Lib.hid (fun v W (hr : RowV W v (S s.gone)) => ownNames_any s.gone v W hr HGG.out (by omega))
    clear eg HT
    go_enter Tryz.func25, Tryz.ntmps25
    go_wp2_with fail
    rw [← HWA.out]
    refine HFI.out.mono ?_
    rintro e w1 ⟨v1, rfl, ho1, hb1⟩
    have HW1 := Lib.hid (bth HA.out hb1)
    have R1 := Lib.hid (R0.out.below hb1 (by omega))
    have HV1 := Lib.hid (RowF.of_own ho1)
    obtain ⟨p1, q1, rfl⟩ := own_sliceG ho1
    have HNI := Lib.hid (namesIn_any s.gone b2 n2 w1 (H2.out.below HW1.out) (by omega))
    have s1 := hb1.size
    clear ho1 hb1 HFI HWA
    go_wp2_with fail
    refine HNI.out.mono ?_
    rintro e w2 ⟨v2, rfl, ho2, hb2⟩
    have HW2 := Lib.hid (bth HW1.out hb2)
    have R2 := Lib.hid (R1.out.below hb2 (by omega))
    have HV2 := Lib.hid (HV1.out.below hb2)
    have HN2 := Lib.hid (RowV.of_own ho2)
    obtain ⟨p2, q2, rfl⟩ := own_sliceG ho2
    have s2 := hb2.size
    obtain ⟨wb, hwb⟩ : ∃ wb, wb = w2.alloc (.cells #[.slice af s.files.length cf, .slice p1 s.staged.length q1, .slice p2 s.gone.length q2] 29) := ⟨_, rfl⟩
    have hAB : Below w2.heap.size w2 wb := by rw [hwb]; exact (Below.refl w2.heap.size w2).alloc (Nat.le_refl _) _
    have HWb := Lib.hid (bth HW2.out hAB)
    have Rb := Lib.hid (R2.out.below hAB (by omega))
    have Xb : Hid (Blk3 wb w2.heap.size 29 (.slice af s.files.length cf) (.slice p1 s.staged.length q1) (.slice p2 s.gone.length q2)) := by rw [hwb]; exact Blk3.new
    have HST : Hid (StoreV wb (.agg #[.slice af s.files.length cf, .slice p1 s.staged.length q1, .slice p2 s.gone.length q2]) s) := ⟨_, _, _, rfl, HF.out.below HWb.out, HV2.out.below hAB, HN2.out.below hAB⟩
    have HVb := Lib.hid (HV2.out.below hAB)
    have HNb := Lib.hid (HN2.out.below hAB)
    have sb : wb.heap.size = w2.heap.size + 1 := by rw [hwb]; simp
    have HWB := Lib.hid hwb
    clear ho2 hb2 hAB hwb HNI HV1 HV2 HN2 R1 R2
    go_wp2_with fail
    rw [← HWB.out]
    refine (HGS.out _ wb HST.out (HM.out.below HWb.out)).mono ?_
    rintro e w3 ⟨rfl, hb3⟩
    have hb3d : Below wb.heap.size wb w3.drew := Below.drew hb3
    have HW3 := Lib.hid (bth HWb.out hb3d)
    have R3 := Lib.hid (Rb.out.below hb3d (by omega))
    have X3 := Xb.out.below hb3d (by omega)
    have ks : Hid (D3 w2.heap.size w3.drew (.slice af s.files.length cf) (.slice p1 s.staged.length q1) (.slice p2 s.gone.length q2)) := X3.cells
    have HV3 := Lib.hid (HVb.out.below hb3d)
    have HN3 := Lib.hid (HNb.out.below hb3d)
    have hne : w2.heap.size ≠ w.heap.size := by omega
    have s3 : w.heap.size + 1 ≤ w3.drew.heap.size := by have := hb3d.size; omega
    clear hb3 hb3d X3 HGS HVb HNb Rb Xb HST HWB
    go_wp2_with fail
    go_region_held3 (fun W => W.cell? ⟨w2.heap.size, 0, none⟩ = some (.slice af s.files.length cf) ∧ W.cell? ⟨w2.heap.size, 1, none⟩ = some (.slice p1 s.staged.length q1) ∧ W.cell? ⟨w2.heap.size, 2, none⟩ = some (.slice p2 s.gone.length q2)) (first | exact ks.out | exact ks.out.set hne _ _ _)
      (first
        | (go_at_call_of 45 (Value.slice af s.files.length cf); refine (HOF.out _ _ (HF.out.below HW3.out)).mono ?_; rintro e w4 ⟨v4, rfl, ho4, hb4⟩
           have HO4 := Lib.hid (own_baseG ho4 s3)
           have L4 := Lib.hid (fun k (hk : v4.ownBlock = some k) => (ho4.lt k hk).2)
           obtain ⟨p4, q4, hv4⟩ := own_sliceG ho4
           subst hv4
           have HW4 := Lib.hid (bth HW3.out hb4)
           have R4 := Lib.hid (R3.out.below hb4 (lt_of_block R3.out))
           have HV4 := Lib.hid (HV3.out.below hb4)
           have HN4 := Lib.hid (HN3.out.below hb4)
           have s4 := Nat.le_trans s3 hb4.size
           have kt := Lib.hid (ks.out.below hb4)
           clear ks
           have ks := kt
           clear kt hb4 ho4)
        | (go_at_call_of 45 (Value.slice p1 s.staged.length q1); refine (HOS.out _ _ HV4.out).mono ?_; rintro e w5 ⟨v5, rfl, ho5, hb5⟩
           have HO5 := Lib.hid (own_baseG ho5 s4)
           have L5 := Lib.hid (fun k (hk : v5.ownBlock = some k) => (ho5.lt k hk).1)
           obtain ⟨p5, q5, hv5⟩ := own_sliceG ho5
           subst hv5
           have HP4 := Lib.hid (own_belowG HO4.out hb5)
           have HW5 := Lib.hid (bth HW4.out hb5)
           have R5 := Lib.hid (R4.out.below hb5 (lt_of_block R4.out))
           have HN5 := Lib.hid (HN4.out.below hb5)
           have s5 := Nat.le_trans s4 hb5.size
           have kt := Lib.hid (ks.out.below hb5)
           clear ks
           have ks := kt
           clear kt hb5 ho5)
        | (go_at_call 46; refine (HON.out _ _ HN5.out).mono ?_; rintro e w6 ⟨v6, rfl, ho6, hb6⟩
           have HO6 := Lib.hid (own_baseG ho6 s5)
           obtain ⟨p6, q6, hv6⟩ := own_sliceG ho6
           subst hv6
           have HQ4 := Lib.hid (own_belowG HP4.out hb6)
           have HQ5 := Lib.hid (own_belowG HO5.out hb6)
           have HW6 := Lib.hid (bth HW5.out hb6)
           have R6 := Lib.hid (R5.out.below hb6 (lt_of_block R5.out))
           have kt := Lib.hid (ks.out.below hb6)
           obtain ⟨k0, k1, k2⟩ := R6.out.cells
           have z0 := R6.out.soft 0
           have z1 := R6.out.soft 1
           have z2 := R6.out.soft 2
           clear ks
           have ks := kt
           clear kt hb6 ho6))
    all_goals
      go_wp2_with fail
      have Z := ((R6.out.set0 (.slice p4 s.files.length q4)).set1 (.slice p5 s.staged.length q5)).set2 (.slice p6 s.gone.length q6)
      refine bodyPost_ret (results_cell2 rfl rfl (load_store Z.cells.1 Z.cells.2.1 Z.cells.2.2)) rfl ?_
      have q9 : w.heap.size < w.heap.size + 1 := by omega
      refine ⟨_, rfl, ⟨_, _, _, rfl, own_baseG (own_set (own_set (own_set HQ4.out (p := ⟨w.heap.size, 0, none⟩) q9 _) (p := ⟨w.heap.size, 1, none⟩) q9 _) (p := ⟨w.heap.size, 2, none⟩) q9 _) (by omega), own_baseG (own_set (own_set (own_set HQ5.out (p := ⟨w.heap.size, 0, none⟩) q9 _) (p := ⟨w.heap.size, 1, none⟩) q9 _) (p := ⟨w.heap.size, 2, none⟩) q9 _) (by omega), own_baseG (own_set (own_set (own_set HO6.out (p := ⟨w.heap.size, 0, none⟩) q9 _) (p := ⟨w.heap.size, 1, none⟩) q9 _) (p := ⟨w.heap.size, 2, none⟩) q9 _) (by omega), fun j h h' => by have a := L4.out j h; have b := L5.out j h'; omega⟩, ?_⟩
      exact ((HW6.out.setCell (p := ⟨w.heap.size, 0, none⟩) (Nat.le_refl _) _).setCell (p := ⟨w.heap.size, 1, none⟩) (Nat.le_refl _) _).setCell (p := ⟨w.heap.size, 2, none⟩) (Nat.le_refl _) _

end Go.Proofs.YtgcaplbeahjbmaaGreatDoor

/- Walks: what is staged (the program). -/
namespace Go.Proofs.YtgcaplbeahjbmaaGreatDoor
open Go.RowKit Go.Maps Pth

theorem StoreO.set {B : Nat} {w : World} {v : Value} {s : StoreT} (h : StoreO B w v s) {p : Addr} (hp : p.block < B) (u : Value) : StoreO B (w.setCell p u) v s := by
  obtain ⟨vf, vs, vg, hv, h1, h2, h3, h4⟩ := h
  exact ⟨vf, vs, vg, hv, own_set h1 hp u, own_set h2 hp u, own_set h3 hp u, h4⟩
theorem StoreO.slices3 {B : Nat} {w : World} {v : Value} {s : StoreT} (h : StoreO B w v s) : ∃ a c b d e f, v = .agg #[.slice a s.files.length c, .slice b s.staged.length d, .slice e s.gone.length f] := by
  obtain ⟨vf, vs, vg, rfl, h1, h2, h3, _⟩ := h
  obtain ⟨a, c, rfl⟩ := own_sliceG h1
  obtain ⟨b, d, rfl⟩ := own_sliceG h2
  obtain ⟨e, f, rfl⟩ := own_sliceG h3
  exact ⟨a, c, b, d, e, f, rfl⟩

set_option maxRecDepth 20000 in
set_option maxHeartbeats 16000000 in
theorem implStageFile_any (s : StoreT) (n b : List UInt8) (v : Value) (w : World) (hst : StoreV w v s) (hx : Fits s) (hn : n.length ≤ maxLen) (hb : b.length ≤ maxLen) (hm : MaxAt w) :
    Calls Tryz.prog 8 #[v, .string ⟨n.toArray⟩, .string ⟨b.toArray⟩] w (StoreBOk (stFT s n b) (stFB s n b) w) := by
  have HLn := Lib.hid hn
  have HLb := Lib.hid hb
  have HST := Lib.hid hst
  have HFX := Lib.hid hx
  have HM := Lib.hid hm
  obtain ⟨vf, vs, vg, rfl, h1, h2, h3⟩ := hst
  have H1 := Lib.hid h1
  have H2 := Lib.hid h2
  have H3 := Lib.hid h3
  obtain ⟨af, cf, rfl, hf1, hf2, _⟩ := h1.files
  obtain ⟨a2, cs, rfl, hs1, hs2, _⟩ := h2.files
  obtain ⟨ag, cg, rfl, hg1, hg2, _⟩ := h3.texts
  clear h1 h2 h3 hm
  unfold maxLen at hf2 hs2 hg2
  obtain ⟨wa, hwa⟩ : ∃ wa, wa = (w.alloc (.cells #[.slice af s.files.length cf, .slice a2 s.staged.length cs, .slice ag s.gone.length cg] 29)).alloc (.cells #[.slice none 0 0, .slice none 0 0, .slice none 0 0] 29) := ⟨_, rfl⟩
  have hsz : wa.heap.size = w.heap.size + 2 := by rw [hwa]; simp
  have P0 : Hid (Blk3 wa w.heap.size 29 (.slice af s.files.length cf) (.slice a2 s.staged.length cs) (.slice ag s.gone.length cg)) := by rw [hwa]; exact Blk3.new.old _
  have R0 : Hid (Blk3 wa (w.heap.size + 1) 29 (.slice none 0 0) (.slice none 0 0) (.slice none 0 0)) := by
    rw [hwa]
    have := Blk3.new (w := w.alloc (.cells #[.slice af s.files.length cf, .slice a2 s.staged.length cs, .slice ag s.gone.length cg] 29)) (t := 29) (x := .slice none 0 0) (y := .slice none 0 0) (z := .slice none 0 0)
    simpa [Hid] using this
  have HA : Hid (Below w.heap.size w wa) := by rw [hwa]; exact ((Below.refl w.heap.size w).alloc (Nat.le_refl _) _).alloc (by simp) _
  obtain ⟨c0, c1, c2⟩ := P0.out.cells
  have HWA := Lib.hid hwa
  clear hwa
  rcases eg : goodS s with _ | _
  · have HC := Lib.hid (goodStore_m hx eg _ wa (HST.out.below HA.out) (HM.out.below HA.out))
    have HT : Hid (stFT s n b = noStore) := by rw [stFT, eg]; rfl
    have HT2 : Hid (stFB s n b = false) := by rw [stFB, eg]; rfl
    rw [HT.out, HT2.out]
    clear eg HT HT2 hx
    go_enter Tryz.func8, Tryz.ntmps8
    go_wp2_with fail
    rw [← HWA.out]
    refine HC.out.mono ?_
    rintro e w1 ⟨rfl, hb1⟩
    have HB1 := Lib.hid hb1
    have R1 := Lib.hid (R0.out.below hb1 (by omega))
    obtain ⟨k0, k1, k2⟩ := R1.out.cells
    have z0 := R1.out.soft 0
    have z1 := R1.out.soft 1
    have z2 := R1.out.soft 2
    clear hb1
    go_wp2_with fail
    have Z := ((R1.out.set0 (.slice none 0 0)).set1 (.slice none 0 0)).set2 (.slice none 0 0)
    refine bodyPost_ret (results_cell2 rfl rfl (load_store Z.cells.1 Z.cells.2.1 Z.cells.2.2)) rfl ?_
    refine ⟨_, rfl, noStore_own _ _, ?_⟩
    have HW := HA.out.trans (HB1.out.mono HA.out.size)
    exact ((HW.setCell (p := ⟨w.heap.size + 1, 0, none⟩) (Nat.le_succ _) _).setCell (p := ⟨w.heap.size + 1, 1, none⟩) (Nat.le_succ _) _).setCell (p := ⟨w.heap.size + 1, 2, none⟩) (Nat.le_succ _) _
  · have HC := Lib.hid (goodStore_m hx eg _ wa (HST.out.below HA.out) (HM.out.below HA.out))
    have HT : Hid (stFT s n b = tellT (stageFT s n b)) := by rw [stFT, eg]; rfl
    have HT2 : Hid (stFB s n b = goodS (stageFT s n b)) := by rw [stFB, eg]; rfl
    have HG := Lib.hid (goodS_files eg)
    have HGN : Hid (RiseM s.gone) := by
      have := eg
      rw [goodS_parts] at this
      simp only [Bool.and_eq_true, decide_eq_true_iff] at this
      have h1 := this.2.2.2.1
      rw [namesOk, Bool.and_eq_true, riseN_iff] at h1
      exact h1.2
    rw [HT.out, HT2.out]
    obtain ⟨l1, l2, l3⟩ := good_sizes eg
    have HFT := Lib.hid (stageFT_fits hx hn hb)
    have e0 : s.staged.foldl putF [] = s.staged := by
      have := fill_is (good_rise HG.out.2.1) s.staged.length
      rwa [List.take_of_length_le (Nat.le_refl _)] at this
    have HBO := Lib.hid (fun W (hr : RowF W (.slice a2 s.staged.length cs) s.staged) => bodiesOf_any s.staged (.slice a2 s.staged.length cs) W hr HFX.out.2.1 (by omega))
    rw [e0] at HBO
    have HSN := Lib.hid (fun W (hr : RowV W (.slice ag s.gone.length cg) (S s.gone)) => setOfNames_any s.gone (.slice ag s.gone.length cg) W hr HFX.out.2.2 (by omega))
    rw [fillN_is HGN.out] at HSN
    have hlen1 : (stageFT s n b).staged.length ≤ 1000 := by have := putF_len s.staged (n, b); show (putF s.staged (n, b)).length ≤ 1000; omega
    have hlen2 : (stageFT s n b).gone.length ≤ 1000 := by have := dropN_len s.gone n; show (dropN s.gone n).length ≤ 1000; omega
    have HON := Lib.hid (fun W b1 n1 b2 n2 (hf : RowF W (.slice af s.files.length cf) s.files) (hm1 : MapF W b1 n1 (putF s.staged (n, b))) (hm2 : MapN W b2 n2 (dropN s.gone n)) (hmx : MaxAt W) => onSide_any (stageFT s n b) (.slice af s.files.length cf) b1 n1 b2 n2 W hf hm1 hm2 HFT.out hmx hlen1 hlen2)
    generalize tellT (stageFT s n b) = t at HON ⊢
    generalize goodS (stageFT s n b) = okk at HON ⊢
    clear eg HT HT2 hx e0 hlen1 hlen2
    go_enter Tryz.func8, Tryz.ntmps8
    go_wp2_with fail
    rw [← HWA.out]
    refine HC.out.mono ?_
    rintro e w1 ⟨rfl, hb1⟩
    have hb1d : Below wa.heap.size wa w1.drew := Below.drew hb1
    have HW1 := Lib.hid (bth HA.out hb1d)
    have P1 := Lib.hid (P0.out.below hb1d (by omega))
    have R1 := Lib.hid (R0.out.below hb1d (by omega))
    have s1 : w.heap.size + 2 ≤ w1.drew.heap.size := by have := hb1d.size; omega
    have ks : Hid (D3 w.heap.size w1.drew (.slice af s.files.length cf) (.slice a2 s.staged.length cs) (.slice ag s.gone.length cg)) := P1.out.cells
    clear hb1 hb1d HC c0 c1 c2 HWA P0 R0
    go_wp2_with fail
    go_region_held3 (fun w' => w'.cell? ⟨w.heap.size, 0, none⟩ = some (.slice af s.files.length cf) ∧ w'.cell? ⟨w.heap.size, 1, none⟩ = some (.slice a2 s.staged.length cs) ∧ w'.cell? ⟨w.heap.size, 2, none⟩ = some (.slice ag s.gone.length cg)) (first | exact ks.out)
      (first
        | (go_at_call 23; refine (HBO.out _ (H2.out.below HW1.out)).mono ?_; rintro e w2 ⟨rfl, hm2, hb2⟩
           have HM2 := Lib.hid hm2
           have HW2 := Lib.hid (bth HW1.out hb2)
           have P2 := Lib.hid (P1.out.below hb2 (lt_of_block P1.out))
           have R2 := Lib.hid (R1.out.below hb2 (lt_of_block R1.out))
           have s2 := Nat.le_trans s1 hb2.size
           have hlt2 := hm2.lt
           have kt := Lib.hid (ks.out.below hb2)
           clear ks
           have ks := kt
           clear kt hm2 hb2)
        | (go_at_call 24; refine (HSN.out _ (H3.out.below HW2.out)).mono ?_; rintro e w3 ⟨rfl, hm3, hb3⟩
           have HM3 := Lib.hid hm3
           have HF3 := Lib.hid (HM2.out.below hb3)
           have HW3 := Lib.hid (bth HW2.out hb3)
           have P3 := Lib.hid (P2.out.below hb3 (lt_of_block P2.out))
           have R3 := Lib.hid (R2.out.below hb3 (lt_of_block R2.out))
           have s3 := Nat.le_trans s2 hb3.size
           have kt := Lib.hid (ks.out.below hb3)
           clear ks
           have ks := kt
           clear kt hm3 hb3))
    all_goals
      clear ks P1 R1 P2 R2 HW1 HW2 HM2
      have s1' : w.heap.size + 2 ≤ w1.heap.size := s1
      have hlt2' : w1.heap.size < w2.heap.size := hlt2
      have HF3' : Hid (MapF w3 w1.heap.size s.staged.length s.staged) := HF3.out
      clear HF3 s1 hlt2
      have hmn : w1.heap.size ≠ w2.heap.size := by omega
      have hw1 : w.heap.size ≠ w1.heap.size := by omega
      have hw2 : w.heap.size ≠ w2.heap.size := by omega
      have hw3 : w.heap.size + 1 ≠ w1.heap.size := by omega
      have hw4 : w.heap.size + 1 ≠ w2.heap.size := by omega
      have hw5 : w.heap.size ≤ w1.heap.size := by omega
      have hw6 : w.heap.size ≤ w2.heap.size := by omega
      go_wp2_with (first
        | (at_mapUpdate; refine wpPutF _ rfl _ _ _ rfl w1.heap.size s.staged.length s.staged rfl HF3'.out (by omega) n b rfl rfl HLn.out HLb.out ?_; intro w4 hm4 hg4
           have HW4 := Lib.hid (HW3.out.grown hg4 HW3.out.size (fun j hj => by cases hj; exact hw5))
           have P4 := Lib.hid (show Blk3 w4 w.heap.size _ _ _ _ from (hg4.block w.heap.size (lt_of_block P3.out) (by simp; exact hw1)).trans P3.out)
           have R4 := Lib.hid (show Blk3 w4 (w.heap.size + 1) _ _ _ _ from (hg4.block (w.heap.size + 1) (lt_of_block R3.out) (by simp; exact hw3)).trans R3.out)
           have HF4 := Lib.hid hm4
           have HM4 := Lib.hid (HM3.out.kept hg4 (by simp; exact fun e => hmn e.symm))
           have s4 := Nat.le_trans s3 hg4.size
           clear hm4 hg4)
        | (at_delete; refine wpDelN _ rfl _ _ rfl w2.heap.size s.gone.length s.gone rfl HM4.out n rfl HLn.out ?_; intro w5 hm5 hg5
           have HW5 := Lib.hid (HW4.out.grown hg5 HW4.out.size (fun j hj => by cases hj; exact hw6))
           have P5 := Lib.hid (show Blk3 w5 w.heap.size _ _ _ _ from (hg5.block w.heap.size (lt_of_block P4.out) (by simp; exact hw2)).trans P4.out)
           have R5 := Lib.hid (show Blk3 w5 (w.heap.size + 1) _ _ _ _ from (hg5.block (w.heap.size + 1) (lt_of_block R4.out) (by simp; exact hw4)).trans R4.out)
           have HM5 := Lib.hid hm5
           have HF5 := Lib.hid (HF4.out.kept hg5 (by simp; exact hmn))
           have s5 := Nat.le_trans s4 hg5.size
           have p0 := P5.out.cells.1
           clear hm5 hg5))
      obtain ⟨c0, c1, c2⟩ := P5.out.cells
      go_wp2_with fail
      refine (HON.out w5 w1.heap.size _ w2.heap.size _ (H1.out.below HW5.out) HF5.out HM5.out (HM.out.below HW5.out)).mono ?_
      rintro e w6 ⟨v6, rfl, ho6, hb6⟩
      have HW6 := Lib.hid (bth HW5.out hb6)
      have R6 := Lib.hid (R5.out.below hb6 (lt_of_block R5.out))
      have hz : w.heap.size + 2 ≤ w5.heap.size := by omega
      have HO6 := Lib.hid (ho6.base hz)
      obtain ⟨a3, c3, a7, c7, a11, c11, hv6⟩ := ho6.slices3
      subst hv6
      obtain ⟨k0, k1, k2⟩ := R6.out.cells
      have z0 := R6.out.soft 0
      have z1 := R6.out.soft 1
      have z2 := R6.out.soft 2
      clear ho6 hb6 c0 c1 c2
      go_wp2_with fail
      have Z := ((R6.out.set0 (.slice a3 t.files.length c3)).set1 (.slice a7 t.staged.length c7)).set2 (.slice a11 t.gone.length c11)
      refine bodyPost_ret (results_cell2 rfl rfl (load_store Z.cells.1 Z.cells.2.1 Z.cells.2.2)) rfl ?_
      have q1 : w.heap.size + 1 < w.heap.size + 2 := by omega
      refine ⟨_, rfl, (((HO6.out.set (p := ⟨w.heap.size + 1, 0, none⟩) q1 _).set (p := ⟨w.heap.size + 1, 1, none⟩) q1 _).set (p := ⟨w.heap.size + 1, 2, none⟩) q1 _).base (by omega), ?_⟩
      exact ((HW6.out.setCell (p := ⟨w.heap.size + 1, 0, none⟩) (Nat.le_succ _) _).setCell (p := ⟨w.heap.size + 1, 1, none⟩) (Nat.le_succ _) _).setCell (p := ⟨w.heap.size + 1, 2, none⟩) (Nat.le_succ _) _

set_option maxRecDepth 20000 in
set_option maxHeartbeats 16000000 in
theorem implStageGone_any (s : StoreT) (n : List UInt8) (v : Value) (w : World) (hst : StoreV w v s) (hx : Fits s) (hn : n.length ≤ maxLen) (hm : MaxAt w) :
    Calls Tryz.prog 13 #[v, .string ⟨n.toArray⟩] w (StoreBOk (stGT s n) (stGB s n) w) := by
  have HLn := Lib.hid hn
  have HST := Lib.hid hst
  have HFX := Lib.hid hx
  have HM := Lib.hid hm
  obtain ⟨vf, vs, vg, rfl, h1, h2, h3⟩ := hst
  have H1 := Lib.hid h1
  have H2 := Lib.hid h2
  have H3 := Lib.hid h3
  obtain ⟨af, cf, rfl, hf1, hf2, _⟩ := h1.files
  obtain ⟨a2, cs, rfl, hs1, hs2, _⟩ := h2.files
  obtain ⟨ag, cg, rfl, hg1, hg2, _⟩ := h3.texts
  clear h1 h2 h3 hm
  unfold maxLen at hf2 hs2 hg2
  obtain ⟨wa, hwa⟩ : ∃ wa, wa = (w.alloc (.cells #[.slice af s.files.length cf, .slice a2 s.staged.length cs, .slice ag s.gone.length cg] 29)).alloc (.cells #[.slice none 0 0, .slice none 0 0, .slice none 0 0] 29) := ⟨_, rfl⟩
  have hsz : wa.heap.size = w.heap.size + 2 := by rw [hwa]; simp
  have P0 : Hid (Blk3 wa w.heap.size 29 (.slice af s.files.length cf) (.slice a2 s.staged.length cs) (.slice ag s.gone.length cg)) := by rw [hwa]; exact Blk3.new.old _
  have R0 : Hid (Blk3 wa (w.heap.size + 1) 29 (.slice none 0 0) (.slice none 0 0) (.slice none 0 0)) := by
    rw [hwa]
    have := Blk3.new (w := w.alloc (.cells #[.slice af s.files.length cf, .slice a2 s.staged.length cs, .slice ag s.gone.length cg] 29)) (t := 29) (x := .slice none 0 0) (y := .slice none 0 0) (z := .slice none 0 0)
    simpa [Hid] using this
  have HA : Hid (Below w.heap.size w wa) := by rw [hwa]; exact ((Below.refl w.heap.size w).alloc (Nat.le_refl _) _).alloc (by simp) _
  obtain ⟨c0, c1, c2⟩ := P0.out.cells
  have HWA := Lib.hid hwa
  clear hwa
  rcases eg : goodS s with _ | _
  · have HC := Lib.hid (goodStore_m hx eg _ wa (HST.out.below HA.out) (HM.out.below HA.out))
    have HT : Hid (stGT s n = noStore) := by rw [stGT, eg]; rfl
    have HT2 : Hid (stGB s n = false) := by rw [stGB, eg]; rfl
    rw [HT.out, HT2.out]
    clear eg HT HT2 hx
    go_enter Tryz.func13, Tryz.ntmps13
    go_wp2_with fail
    rw [← HWA.out]
    refine HC.out.mono ?_
    rintro e w1 ⟨rfl, hb1⟩
    have HB1 := Lib.hid hb1
    have R1 := Lib.hid (R0.out.below hb1 (by omega))
    obtain ⟨k0, k1, k2⟩ := R1.out.cells
    have z0 := R1.out.soft 0
    have z1 := R1.out.soft 1
    have z2 := R1.out.soft 2
    clear hb1
    go_wp2_with fail
    have Z := ((R1.out.set0 (.slice none 0 0)).set1 (.slice none 0 0)).set2 (.slice none 0 0)
    refine bodyPost_ret (results_cell2 rfl rfl (load_store Z.cells.1 Z.cells.2.1 Z.cells.2.2)) rfl ?_
    refine ⟨_, rfl, noStore_own _ _, ?_⟩
    have HW := HA.out.trans (HB1.out.mono HA.out.size)
    exact ((HW.setCell (p := ⟨w.heap.size + 1, 0, none⟩) (Nat.le_succ _) _).setCell (p := ⟨w.heap.size + 1, 1, none⟩) (Nat.le_succ _) _).setCell (p := ⟨w.heap.size + 1, 2, none⟩) (Nat.le_succ _) _
  · have HC := Lib.hid (goodStore_m hx eg _ wa (HST.out.below HA.out) (HM.out.below HA.out))
    have HT : Hid (stGT s n = tellT (stageGT s n)) := by rw [stGT, eg]; rfl
    have HT2 : Hid (stGB s n = goodS (stageGT s n)) := by rw [stGB, eg]; rfl
    have HG := Lib.hid (goodS_files eg)
    have HGN : Hid (RiseM s.gone) := by
      have := eg
      rw [goodS_parts] at this
      simp only [Bool.and_eq_true, decide_eq_true_iff] at this
      have h1 := this.2.2.2.1
      rw [namesOk, Bool.and_eq_true, riseN_iff] at h1
      exact h1.2
    rw [HT.out, HT2.out]
    obtain ⟨l1, l2, l3⟩ := good_sizes eg
    have HFT := Lib.hid (stageGT_fits hx hn)
    have e0 : s.staged.foldl putF [] = s.staged := by
      have := fill_is (good_rise HG.out.2.1) s.staged.length
      rwa [List.take_of_length_le (Nat.le_refl _)] at this
    have HBO := Lib.hid (fun W (hr : RowF W (.slice a2 s.staged.length cs) s.staged) => bodiesOf_any s.staged (.slice a2 s.staged.length cs) W hr HFX.out.2.1 (by omega))
    rw [e0] at HBO
    have HSN := Lib.hid (fun W (hr : RowV W (.slice ag s.gone.length cg) (S s.gone)) => setOfNames_any s.gone (.slice ag s.gone.length cg) W hr HFX.out.2.2 (by omega))
    rw [fillN_is HGN.out] at HSN
    have hlen1 : (stageGT s n).staged.length ≤ 1000 := by have := dropF_len s.staged n; show (dropF s.staged n).length ≤ 1000; omega
    have hlen2 : (stageGT s n).gone.length ≤ 1000 := by have := putN_len s.gone n; show (putN s.gone n).length ≤ 1000; omega
    have HON := Lib.hid (fun W b1 n1 b2 n2 (hf : RowF W (.slice af s.files.length cf) s.files) (hm1 : MapF W b1 n1 (dropF s.staged n)) (hm2 : MapN W b2 n2 (putN s.gone n)) (hmx : MaxAt W) => onSide_any (stageGT s n) (.slice af s.files.length cf) b1 n1 b2 n2 W hf hm1 hm2 HFT.out hmx hlen1 hlen2)
    generalize tellT (stageGT s n) = t at HON ⊢
    generalize goodS (stageGT s n) = okk at HON ⊢
    clear eg HT HT2 hx e0 hlen1 hlen2
    go_enter Tryz.func13, Tryz.ntmps13
    go_wp2_with fail
    rw [← HWA.out]
    refine HC.out.mono ?_
    rintro e w1 ⟨rfl, hb1⟩
    have hb1d : Below wa.heap.size wa w1.drew := Below.drew hb1
    have HW1 := Lib.hid (bth HA.out hb1d)
    have P1 := Lib.hid (P0.out.below hb1d (by omega))
    have R1 := Lib.hid (R0.out.below hb1d (by omega))
    have s1 : w.heap.size + 2 ≤ w1.drew.heap.size := by have := hb1d.size; omega
    have ks : Hid (D3 w.heap.size w1.drew (.slice af s.files.length cf) (.slice a2 s.staged.length cs) (.slice ag s.gone.length cg)) := P1.out.cells
    clear hb1 hb1d HC c0 c1 c2 HWA P0 R0
    go_wp2_with fail
    go_region_held3 (fun w' => w'.cell? ⟨w.heap.size, 0, none⟩ = some (.slice af s.files.length cf) ∧ w'.cell? ⟨w.heap.size, 1, none⟩ = some (.slice a2 s.staged.length cs) ∧ w'.cell? ⟨w.heap.size, 2, none⟩ = some (.slice ag s.gone.length cg)) (first | exact ks.out)
      (first
        | (go_at_call 23; refine (HBO.out _ (H2.out.below HW1.out)).mono ?_; rintro e w2 ⟨rfl, hm2, hb2⟩
           have HM2 := Lib.hid hm2
           have HW2 := Lib.hid (bth HW1.out hb2)
           have P2 := Lib.hid (P1.out.below hb2 (lt_of_block P1.out))
           have R2 := Lib.hid (R1.out.below hb2 (lt_of_block R1.out))
           have s2 := Nat.le_trans s1 hb2.size
           have hlt2 := hm2.lt
           have kt := Lib.hid (ks.out.below hb2)
           clear ks
           have ks := kt
           clear kt hm2 hb2)
        | (go_at_call 24; refine (HSN.out _ (H3.out.below HW2.out)).mono ?_; rintro e w3 ⟨rfl, hm3, hb3⟩
           have HM3 := Lib.hid hm3
           have HF3 := Lib.hid (HM2.out.below hb3)
           have HW3 := Lib.hid (bth HW2.out hb3)
           have P3 := Lib.hid (P2.out.below hb3 (lt_of_block P2.out))
           have R3 := Lib.hid (R2.out.below hb3 (lt_of_block R2.out))
           have s3 := Nat.le_trans s2 hb3.size
           have kt := Lib.hid (ks.out.below hb3)
           clear ks
           have ks := kt
           clear kt hm3 hb3))
    all_goals
      clear ks P1 R1 P2 R2 HW1 HW2 HM2
      have s1' : w.heap.size + 2 ≤ w1.heap.size := s1
      have hlt2' : w1.heap.size < w2.heap.size := hlt2
      have HF3' : Hid (MapF w3 w1.heap.size s.staged.length s.staged) := HF3.out
      clear HF3 s1 hlt2
      have hmn : w1.heap.size ≠ w2.heap.size := by omega
      have hw1 : w.heap.size ≠ w1.heap.size := by omega
      have hw2 : w.heap.size ≠ w2.heap.size := by omega
      have hw3 : w.heap.size + 1 ≠ w1.heap.size := by omega
      have hw4 : w.heap.size + 1 ≠ w2.heap.size := by omega
      have hw5 : w.heap.size ≤ w1.heap.size := by omega
      have hw6 : w.heap.size ≤ w2.heap.size := by omega
      go_wp2_with (first
        | (at_delete; refine wpDelF _ rfl _ _ rfl w1.heap.size s.staged.length s.staged rfl HF3'.out n rfl HLn.out ?_; intro w4 hm4 hg4
           have HW4 := Lib.hid (HW3.out.grown hg4 HW3.out.size (fun j hj => by cases hj; exact hw5))
           have P4 := Lib.hid (show Blk3 w4 w.heap.size _ _ _ _ from (hg4.block w.heap.size (lt_of_block P3.out) (by simp; exact hw1)).trans P3.out)
           have R4 := Lib.hid (show Blk3 w4 (w.heap.size + 1) _ _ _ _ from (hg4.block (w.heap.size + 1) (lt_of_block R3.out) (by simp; exact hw3)).trans R3.out)
           have HF4 := Lib.hid hm4
           have HM4 := Lib.hid (HM3.out.kept hg4 (by simp; exact fun e => hmn e.symm))
           have s4 := Nat.le_trans s3 hg4.size
           clear hm4 hg4)
        | (at_mapUpdate; refine wpPutN _ rfl _ _ _ rfl w2.heap.size s.gone.length s.gone rfl HM4.out (by omega) n rfl rfl HLn.out ?_; intro w5 hm5 hg5
           have HW5 := Lib.hid (HW4.out.grown hg5 HW4.out.size (fun j hj => by cases hj; exact hw6))
           have P5 := Lib.hid (show Blk3 w5 w.heap.size _ _ _ _ from (hg5.block w.heap.size (lt_of_block P4.out) (by simp; exact hw2)).trans P4.out)
           have R5 := Lib.hid (show Blk3 w5 (w.heap.size + 1) _ _ _ _ from (hg5.block (w.heap.size + 1) (lt_of_block R4.out) (by simp; exact hw4)).trans R4.out)
           have HM5 := Lib.hid hm5
           have HF5 := Lib.hid (HF4.out.kept hg5 (by simp; exact hmn))
           have s5 := Nat.le_trans s4 hg5.size
           have p0 := P5.out.cells.1
           clear hm5 hg5))
      obtain ⟨c0, c1, c2⟩ := P5.out.cells
      go_wp2_with fail
      refine (HON.out w5 w1.heap.size _ w2.heap.size _ (H1.out.below HW5.out) HF5.out HM5.out (HM.out.below HW5.out)).mono ?_
      rintro e w6 ⟨v6, rfl, ho6, hb6⟩
      have HW6 := Lib.hid (bth HW5.out hb6)
      have R6 := Lib.hid (R5.out.below hb6 (lt_of_block R5.out))
      have hz : w.heap.size + 2 ≤ w5.heap.size := by omega
      have HO6 := Lib.hid (ho6.base hz)
      obtain ⟨a3, c3, a7, c7, a11, c11, hv6⟩ := ho6.slices3
      subst hv6
      obtain ⟨k0, k1, k2⟩ := R6.out.cells
      have z0 := R6.out.soft 0
      have z1 := R6.out.soft 1
      have z2 := R6.out.soft 2
      clear ho6 hb6 c0 c1 c2
      go_wp2_with fail
      have Z := ((R6.out.set0 (.slice a3 t.files.length c3)).set1 (.slice a7 t.staged.length c7)).set2 (.slice a11 t.gone.length c11)
      refine bodyPost_ret (results_cell2 rfl rfl (load_store Z.cells.1 Z.cells.2.1 Z.cells.2.2)) rfl ?_
      have q1 : w.heap.size + 1 < w.heap.size + 2 := by omega
      refine ⟨_, rfl, (((HO6.out.set (p := ⟨w.heap.size + 1, 0, none⟩) q1 _).set (p := ⟨w.heap.size + 1, 1, none⟩) q1 _).set (p := ⟨w.heap.size + 1, 2, none⟩) q1 _).base (by omega), ?_⟩
      exact ((HW6.out.setCell (p := ⟨w.heap.size + 1, 0, none⟩) (Nat.le_succ _) _).setCell (p := ⟨w.heap.size + 1, 1, none⟩) (Nat.le_succ _) _).setCell (p := ⟨w.heap.size + 1, 2, none⟩) (Nat.le_succ _) _

end Go.Proofs.YtgcaplbeahjbmaaGreatDoor

/- The laws that what is staged and what is discarded is told alike. -/
namespace Go.Proofs.YtgcaplbeahjbmaaGreatDoor
open Go.RowKit Pth

theorem discardL_is (s : StoreT) : discardL s = discardT s := rfl
theorem discardL_small (s : StoreT) : (discardL s).files.length + (discardL s).staged.length + (discardL s).gone.length ≤ 1000 := by
  unfold discardL
  split
  · rename_i h
    have := good_len (goodS_files h).1
    show s.files.length + 0 + 0 ≤ 1000
    omega
  · show 0 + 0 + 0 ≤ 1000
    omega
theorem exactStageFile_any (s : StoreT) (n b : List UInt8) (v : Value) (w : World) (hst : StoreV w v s) (hx : Fits s) (hn : n.length ≤ maxLen) (hb : b.length ≤ maxLen) (hm : MaxAt w) : Calls Tryz.prog 3 #[v, .string ⟨n.toArray⟩, .string ⟨b.toArray⟩] w (YesP w) :=
  exactStageFile_of s n b (stFT s n b) (stFB s n b) v w hst hx hn hb hm (stFT_small s n b) (fun W u h => specStageFile_any s n b u W h hx hn hb) (fun W u h hm => implStageFile_any s n b u W h hx hn hb hm)
theorem exactStageGone_any (s : StoreT) (n : List UInt8) (v : Value) (w : World) (hst : StoreV w v s) (hx : Fits s) (hn : n.length ≤ maxLen) (hm : MaxAt w) : Calls Tryz.prog 4 #[v, .string ⟨n.toArray⟩] w (YesP w) :=
  exactStageGone_of s n (stGT s n) (stGB s n) v w hst hx hn hm (stGT_small s n) (fun W u h => specStageGone_any s n u W h hx hn) (fun W u h hm => implStageGone_any s n u W h hx hn hm)

end Go.Proofs.YtgcaplbeahjbmaaGreatDoor
