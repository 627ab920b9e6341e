/- Texts of one claim, joined in their order. -/
import Derived.Test.YtoahfhidekmodaaDoorM5
import Derived.Test.YtoahfhidekmodaaDoorM4
import Derived.Test.YtoahfhidekmodaaDoorM3

/- Walks: the program's good stores. -/
namespace Go.Proofs.YtoahfhidekmodaaDoor
open Go.RowKit Go.Maps Pth

theorem find_has (l : List FileT) (n : List UInt8) : findF l n = -1 ↔ hasF l n = false := by
  constructor
  · intro h
    have := find_miss h
    rw [hasF, List.any_eq_false]
    intro f hf
    simpa using this f hf
  · intro h
    rw [hasF, List.any_eq_false] at h
    exact find_none (fun f hf => by simpa using h f hf)
theorem good_rise {l : List FileT} (h : goodF l = true) : RiseF l := by
  rw [riseF_iff]
  rw [goodF_parts, Bool.and_eq_true, namesOk, Bool.and_eq_true] at h
  exact h.1.2
theorem goodS_parts (s : StoreT) : goodS s = (goodF s.files && (goodF s.staged && (decide (s.gone.length ≤ 12) && (namesOk s.gone && (s.gone.all (fun n => !hasF s.staged n) && goodF (takenF s)))))) := by
  have e : goneOk s = (namesOk s.gone && s.gone.all (fun n => !hasF s.staged n)) := by
    have e1 : s.gone.all (fun n => nameOk n && decide (findF s.staged n = -1)) = (s.gone.all nameOk && s.gone.all (fun n => !hasF s.staged n)) := by
      induction s.gone with
      | nil => rfl
      | cons n t ih =>
        rw [List.all_cons, List.all_cons, List.all_cons, ih]
        have : decide (findF s.staged n = -1) = !hasF s.staged n := by
          rcases h : hasF s.staged n with _ | _
          · exact decide_eq_true ((find_has _ _).2 h)
          · exact decide_eq_false (fun e => by rw [(find_has _ _).1 e] at h; cases h)
        rw [this]
        cases nameOk n <;> cases hasF s.staged n <;> simp
    rw [goneOk, namesOk, e1]
    cases s.gone.all nameOk <;> cases riseN s.gone <;> simp
  rw [goodS, e]
  cases namesOk s.gone <;> simp

theorem goodFiles_m {b : Bool} {l : List FileT} {v : Value} (hx : ∀ f ∈ l, f.1.length ≤ maxLen ∧ f.2.length ≤ maxLen) (h : goodF l = b) : ∀ w, RowF w v l → MaxAt w → Calls Tryd.prog 10 #[v] w (BoolPost b w) := fun w hr hm => by
  have := implGoodFiles_any l v w hr hx hm
  rwa [h] at this
theorem areNames_m {b : Bool} {l : List (List UInt8)} {v : Value} (hx : ∀ n ∈ l, n.length ≤ maxLen) (h : namesOk l = b) : ∀ w, RowV w v (S l) → MaxAt w → Calls Tryd.prog 24 #[v] w (BoolPost b w) := fun w hr hm => by
  have := areNames_any l v w hr hx hm
  rwa [h] at this
theorem taken_fits {s : StoreT} (hx : Fits s) : ∀ f ∈ takenF s, f.1.length ≤ maxLen ∧ f.2.length ≤ maxLen := fun f hf => by
  rcases mem_taken hf with h | h
  · exact hx.2.1 f h
  · exact hx.1 f h
theorem taken_len (s : StoreT) : (takenF s).length ≤ s.files.length + s.staged.length := by
  have h1 := foldl_put_len s.staged s.files
  have h2 : ∀ (g : List (List UInt8)) (m : List FileT), (g.foldl dropF m).length ≤ m.length := by
    intro g
    induction g with
    | nil => intro m; exact Nat.le_refl _
    | cons n t ih => intro m; exact Nat.le_trans (ih _) (dropF_len m n)
  exact Nat.le_trans (h2 _ _) h1

set_option maxRecDepth 20000 in
set_option maxHeartbeats 8000000 in
theorem implGoodStore_any (s : StoreT) (v : Value) (w : World) (hst : StoreV w v s) (hx : Fits s) (hm : MaxAt w) :
    Calls Tryd.prog 15 #[v] w (BoolPost (goodS s) w) := by
  have HST := Lib.hid hst
  have HFX := Lib.hid hx
  have HM := Lib.hid hm
  obtain ⟨vf, vs, vg, rfl, h1, h2, h3⟩ := hst
  have H1 := Lib.hid h1
  have H2 := Lib.hid h2
  have H3 := Lib.hid h3
  obtain ⟨af, cf, rfl, hf1, hf2, _⟩ := h1.files
  obtain ⟨a2, cs, rfl, hs1, hs2, _⟩ := h2.files
  obtain ⟨ag, cg, rfl, hg1, hg2, hat3⟩ := h3.texts
  clear h1 h2 h3 hm
  unfold maxLen at hf2 hs2 hg2
  obtain ⟨hx1, hx2, hx3⟩ := hx
  obtain ⟨wa, hwa⟩ : ∃ wa, wa = w.alloc (.cells #[.slice af s.files.length cf, .slice a2 s.staged.length cs, .slice ag s.gone.length cg] 35) := ⟨_, rfl⟩
  have hsz : wa.heap.size = w.heap.size + 1 := by rw [hwa]; simp
  have P0 : Hid (Blk3 wa w.heap.size 35 (.slice af s.files.length cf) (.slice a2 s.staged.length cs) (.slice ag s.gone.length cg)) := by rw [hwa]; exact Blk3.new
  have HA : Hid (Below w.heap.size w wa) := by rw [hwa]; exact (Below.refl w.heap.size w).alloc (Nat.le_refl _) _
  have HMA := Lib.hid (HM.out.below HA.out)
  have hlt0 : w.heap.size < wa.heap.size := by omega
  obtain ⟨c0, c1, c2⟩ := P0.out.cells
  have HWA := Lib.hid hwa
  clear hwa
  have HTP := Lib.hid (goodS_parts s)
  rcases e1 : goodF s.files with _ | _
  · have HT : Hid (goodS s = false) := by show _ = _; rw [HTP.out, e1]; rfl
    have HC := Lib.hid (goodFiles_m hx1 e1 wa (H1.out.below HA.out) HMA.out)
    clear hat3 hx1 hx2 hx3 e1 HTP
    go_enter Tryd.func15, Tryd.ntmps15
    go_wp2_with fail
    rw [← HWA.out]
    refine HC.out.mono ?_
    rintro e w1 ⟨rfl, hb1⟩
    have HB1 := Lib.hid (HA.out.trans (hb1.mono HA.out.size))
    clear hb1 HC
    go_wp2_with fail
    go_ret
    exact ⟨ret_bool HT.out.symm, HB1.out⟩
  · have HC1 := Lib.hid (goodFiles_m hx1 e1 wa (H1.out.below HA.out) HMA.out)
    rcases e2 : goodF s.staged with _ | _
    · have HT : Hid (goodS s = false) := by show _ = _; rw [HTP.out, e1, e2]; rfl
      have HC2 := Lib.hid (goodFiles_m (v := .slice a2 s.staged.length cs) hx2 e2)
      clear hat3 hx1 hx2 hx3 e1 e2 HTP
      go_enter Tryd.func15, Tryd.ntmps15
      go_wp2_with fail
      rw [← HWA.out]
      refine HC1.out.mono ?_
      rintro e w1 ⟨rfl, hb1⟩
      have HB1 := Lib.hid (HA.out.trans (hb1.mono HA.out.size))
      have P1 := Lib.hid (P0.out.below hb1 hlt0)
      obtain ⟨d0, d1, d2⟩ := P1.out.cells
      clear hb1 HC1 c0 c1 c2
      go_wp2_with fail
      refine (HC2.out w1 (H2.out.below HB1.out) (HM.out.below HB1.out)).mono ?_
      rintro e w2 ⟨rfl, hb2⟩
      have HB2 := Lib.hid (bth HB1.out hb2)
      clear hb2 HC2
      go_wp2_with fail
      go_ret
      exact ⟨ret_bool HT.out.symm, HB2.out⟩
    · have HC2 := Lib.hid (goodFiles_m (v := .slice a2 s.staged.length cs) hx2 e2)
      by_cases h12 : 12 < s.gone.length
      · have hd : decide ((s.gone.length : Int) > 12) = true := decide_eq_true (by omega)
        have HT : Hid (goodS s = false) := by show _ = _; rw [HTP.out, e1, e2, decide_eq_false (by omega : ¬ s.gone.length ≤ 12)]; rfl
        clear hat3 hx1 hx2 hx3 e1 e2 HTP
        go_enter Tryd.func15, Tryd.ntmps15
        go_wp2_with fail
        rw [← HWA.out]
        refine HC1.out.mono ?_
        rintro e w1 ⟨rfl, hb1⟩
        have HB1 := Lib.hid (HA.out.trans (hb1.mono HA.out.size))
        have P1 := Lib.hid (P0.out.below hb1 hlt0)
        have hlt1 : w.heap.size < w1.heap.size := Nat.lt_of_lt_of_le hlt0 hb1.size
        obtain ⟨d0, d1, d2⟩ := P1.out.cells
        clear hb1 HC1 c0 c1 c2
        go_wp2_with fail
        refine (HC2.out w1 (H2.out.below HB1.out) (HM.out.below HB1.out)).mono ?_
        rintro e w2 ⟨rfl, hb2⟩
        have HB2 := Lib.hid (bth HB1.out hb2)
        have P2 := Lib.hid (P1.out.below hb2 hlt1)
        clear hb2 HC2 d0 d1 d2
        obtain ⟨d0, d1, d2⟩ := P2.out.cells
        go_wp2_with fail
        go_ret
        exact ⟨ret_bool HT.out.symm, HB2.out⟩
      · have hd : decide ((s.gone.length : Int) > 12) = false := decide_eq_false (by omega)
        rcases e3 : namesOk s.gone with _ | _
        · have HT : Hid (goodS s = false) := by show _ = _; rw [HTP.out, e1, e2, e3]; simp
          have HC3 := Lib.hid (areNames_m (v := .slice ag s.gone.length cg) hx3 e3)
          clear hat3 hx1 hx2 hx3 e1 e2 e3 HTP
          go_enter Tryd.func15, Tryd.ntmps15
          go_wp2_with fail
          rw [← HWA.out]
          refine HC1.out.mono ?_
          rintro e w1 ⟨rfl, hb1⟩
          have HB1 := Lib.hid (HA.out.trans (hb1.mono HA.out.size))
          have P1 := Lib.hid (P0.out.below hb1 hlt0)
          have hlt1 : w.heap.size < w1.heap.size := Nat.lt_of_lt_of_le hlt0 hb1.size
          obtain ⟨d0, d1, d2⟩ := P1.out.cells
          clear hb1 HC1 c0 c1 c2
          go_wp2_with fail
          refine (HC2.out w1 (H2.out.below HB1.out) (HM.out.below HB1.out)).mono ?_
          rintro e w2 ⟨rfl, hb2⟩
          have HB2 := Lib.hid (bth HB1.out hb2)
          have P2 := Lib.hid (P1.out.below hb2 hlt1)
          clear hb2 HC2 d0 d1 d2
          obtain ⟨d0, d1, d2⟩ := P2.out.cells
          go_wp2_with fail
          refine (HC3.out w2 (H3.out.below HB2.out) (HM.out.below HB2.out)).mono ?_
          rintro e w3 ⟨rfl, hb3⟩
          have HB3 := Lib.hid (bth HB2.out hb3)
          clear hb3 HC3
          go_wp2_with fail
          go_ret
          exact ⟨ret_bool HT.out.symm, HB3.out⟩
        · have HT : Hid (goodS s = (s.gone.all (fun n => !hasF s.staged n) && goodF (takenF s))) := by show _ = _; rw [HTP.out, e1, e2, e3, decide_eq_true (by omega : s.gone.length ≤ 12)]; simp
          have HC3 := Lib.hid (areNames_m (v := .slice ag s.gone.length cg) hx3 e3)
          have hlf := good_len e1
          have hls := good_len e2
          have HR1 := Lib.hid (good_rise e1)
          have HR2 := Lib.hid (good_rise e2)
          have HX2 := Lib.hid hx2
          have HX3 := Lib.hid hx3
          clear hx1 hx2 hx3 e1 e2 e3 HTP
          go_enter Tryd.func15, Tryd.ntmps15
          go_wp2_with fail
          rw [← HWA.out]
          refine HC1.out.mono ?_
          rintro e w1 ⟨rfl, hb1⟩
          have HB1 := Lib.hid (HA.out.trans (hb1.mono HA.out.size))
          have P1 := Lib.hid (P0.out.below hb1 hlt0)
          have hlt1 : w.heap.size < w1.heap.size := Nat.lt_of_lt_of_le hlt0 hb1.size
          obtain ⟨d0, d1, d2⟩ := P1.out.cells
          clear hb1 HC1 c0 c1 c2
          go_wp2_with fail
          refine (HC2.out w1 (H2.out.below HB1.out) (HM.out.below HB1.out)).mono ?_
          rintro e w2 ⟨rfl, hb2⟩
          have HB2 := Lib.hid (bth HB1.out hb2)
          have P2 := Lib.hid (P1.out.below hb2 hlt1)
          have hlt2 : w.heap.size < w2.heap.size := Nat.lt_of_lt_of_le hlt1 hb2.size
          clear hb2 HC2 d0 d1 d2
          obtain ⟨d0, d1, d2⟩ := P2.out.cells
          go_wp2_with fail
          refine (HC3.out w2 (H3.out.below HB2.out) (HM.out.below HB2.out)).mono ?_
          rintro e w3 ⟨rfl, hb3⟩
          have HB3 := Lib.hid (bth HB2.out hb3)
          have P3 := Lib.hid (P2.out.below hb3 hlt2)
          have hlt3 : w.heap.size < w3.heap.size := Nat.lt_of_lt_of_le hlt2 hb3.size
          clear hb3 HC3 d0 d1 d2
          obtain ⟨d0, d1, d2⟩ := P3.out.cells
          have HC4 := Lib.hid (bodiesOf_any s.staged (.slice a2 s.staged.length cs) w3 (H2.out.below HB3.out) HX2.out (by omega))
          have e0 : s.staged.foldl putF [] = s.staged := by
            have := fill_is HR2.out s.staged.length
            rwa [List.take_of_length_le (Nat.le_refl _)] at this
          rw [e0] at HC4
          clear e0
          go_wp2_with fail
          refine HC4.out.mono ?_
          rintro e w4 ⟨rfl, hm4, hb4⟩
          have HB4 := Lib.hid (bth HB3.out hb4)
          have P4 := Lib.hid (P3.out.below hb4 hlt3)
          have hlt4 : w.heap.size < w4.heap.size := Nat.lt_of_lt_of_le hlt3 hb4.size
          have HM4 := Lib.hid hm4
          clear hm4 hb4 HC4 d0 d1 d2
          obtain ⟨d0, d1, d2⟩ := P4.out.cells
          generalize w3.heap.size = bm at HM4
          go_wp2_with fail
          go_loop [36] (fun i => ∃ k : Nat, k ≤ s.gone.length ∧ i = .int .i64 k ∧ Hid ((s.gone.take k).all (fun n => !hasF s.staged n) = true)) (fun i => s.gone.length - (intOf i).toNat)
          case atStart => exact ⟨0, Nat.zero_le _, rfl, by simp [Hid]⟩
          case round =>
            obtain ⟨k, hk, rfl, HO⟩ := hrel
            by_cases hlt : k < s.gone.length
            · obtain ⟨g, o, rfl, hg, hcell1⟩ := hat3 k hlt
              have hc1' : w4.cell? ⟨g, o + k, none⟩ = some (.string ⟨(s.gone[k]).toArray⟩) := by rw [HB4.out.cell (p := ⟨g, o + k, none⟩) hg]; exact hcell1
              have HXL := Lib.hid (HX3.out s.gone[k] (List.getElem_mem hlt))
              rcases eh : hasF s.staged s.gone[k] with _ | _
              · have HO2 : Hid ((s.gone.take (k + 1)).all (fun n => !hasF s.staged n) = true) := by
                  show _ = _
                  rw [List.take_succ_eq_append_getElem hlt, List.all_append, HO.out]; simp [eh]
                have HEH := Lib.hid eh
                clear hcell1 hat3 HO eh HT
                generalize s.gone[k] = x at hc1' HXL HEH
                go_wp2_with (at_lookup; refine wpLookF _ rfl _ _ rfl bm s.staged.length s.staged rfl HM4.out x rfl HXL.out ?_; rw [HEH.out])
                go_round
                case rel => exact ⟨k + 1, by omega, by go_num, HO2⟩
                case measure => simp [intOf]; omega
              · have HF2 : Hid (goodS s = false) := by
                  show _ = _
                  have : s.gone.all (fun n => !hasF s.staged n) = false := by
                    rw [List.all_eq_false]
                    exact ⟨s.gone[k], List.getElem_mem hlt, by simp [eh]⟩
                  rw [HT.out, this]; rfl
                have HEH := Lib.hid eh
                clear hcell1 hat3 HO eh HT
                generalize s.gone[k] = x at hc1' HXL HEH
                go_wp2_with (at_lookup; refine wpLookF _ rfl _ _ rfl bm s.staged.length s.staged rfl HM4.out x rfl HXL.out ?_; rw [HEH.out])
                go_ret
                exact ⟨ret_bool HF2.out.symm, HB4.out⟩
            · have HT2 : Hid (goodS s = goodF (takenF s)) := by
                have := HO.out
                rw [List.take_of_length_le (by omega)] at this
                show _ = _
                rw [HT.out, this]; rfl
              clear HO HT hat3
              have HC5 := Lib.hid (bodiesTaken_any s (.agg #[.slice af s.files.length cf, .slice a2 s.staged.length cs, .slice ag s.gone.length cg]) w4 (HST.out.below HB4.out) HFX.out HR1.out (by omega) (by omega))
              go_wp2_with fail
              refine HC5.out.mono ?_
              rintro e w5 ⟨b5, n5, rfl, _, _, hm5, hb5⟩
              have HB5 := Lib.hid (bth HB4.out hb5)
              have HC6 := Lib.hid (filesIn_any (takenF s) b5 n5 w5 hm5 (by have := taken_len s; omega))
              clear hm5 hb5 HC5
              go_wp2_with fail
              refine HC6.out.mono ?_
              rintro e w6 ⟨v6, rfl, hown6, hb6⟩
              have HB6 := Lib.hid (bth HB5.out hb6)
              have HC7 := Lib.hid (implGoodFiles_any (takenF s) v6 w6 (RowF.of_own hown6) (taken_fits HFX.out) (HM.out.below HB6.out))
              clear hown6 hb6 HC6
              go_wp2_with fail
              refine HC7.out.mono ?_
              rintro e w7 ⟨rfl, hb7⟩
              have HB7 := Lib.hid (bth HB6.out hb7)
              clear hb7 HC7
              go_wp2_with fail
              go_ret
              exact ⟨ret_bool HT2.out.symm, HB7.out⟩

end Go.Proofs.YtoahfhidekmodaaDoor

/- Walks: files read, now and as they would be (the reference). -/
namespace Go.Proofs.YtoahfhidekmodaaDoor
open Go.RowKit Pth

/-- A text and a bool are handed back. -/
def TextOk (t : List UInt8) (ok : Bool) (w : World) (e : Ending) (w' : World) : Prop := e = .returned (.tuple #[.string ⟨t.toArray⟩, .bool ok]) ∧ Below w.heap.size w w'
def bodyAt (l : List FileT) (k : Int) : List UInt8 := match l[k.toNat]? with | some f => f.2 | none => []
def readOk (s : StoreT) (n : List UInt8) : Bool := goodS s && decide (0 ≤ findF s.files n)
def readT (s : StoreT) (n : List UInt8) : List UInt8 := if readOk s n = true then bodyAt s.files (findF s.files n) else []
def seenOk (s : StoreT) (n : List UInt8) : Bool := goodS s && decide (0 ≤ findF (takenF s) n)
def seenT (s : StoreT) (n : List UInt8) : List UInt8 := if seenOk s n = true then bodyAt (takenF s) (findF (takenF s) n) else []
theorem body_at {l : List FileT} {k : Nat} (hk : k < l.length) : bodyAt l (k : Int) = l[k].2 := by
  have e : ((k : Int)).toNat = k := by omega
  rw [bodyAt, e, List.getElem?_eq_getElem hk]

set_option maxRecDepth 20000 in
set_option maxHeartbeats 4000000 in
theorem specRead_any (s : StoreT) (n : List UInt8) (v : Value) (w : World) (hst : StoreV w v s) (hx : Fits s) :
    Calls Tryd.prog 17 #[v, .string ⟨n.toArray⟩] w (TextOk (readT s n) (readOk s n) w) := by
  have HST := Lib.hid hst
  obtain ⟨vf, vs, vg, rfl, h1, h2, h3⟩ := hst
  have H1 := Lib.hid h1
  obtain ⟨af, cf, rfl, hf1, hf2, hatf⟩ := h1.files
  obtain ⟨a2, cs, rfl, hs1, hs2, _⟩ := h2.files
  obtain ⟨ag, cg, rfl, hg1, hg2, _⟩ := h3.texts
  clear h1 h2 h3
  have HF := Lib.hid (fun W hr => l3Find_any s.files n (.slice af s.files.length cf) W hr)
  have HG := Lib.hid (fun W hr => specGoodStore_any s (.agg #[.slice af s.files.length cf, .slice a2 s.staged.length cs, .slice ag s.gone.length cg]) W hr hx)
  clear hx
  unfold maxLen at hf2 hs2 hg2
  obtain ⟨wa, hwa⟩ : ∃ wa, wa = w.alloc (.cells #[.slice af s.files.length cf, .slice a2 s.staged.length cs, .slice ag s.gone.length cg] 35) := ⟨_, rfl⟩
  have c0 : wa.cell? ⟨w.heap.size, 0, none⟩ = some (.slice af s.files.length cf) := by rw [hwa]; simp
  have c1 : wa.cell? ⟨w.heap.size, 1, none⟩ = some (.slice a2 s.staged.length cs) := by rw [hwa]; simp
  have c2 : wa.cell? ⟨w.heap.size, 2, none⟩ = some (.slice ag s.gone.length cg) := by rw [hwa]; simp
  have HA : Hid (Below w.heap.size w wa) := by rw [hwa]; exact (Below.refl w.heap.size w).alloc (Nat.le_refl _) _
  have hsz : wa.heap.size = w.heap.size + 1 := by rw [hwa]; simp
  have HWA := Lib.hid hwa
  clear hwa
  have hfr := find_range s.files n
  rcases eg : goodS s with _ | _
  · have HT : Hid (readOk s n = false) := by rw [readOk, eg]; rfl
    have HT2 : Hid (readT s n = []) := by rw [readT, HT.out]; rfl
    rw [HT.out, HT2.out]
    rw [eg] at HG
    clear eg HT HT2 hatf
    generalize findF s.files n = fi at HF hfr
    go_enter Tryd.func17, Tryd.ntmps17
    go_wp2_with fail
    rw [← HWA.out]
    refine (HF.out wa (H1.out.below HA.out)).mono ?_
    rintro e w1 ⟨rfl, hb1⟩
    have HB1 := Lib.hid hb1
    clear hb1
    have d0 : w1.cell? ⟨w.heap.size, 0, none⟩ = some (.slice af s.files.length cf) := (HB1.out.cell (p := ⟨w.heap.size, 0, none⟩) (by show w.heap.size < wa.heap.size; omega)).trans c0
    have d1 : w1.cell? ⟨w.heap.size, 1, none⟩ = some (.slice a2 s.staged.length cs) := (HB1.out.cell (p := ⟨w.heap.size, 1, none⟩) (by show w.heap.size < wa.heap.size; omega)).trans c1
    have d2 : w1.cell? ⟨w.heap.size, 2, none⟩ = some (.slice ag s.gone.length cg) := (HB1.out.cell (p := ⟨w.heap.size, 2, none⟩) (by show w.heap.size < wa.heap.size; omega)).trans c2
    go_wp2_with fail
    refine (HG.out w1 (HST.out.below (HA.out.trans (HB1.out.mono HA.out.size)))).mono ?_
    rintro e w2 ⟨rfl, hb2⟩
    have HB2 := Lib.hid (HB1.out.trans (hb2.mono HB1.out.size))
    clear hb2
    go_wp2_with fail
    go_ret2
    exact ⟨rfl, HA.out.trans (HB2.out.mono HA.out.size)⟩
  · rw [eg] at HG
    by_cases ef : 0 ≤ findF s.files n
    · have HT : Hid (readOk s n = true) := by rw [readOk, eg, decide_eq_true ef]; rfl
      have HT2 : Hid (readT s n = bodyAt s.files (findF s.files n)) := by rw [readT, HT.out]; rfl
      rw [HT.out, HT2.out]
      obtain ⟨k, hkf⟩ : ∃ k : Nat, findF s.files n = k := ⟨(findF s.files n).toNat, by omega⟩
      rw [hkf] at HF hfr ⊢
      have hlt : k < s.files.length := by omega
      rw [body_at hlt]
      obtain ⟨g, o, rfl, hg, hcell1, hcell2⟩ := hatf k hlt
      have hkn : decide ((k : Int) < 0) = false := decide_eq_false (by omega)
      generalize s.files[k].2 = y at hcell2
      clear eg HT HT2 hatf ef hkf hcell1
      go_enter Tryd.func17, Tryd.ntmps17
      go_wp2_with fail
      rw [← HWA.out]
      refine (HF.out wa (H1.out.below HA.out)).mono ?_
      rintro e w1 ⟨rfl, hb1⟩
      have HB1 := Lib.hid hb1
      clear hb1
      have d0 : w1.cell? ⟨w.heap.size, 0, none⟩ = some (.slice (some ⟨g, o, none⟩) s.files.length cf) := (HB1.out.cell (p := ⟨w.heap.size, 0, none⟩) (by show w.heap.size < wa.heap.size; omega)).trans c0
      have d1 : w1.cell? ⟨w.heap.size, 1, none⟩ = some (.slice a2 s.staged.length cs) := (HB1.out.cell (p := ⟨w.heap.size, 1, none⟩) (by show w.heap.size < wa.heap.size; omega)).trans c1
      have d2 : w1.cell? ⟨w.heap.size, 2, none⟩ = some (.slice ag s.gone.length cg) := (HB1.out.cell (p := ⟨w.heap.size, 2, none⟩) (by show w.heap.size < wa.heap.size; omega)).trans c2
      go_wp2_with fail
      refine (HG.out w1 (HST.out.below (HA.out.trans (HB1.out.mono HA.out.size)))).mono ?_
      rintro e w2 ⟨rfl, hb2⟩
      have HB2 := Lib.hid (HB1.out.trans (hb2.mono HB1.out.size))
      have HW2 := Lib.hid (HA.out.trans (HB2.out.mono HA.out.size))
      have e0 : w2.cell? ⟨w.heap.size, 0, none⟩ = some (.slice (some ⟨g, o, none⟩) s.files.length cf) := (HB2.out.cell (p := ⟨w.heap.size, 0, none⟩) (by show w.heap.size < wa.heap.size; omega)).trans c0
      have hy2 := (HW2.out.cell (p := ⟨g, o + k * 2 + 1, none⟩) hg).trans hcell2
      clear hb2
      go_wp2_with fail
      go_ret2
      exact ⟨rfl, HW2.out⟩
    · have HT : Hid (readOk s n = false) := by rw [readOk, decide_eq_false ef]; simp [Hid]
      have HT2 : Hid (readT s n = []) := by rw [readT, HT.out]; rfl
      rw [HT.out, HT2.out]
      have hkn : decide (findF s.files n < 0) = true := decide_eq_true (by omega)
      clear eg HT HT2 hatf
      generalize findF s.files n = fi at HF hfr ef hkn
      go_enter Tryd.func17, Tryd.ntmps17
      go_wp2_with fail
      rw [← HWA.out]
      refine (HF.out wa (H1.out.below HA.out)).mono ?_
      rintro e w1 ⟨rfl, hb1⟩
      have HB1 := Lib.hid hb1
      clear hb1
      have d0 : w1.cell? ⟨w.heap.size, 0, none⟩ = some (.slice af s.files.length cf) := (HB1.out.cell (p := ⟨w.heap.size, 0, none⟩) (by show w.heap.size < wa.heap.size; omega)).trans c0
      have d1 : w1.cell? ⟨w.heap.size, 1, none⟩ = some (.slice a2 s.staged.length cs) := (HB1.out.cell (p := ⟨w.heap.size, 1, none⟩) (by show w.heap.size < wa.heap.size; omega)).trans c1
      have d2 : w1.cell? ⟨w.heap.size, 2, none⟩ = some (.slice ag s.gone.length cg) := (HB1.out.cell (p := ⟨w.heap.size, 2, none⟩) (by show w.heap.size < wa.heap.size; omega)).trans c2
      go_wp2_with fail
      refine (HG.out w1 (HST.out.below (HA.out.trans (HB1.out.mono HA.out.size)))).mono ?_
      rintro e w2 ⟨rfl, hb2⟩
      have HB2 := Lib.hid (HB1.out.trans (hb2.mono HB1.out.size))
      clear hb2
      go_wp2_with fail
      go_ret2
      exact ⟨rfl, HA.out.trans (HB2.out.mono HA.out.size)⟩

theorem good_sizes {s : StoreT} (h : goodS s = true) : s.files.length ≤ 12 ∧ s.staged.length ≤ 12 ∧ s.gone.length ≤ 12 := by
  simp only [goodS, Bool.and_eq_true, decide_eq_true_iff] at h
  exact ⟨good_len h.1, good_len h.2.1, h.2.2.1⟩

set_option maxRecDepth 20000 in
set_option maxHeartbeats 4000000 in
theorem specSeen_any (s : StoreT) (n : List UInt8) (v : Value) (w : World) (hst : StoreV w v s) (hx : Fits s) :
    Calls Tryd.prog 19 #[v, .string ⟨n.toArray⟩] w (TextOk (seenT s n) (seenOk s n) w) := by
  have HST := Lib.hid hst
  obtain ⟨vf, vs, vg, rfl, h1, h2, h3⟩ := hst
  obtain ⟨af, cf, rfl, hf1, hf2, _⟩ := h1.files
  obtain ⟨a2, cs, rfl, hs1, hs2, _⟩ := h2.files
  obtain ⟨ag, cg, rfl, hg1, hg2, _⟩ := h3.texts
  clear h1 h2 h3
  have HG := Lib.hid (fun W hr => specGoodStore_any s (.agg #[.slice af s.files.length cf, .slice a2 s.staged.length cs, .slice ag s.gone.length cg]) W hr hx)
  clear hx
  unfold maxLen at hf2 hs2 hg2
  obtain ⟨wa, hwa⟩ : ∃ wa, wa = w.alloc (.cells #[.slice af s.files.length cf, .slice a2 s.staged.length cs, .slice ag s.gone.length cg] 35) := ⟨_, rfl⟩
  have c0 : wa.cell? ⟨w.heap.size, 0, none⟩ = some (.slice af s.files.length cf) := by rw [hwa]; simp
  have c1 : wa.cell? ⟨w.heap.size, 1, none⟩ = some (.slice a2 s.staged.length cs) := by rw [hwa]; simp
  have c2 : wa.cell? ⟨w.heap.size, 2, none⟩ = some (.slice ag s.gone.length cg) := by rw [hwa]; simp
  have HA : Hid (Below w.heap.size w wa) := by rw [hwa]; exact (Below.refl w.heap.size w).alloc (Nat.le_refl _) _
  have hsz : wa.heap.size = w.heap.size + 1 := by rw [hwa]; simp
  have HWA := Lib.hid hwa
  clear hwa
  rcases eg : goodS s with _ | _
  · have HT : Hid (seenOk s n = false) := by rw [seenOk, eg]; rfl
    have HT2 : Hid (seenT s n = []) := by rw [seenT, HT.out]; rfl
    rw [HT.out, HT2.out]
    rw [eg] at HG
    clear eg HT HT2
    go_enter Tryd.func19, Tryd.ntmps19
    go_wp2_with fail
    rw [← HWA.out]
    refine (HG.out wa (HST.out.below HA.out)).mono ?_
    rintro e w1 ⟨rfl, hb1⟩
    have HB1 := Lib.hid hb1
    clear hb1
    go_wp2_with fail
    go_ret2
    exact ⟨rfl, HA.out.trans (HB1.out.mono HA.out.size)⟩
  · rw [eg] at HG
    obtain ⟨l1, l2, l3⟩ := good_sizes eg
    have hfr := find_range (takenF s) n
    have HF := Lib.hid (fun v W hr => l3Find_any (takenF s) n v W hr)
    by_cases ef : 0 ≤ findF (takenF s) n
    · have HT : Hid (seenOk s n = true) := by rw [seenOk, eg, decide_eq_true ef]; rfl
      have HT2 : Hid (seenT s n = bodyAt (takenF s) (findF (takenF s) n)) := by rw [seenT, HT.out]; rfl
      rw [HT.out, HT2.out]
      obtain ⟨k, hkf⟩ : ∃ k : Nat, findF (takenF s) n = k := ⟨(findF (takenF s) n).toNat, by omega⟩
      rw [hkf] at HF hfr ⊢
      have hlt : k < (takenF s).length := by omega
      rw [body_at hlt]
      obtain ⟨y, hy⟩ : ∃ y, (takenF s)[k].2 = y := ⟨_, rfl⟩
      rw [hy]
      have hkn : decide ((k : Int) < 0) = false := decide_eq_false (by omega)
      clear eg HT HT2 ef hkf
      go_enter Tryd.func19, Tryd.ntmps19
      go_wp2_with fail
      rw [← HWA.out]
      refine (HG.out wa (HST.out.below HA.out)).mono ?_
      rintro e w1 ⟨rfl, hb1⟩
      have HB1 := Lib.hid hb1
      clear hb1
      have d0 : w1.cell? ⟨w.heap.size, 0, none⟩ = some (.slice af s.files.length cf) := (HB1.out.cell (p := ⟨w.heap.size, 0, none⟩) (by show w.heap.size < wa.heap.size; omega)).trans c0
      have d1 : w1.cell? ⟨w.heap.size, 1, none⟩ = some (.slice a2 s.staged.length cs) := (HB1.out.cell (p := ⟨w.heap.size, 1, none⟩) (by show w.heap.size < wa.heap.size; omega)).trans c1
      have d2 : w1.cell? ⟨w.heap.size, 2, none⟩ = some (.slice ag s.gone.length cg) := (HB1.out.cell (p := ⟨w.heap.size, 2, none⟩) (by show w.heap.size < wa.heap.size; omega)).trans c2
      go_wp2_with fail
      refine (l3Taken_any s _ w1 (HST.out.below (HA.out.trans (HB1.out.mono HA.out.size))) (by omega) (by omega) (by omega)).mono ?_
      rintro e w2 ⟨v2, rfl, hown2, hb2⟩
      have HB2 := Lib.hid (HB1.out.trans (hb2.mono HB1.out.size))
      have HR2 := Lib.hid (RowF.of_own hown2)
      clear hown2 hb2
      go_wp2_with fail
      refine (HF.out v2 w2 HR2.out).mono ?_
      rintro e w3 ⟨rfl, hb3⟩
      have HB3 := Lib.hid (HB2.out.trans (hb3.mono HB2.out.size))
      obtain ⟨a5, c5, rfl, hc51, hc52, hat5⟩ := (HR2.out.below hb3).files
      obtain ⟨g, o, rfl, hg, hcell1, hcell2⟩ := hat5 k hlt
      unfold maxLen at hc52
      clear hb3 hat5 hcell1 HR2 HF
      rw [hy] at hcell2
      clear hy
      generalize (takenF s).length = tl at hlt hc51 hfr ⊢
      go_wp2_with fail
      go_ret2
      exact ⟨rfl, HA.out.trans (HB3.out.mono HA.out.size)⟩
    · have HT : Hid (seenOk s n = false) := by rw [seenOk, decide_eq_false ef]; simp [Hid]
      have HT2 : Hid (seenT s n = []) := by rw [seenT, HT.out]; rfl
      rw [HT.out, HT2.out]
      have hkn : decide (findF (takenF s) n < 0) = true := decide_eq_true (by omega)
      clear eg HT HT2
      generalize findF (takenF s) n = fi at HF hfr ef hkn
      go_enter Tryd.func19, Tryd.ntmps19
      go_wp2_with fail
      rw [← HWA.out]
      refine (HG.out wa (HST.out.below HA.out)).mono ?_
      rintro e w1 ⟨rfl, hb1⟩
      have HB1 := Lib.hid hb1
      clear hb1
      have d0 : w1.cell? ⟨w.heap.size, 0, none⟩ = some (.slice af s.files.length cf) := (HB1.out.cell (p := ⟨w.heap.size, 0, none⟩) (by show w.heap.size < wa.heap.size; omega)).trans c0
      have d1 : w1.cell? ⟨w.heap.size, 1, none⟩ = some (.slice a2 s.staged.length cs) := (HB1.out.cell (p := ⟨w.heap.size, 1, none⟩) (by show w.heap.size < wa.heap.size; omega)).trans c1
      have d2 : w1.cell? ⟨w.heap.size, 2, none⟩ = some (.slice ag s.gone.length cg) := (HB1.out.cell (p := ⟨w.heap.size, 2, none⟩) (by show w.heap.size < wa.heap.size; omega)).trans c2
      go_wp2_with fail
      refine (l3Taken_any s _ w1 (HST.out.below (HA.out.trans (HB1.out.mono HA.out.size))) (by omega) (by omega) (by omega)).mono ?_
      rintro e w2 ⟨v2, rfl, hown2, hb2⟩
      have HB2 := Lib.hid (HB1.out.trans (hb2.mono HB1.out.size))
      have HR2 := Lib.hid (RowF.of_own hown2)
      clear hown2 hb2
      go_wp2_with fail
      refine (HF.out v2 w2 HR2.out).mono ?_
      rintro e w3 ⟨rfl, hb3⟩
      have HB3 := Lib.hid (HB2.out.trans (hb3.mono HB2.out.size))
      clear hb3
      go_wp2_with fail
      go_ret2
      exact ⟨rfl, HA.out.trans (HB3.out.mono HA.out.size)⟩

end Go.Proofs.YtoahfhidekmodaaDoor

/- Walks: the program's files read, now and as they would be. -/
namespace Go.Proofs.YtoahfhidekmodaaDoor
open Go.RowKit Go.Maps Pth

theorem has_find (l : List FileT) (n : List UInt8) : decide (0 ≤ findF l n) = hasF l n := by
  rcases h : hasF l n with _ | _
  · rw [(find_has l n).2 h]; rfl
  · have h1 := (find_range l n).1
    have h2 : ¬ findF l n = -1 := fun e => by rw [(find_has l n).1 e] at h; cases h
    exact decide_eq_true (by omega)
theorem bodyF_no {l : List FileT} {n : List UInt8} (h : hasF l n = false) : bodyF l n = [] := by
  rw [hasF, List.any_eq_false] at h
  rw [bodyF, List.find?_eq_none.2 (fun f hf => h f hf)]
theorem bodyF_at {l : List FileT} {n : List UInt8} (h : hasF l n = true) : bodyAt l (findF l n) = bodyF l n := by
  induction l with
  | nil => cases h
  | cons f t ih =>
    by_cases e : f.1 = n
    · have e1 : findF (f :: t) n = 0 := by rw [findF, if_pos e]
      rw [e1, bodyF, List.find?_cons_of_pos (by simpa using e)]; rfl
    · have ht : hasF t n = true := by
        rw [hasF, List.any_cons] at h
        have e' : (f.1 == n) = false := by simpa using e
        rw [e', Bool.false_or] at h
        exact h
      have h2 : ¬ findF t n = -1 := fun e => by rw [(find_has t n).1 e] at ht; cases ht
      have h3 := (find_range t n).1
      have e1 : findF (f :: t) n = findF t n + 1 := by rw [findF, if_neg e, if_neg h2]
      have e2 : (findF t n + 1).toNat = (findF t n).toNat + 1 := by omega
      have e3 : bodyF (f :: t) n = bodyF t n := by rw [bodyF, List.find?_cons_of_neg (by simpa using e)]; rfl
      rw [e1, e3, ← ih ht, bodyAt, e2, List.getElem?_cons_succ]; rfl
theorem body_of (l : List FileT) (n : List UInt8) : (if hasF l n = true then bodyAt l (findF l n) else []) = bodyF l n := by
  rcases h : hasF l n with _ | _
  · rw [bodyF_no h]; rfl
  · rw [if_pos rfl, bodyF_at h]
theorem read_good {s : StoreT} {n : List UInt8} (h : goodS s = true) : readOk s n = hasF s.files n ∧ readT s n = bodyF s.files n := by
  have e : readOk s n = hasF s.files n := by rw [readOk, h, has_find]; rfl
  exact ⟨e, by rw [readT, e, body_of]⟩
theorem read_bad {s : StoreT} {n : List UInt8} (h : goodS s = false) : readOk s n = false ∧ readT s n = [] := by
  have e : readOk s n = false := by rw [readOk, h]; rfl
  exact ⟨e, by rw [readT, e]; rfl⟩
theorem seen_good {s : StoreT} {n : List UInt8} (h : goodS s = true) : seenOk s n = hasF (takenF s) n ∧ seenT s n = bodyF (takenF s) n := by
  have e : seenOk s n = hasF (takenF s) n := by rw [seenOk, h, has_find]; rfl
  exact ⟨e, by rw [seenT, e, body_of]⟩
theorem seen_bad {s : StoreT} {n : List UInt8} (h : goodS s = false) : seenOk s n = false ∧ seenT s n = [] := by
  have e : seenOk s n = false := by rw [seenOk, h]; rfl
  exact ⟨e, by rw [seenT, e]; rfl⟩
theorem good_bodies {l : List FileT} (h : goodF l = true) : ∀ f ∈ l, f.2.length ≤ 40 := by
  rw [goodF_parts, Bool.and_eq_true, Bool.and_eq_true] at h
  intro f hf
  have := List.all_eq_true.1 h.2.1 f hf
  simpa using this
theorem goodS_files {s : StoreT} (h : goodS s = true) : goodF s.files = true ∧ goodF s.staged = true ∧ goodF (takenF s) = true := by
  rw [goodS] at h
  simp only [Bool.and_eq_true] at h
  exact ⟨h.1, h.2.1, h.2.2.2.2⟩
theorem goodStore_m {b : Bool} {s : StoreT} (hx : Fits s) (h : goodS s = b) : ∀ v w, StoreV w v s → MaxAt w → Calls Tryd.prog 15 #[v] w (BoolPost b w) := fun v w hr hm => by
  have := implGoodStore_any s v w hr hx hm
  rwa [h] at this

set_option maxRecDepth 20000 in
set_option maxHeartbeats 4000000 in
theorem implRead_any (s : StoreT) (n : List UInt8) (v : Value) (w : World) (hst : StoreV w v s) (hx : Fits s) (hn : n.length ≤ maxLen) (hm : MaxAt w) :
    Calls Tryd.prog 18 #[v, .string ⟨n.toArray⟩] w (TextOk (readT s n) (readOk s n) w) := by
  have HST := Lib.hid hst
  have HM := Lib.hid hm
  have HN := Lib.hid hn
  have HFX := Lib.hid hx
  obtain ⟨vf, vs, vg, rfl, h1, h2, h3⟩ := hst
  have H1 := Lib.hid h1
  obtain ⟨af, cf, rfl, hf1, hf2, _⟩ := h1.files
  obtain ⟨a2, cs, rfl, hs1, hs2, _⟩ := h2.files
  obtain ⟨ag, cg, rfl, hg1, hg2, _⟩ := h3.texts
  clear h1 h2 h3 hm hn
  unfold maxLen at hf2 hs2 hg2
  obtain ⟨wa, hwa⟩ : ∃ wa, wa = w.alloc (.cells #[.slice af s.files.length cf, .slice a2 s.staged.length cs, .slice ag s.gone.length cg] 35) := ⟨_, rfl⟩
  have hsz : wa.heap.size = w.heap.size + 1 := by rw [hwa]; simp
  have P0 : Hid (Blk3 wa w.heap.size 35 (.slice af s.files.length cf) (.slice a2 s.staged.length cs) (.slice ag s.gone.length cg)) := by rw [hwa]; exact Blk3.new
  have HA : Hid (Below w.heap.size w wa) := by rw [hwa]; exact (Below.refl w.heap.size w).alloc (Nat.le_refl _) _
  have hlt0 : w.heap.size < wa.heap.size := by omega
  obtain ⟨c0, c1, c2⟩ := P0.out.cells
  have HWA := Lib.hid hwa
  clear hwa
  rcases eg : goodS s with _ | _
  · have HC := Lib.hid (goodStore_m hx eg _ wa (HST.out.below HA.out) (HM.out.below HA.out))
    have HT := Lib.hid (read_bad (n := n) eg)
    rw [HT.out.1, HT.out.2]
    clear eg hx HT
    go_enter Tryd.func18, Tryd.ntmps18
    go_wp2_with fail
    rw [← HWA.out]
    refine HC.out.mono ?_
    rintro e w1 ⟨rfl, hb1⟩
    have HB1 := Lib.hid (bth HA.out hb1)
    clear hb1
    go_wp2_with fail
    go_ret2
    exact ⟨rfl, HB1.out⟩
  · have HC := Lib.hid (goodStore_m hx eg _ wa (HST.out.below HA.out) (HM.out.below HA.out))
    have HT := Lib.hid (read_good (n := n) eg)
    rw [HT.out.1, HT.out.2]
    have HG := Lib.hid (goodS_files eg).1
    have HU := Lib.hid (fun B K W hm => bodyUnder_any s.files n B K W hm (fun f hf => Nat.le_trans (good_bodies HG.out f hf) (by omega)) HN.out)
    clear eg hx HT
    generalize hasF s.files n = bo at HU ⊢
    generalize bodyF s.files n = t at HU ⊢
    go_enter Tryd.func18, Tryd.ntmps18
    go_wp2_with fail
    rw [← HWA.out]
    refine HC.out.mono ?_
    rintro e w1 ⟨rfl, hb1⟩
    have HB1 := Lib.hid (bth HA.out hb1)
    have P1 := Lib.hid (P0.out.below hb1 hlt0)
    obtain ⟨d0, d1, d2⟩ := P1.out.cells
    have HC2 := Lib.hid (bodiesOf_any s.files (.slice af s.files.length cf) w1 (H1.out.below HB1.out) HFX.out.1 (by have := good_len HG.out; omega))
    have e0 : s.files.foldl putF [] = s.files := by
      have := fill_is (good_rise HG.out) s.files.length
      rwa [List.take_of_length_le (Nat.le_refl _)] at this
    rw [e0] at HC2
    clear hb1 e0 c0 c1 c2 HC
    go_wp2_with fail
    refine HC2.out.mono ?_
    rintro e w2 ⟨rfl, hm2, hb2⟩
    have HB2 := Lib.hid (bth HB1.out hb2)
    have HC3 := Lib.hid (HU.out _ _ _ hm2)
    clear hm2 hb2 HC2 HG
    go_wp2_with fail
    refine HC3.out.mono ?_
    rintro e w3 ⟨rfl, hb3⟩
    have HB3 := Lib.hid (bth HB2.out hb3)
    clear hb3
    go_wp2_with fail
    go_ret2
    exact ⟨rfl, HB3.out⟩

set_option maxRecDepth 20000 in
set_option maxHeartbeats 4000000 in
theorem implSeen_any (s : StoreT) (n : List UInt8) (v : Value) (w : World) (hst : StoreV w v s) (hx : Fits s) (hn : n.length ≤ maxLen) (hm : MaxAt w) :
    Calls Tryd.prog 20 #[v, .string ⟨n.toArray⟩] w (TextOk (seenT s n) (seenOk s n) w) := by
  have HST := Lib.hid hst
  have HM := Lib.hid hm
  have HN := Lib.hid hn
  have HFX := Lib.hid hx
  obtain ⟨vf, vs, vg, rfl, h1, h2, h3⟩ := hst
  obtain ⟨af, cf, rfl, hf1, hf2, _⟩ := h1.files
  obtain ⟨a2, cs, rfl, hs1, hs2, _⟩ := h2.files
  obtain ⟨ag, cg, rfl, hg1, hg2, _⟩ := h3.texts
  clear h1 h2 h3 hm hn
  unfold maxLen at hf2 hs2 hg2
  obtain ⟨wa, hwa⟩ : ∃ wa, wa = w.alloc (.cells #[.slice af s.files.length cf, .slice a2 s.staged.length cs, .slice ag s.gone.length cg] 35) := ⟨_, rfl⟩
  have hsz : wa.heap.size = w.heap.size + 1 := by rw [hwa]; simp
  have P0 : Hid (Blk3 wa w.heap.size 35 (.slice af s.files.length cf) (.slice a2 s.staged.length cs) (.slice ag s.gone.length cg)) := by rw [hwa]; exact Blk3.new
  have HA : Hid (Below w.heap.size w wa) := by rw [hwa]; exact (Below.refl w.heap.size w).alloc (Nat.le_refl _) _
  have hlt0 : w.heap.size < wa.heap.size := by omega
  obtain ⟨c0, c1, c2⟩ := P0.out.cells
  have HWA := Lib.hid hwa
  clear hwa
  rcases eg : goodS s with _ | _
  · have HC := Lib.hid (goodStore_m hx eg _ wa (HST.out.below HA.out) (HM.out.below HA.out))
    have HT := Lib.hid (seen_bad (n := n) eg)
    rw [HT.out.1, HT.out.2]
    clear eg hx HT
    go_enter Tryd.func20, Tryd.ntmps20
    go_wp2_with fail
    rw [← HWA.out]
    refine HC.out.mono ?_
    rintro e w1 ⟨rfl, hb1⟩
    have HB1 := Lib.hid (bth HA.out hb1)
    clear hb1
    go_wp2_with fail
    go_ret2
    exact ⟨rfl, HB1.out⟩
  · have HC := Lib.hid (goodStore_m hx eg _ wa (HST.out.below HA.out) (HM.out.below HA.out))
    have HT := Lib.hid (seen_good (n := n) eg)
    rw [HT.out.1, HT.out.2]
    have HG := Lib.hid (goodS_files eg)
    have HU := Lib.hid (fun B K W hm => bodyUnder_any (takenF s) n B K W hm (fun f hf => Nat.le_trans (good_bodies HG.out.2.2 f hf) (by omega)) HN.out)
    clear eg hx HT
    generalize hasF (takenF s) n = bo at HU ⊢
    generalize bodyF (takenF s) n = t at HU ⊢
    go_enter Tryd.func20, Tryd.ntmps20
    go_wp2_with fail
    rw [← HWA.out]
    refine HC.out.mono ?_
    rintro e w1 ⟨rfl, hb1⟩
    have HB1 := Lib.hid (bth HA.out hb1)
    have P1 := Lib.hid (P0.out.below hb1 hlt0)
    obtain ⟨d0, d1, d2⟩ := P1.out.cells
    have HC2 := Lib.hid (bodiesTaken_any s (.agg #[.slice af s.files.length cf, .slice a2 s.staged.length cs, .slice ag s.gone.length cg]) w1 (HST.out.below HB1.out) HFX.out (good_rise HG.out.1) (by have := good_len HG.out.1; omega) (by have := good_len HG.out.2.1; omega))
    clear hb1 c0 c1 c2 HC
    go_wp2_with fail
    refine HC2.out.mono ?_
    rintro e w2 ⟨b2, n2, rfl, _, _, hm2, hb2⟩
    have HB2 := Lib.hid (bth HB1.out hb2)
    have HC3 := Lib.hid (HU.out _ _ _ hm2)
    clear hm2 hb2 HC2 HG
    go_wp2_with fail
    refine HC3.out.mono ?_
    rintro e w3 ⟨rfl, hb3⟩
    have HB3 := Lib.hid (bth HB2.out hb3)
    clear hb3
    go_wp2_with fail
    go_ret2
    exact ⟨rfl, HB3.out⟩

end Go.Proofs.YtoahfhidekmodaaDoor

/- Walks: whether stores are the same, as the laws ask it. -/
namespace Go.Proofs.YtoahfhidekmodaaDoor
open Go.RowKit Pth

theorem store_ext {s t : StoreT} (h1 : s.files = t.files) (h2 : s.staged = t.staged) (h3 : s.gone = t.gone) : s = t := by
  cases s; cases t; simp only at h1 h2 h3; rw [h1, h2, h3]

def sameS (s t : StoreT) : Bool := decide (s.files = t.files) && (decide (s.staged = t.staged) && decide (s.gone = t.gone))
theorem sameS_iff {s t : StoreT} : sameS s t = true ↔ s = t := by
  simp only [sameS, Bool.and_eq_true, decide_eq_true_iff]
  exact ⟨fun h => store_ext h.1 h.2.1 h.2.2, fun h => by rw [h]; exact ⟨rfl, rfl, rfl⟩⟩
theorem eqFileS_b {l m : List FileT} {v u : Value} {w : World} {b : Bool} (h1 : RowF w v l) (h2 : RowF w u m) (hl : l.length ≤ 2000000) (h : decide (l = m) = b) :
    Calls Tryd.prog 11 #[v, u] w fun e w' => e = .returned (.bool b) ∧ Below w.heap.size w w' := by
  have := eqFileS_any l m v u w h1 h2 hl
  rw [h] at this
  exact this
theorem eqStringS_b {l m : List (List UInt8)} {v u : Value} {w : World} {b : Bool} (h1 : RowV w v (S l)) (h2 : RowV w u (S m)) (hl : l.length ≤ 2000000) (h : decide (l = m) = b) :
    Calls Tryd.prog 34 #[v, u] w fun e w' => e = .returned (.bool b) ∧ Below w.heap.size w w' := by
  have := eqStringS_any l m v u w h1 h2 hl
  rw [h] at this
  exact this
set_option maxRecDepth 20000 in
set_option maxHeartbeats 4000000 in
theorem eqStore_any (s t : StoreT) (v u : Value) (w : World) (hst : StoreV w v s) (hst2 : StoreV w u t) (hl1 : s.files.length ≤ 2000000) (hl2 : s.staged.length ≤ 2000000) (hl3 : s.gone.length ≤ 2000000) :
    Calls Tryd.prog 16 #[v, u] w fun e w' => e = .returned (.bool (sameS s t)) ∧ Below w.heap.size w w' := by
  obtain ⟨vf, vs, vg, rfl, h1, h2, h3⟩ := hst
  obtain ⟨uf, us, ug, rfl, h4, h5, h6⟩ := hst2
  have H1 := Lib.hid h1
  have H2 := Lib.hid h2
  have H3 := Lib.hid h3
  have H4 := Lib.hid h4
  have H5 := Lib.hid h5
  have H6 := Lib.hid h6
  obtain ⟨af, cf, rfl, _⟩ := h1.files
  obtain ⟨a2, cs, rfl, _⟩ := h2.files
  obtain ⟨ag, cg, rfl, _⟩ := h3.texts
  obtain ⟨bf, df, rfl, _⟩ := h4.files
  obtain ⟨b2, ds, rfl, _⟩ := h5.files
  obtain ⟨bg, dg, rfl, _⟩ := h6.texts
  clear h1 h2 h3 h4 h5 h6
  obtain ⟨wa, hwa⟩ : ∃ wa, wa = (w.alloc (.cells #[.slice af s.files.length cf, .slice a2 s.staged.length cs, .slice ag s.gone.length cg] 35)).alloc (.cells #[.slice bf t.files.length df, .slice b2 t.staged.length ds, .slice bg t.gone.length dg] 35) := ⟨_, rfl⟩
  have hsz : wa.heap.size = w.heap.size + 2 := by rw [hwa]; simp
  have P0 : Hid (Blk3 wa w.heap.size 35 (.slice af s.files.length cf) (.slice a2 s.staged.length cs) (.slice ag s.gone.length cg)) := by rw [hwa]; exact Blk3.new.old _
  have O0 : Hid (Blk3 wa (w.heap.size + 1) 35 (.slice bf t.files.length df) (.slice b2 t.staged.length ds) (.slice bg t.gone.length dg)) := by
    rw [hwa]
    have := Blk3.new (w := w.alloc (.cells #[.slice af s.files.length cf, .slice a2 s.staged.length cs, .slice ag s.gone.length cg] 35)) (t := 35) (x := .slice bf t.files.length df) (y := .slice b2 t.staged.length ds) (z := .slice bg t.gone.length dg)
    simpa [Hid] using this
  have HA : Hid (Below w.heap.size w wa) := by rw [hwa]; exact ((Below.refl w.heap.size w).alloc (Nat.le_refl _) _).alloc (by simp) _
  have HWA := Lib.hid hwa
  clear hwa
  rcases e1 : decide (s.files = t.files) with _ | _
  · have HT : Hid (sameS s t = false) := by rw [sameS, e1]; rfl
    have C1 := Lib.hid (eqFileS_b (H1.out.below HA.out) (H4.out.below HA.out) hl1 e1)
    rw [HT.out]
    clear e1 HT
    go_enter Tryd.func16, Tryd.ntmps16
    go_wp2_with fail
    rw [← HWA.out]
    refine C1.out.mono ?_
    rintro e w1 ⟨rfl, hb1⟩
    have HB1 := Lib.hid hb1
    clear hb1
    go_wp2_with fail
    go_ret
    exact ⟨rfl, HA.out.trans (HB1.out.mono HA.out.size)⟩
  · have C1 := Lib.hid (eqFileS_b (H1.out.below HA.out) (H4.out.below HA.out) hl1 e1)
    rcases e2 : decide (s.staged = t.staged) with _ | _
    · have HT : Hid (sameS s t = false) := by rw [sameS, e2]; simp [Hid]
      have C2 := Lib.hid (fun W (h1 : RowF W (.slice a2 s.staged.length cs) s.staged) (h2 : RowF W (.slice b2 t.staged.length ds) t.staged) => eqFileS_b h1 h2 hl2 e2)
      rw [HT.out]
      clear e1 e2 HT
      go_enter Tryd.func16, Tryd.ntmps16
      go_wp2_with fail
      rw [← HWA.out]
      refine C1.out.mono ?_
      rintro e w1 ⟨rfl, hb1⟩
      have HB1 := Lib.hid hb1
      clear hb1
      have P1 := (P0.out.below HB1.out (by omega)).cells
      have O1 := (O0.out.below HB1.out (by omega)).cells
      have p11 := P1.2.1
      have o11 := O1.2.1
      clear P1 O1
      go_wp2_with fail
      refine (C2.out w1 (H2.out.below (HA.out.trans (HB1.out.mono HA.out.size))) (H5.out.below (HA.out.trans (HB1.out.mono HA.out.size)))).mono ?_
      rintro e w2 ⟨rfl, hb2⟩
      have HB2 := Lib.hid (HB1.out.trans (hb2.mono HB1.out.size))
      clear hb2
      go_wp2_with fail
      go_ret
      exact ⟨rfl, HA.out.trans (HB2.out.mono HA.out.size)⟩
    · have C2 := Lib.hid (fun W (h1 : RowF W (.slice a2 s.staged.length cs) s.staged) (h2 : RowF W (.slice b2 t.staged.length ds) t.staged) => eqFileS_b h1 h2 hl2 e2)
      have HT : Hid (sameS s t = decide (s.gone = t.gone)) := by rw [sameS, e1, e2]; rfl
      rw [HT.out]
      rcases e3 : decide (s.gone = t.gone) with _ | _
      · have C3 := Lib.hid (fun W (h1 : RowV W (.slice ag s.gone.length cg) (S s.gone)) (h2 : RowV W (.slice bg t.gone.length dg) (S t.gone)) => eqStringS_b h1 h2 hl3 e3)
        clear e1 e2 e3 HT
        go_enter Tryd.func16, Tryd.ntmps16
        go_wp2_with fail
        rw [← HWA.out]
        refine C1.out.mono ?_
        rintro e w1 ⟨rfl, hb1⟩
        have HB1 := Lib.hid hb1
        clear hb1
        have P1 := (P0.out.below HB1.out (by omega)).cells
        have O1 := (O0.out.below HB1.out (by omega)).cells
        have p11 := P1.2.1
        have o11 := O1.2.1
        clear P1 O1
        go_wp2_with fail
        refine (C2.out w1 (H2.out.below (HA.out.trans (HB1.out.mono HA.out.size))) (H5.out.below (HA.out.trans (HB1.out.mono HA.out.size)))).mono ?_
        rintro e w2 ⟨rfl, hb2⟩
        have HB2 := Lib.hid (HB1.out.trans (hb2.mono HB1.out.size))
        clear hb2 p11 o11
        have P2 := (P0.out.below HB2.out (by omega)).cells
        have O2 := (O0.out.below HB2.out (by omega)).cells
        have p22 := P2.2.2
        have o22 := O2.2.2
        clear P2 O2
        go_wp2_with fail
        refine (C3.out w2 (H3.out.below (HA.out.trans (HB2.out.mono HA.out.size))) (H6.out.below (HA.out.trans (HB2.out.mono HA.out.size)))).mono ?_
        rintro e w3 ⟨rfl, hb3⟩
        have HB3 := Lib.hid (HB2.out.trans (hb3.mono HB2.out.size))
        clear hb3
        go_wp2_with fail
        go_ret
        exact ⟨rfl, HA.out.trans (HB3.out.mono HA.out.size)⟩
      · have C3 := Lib.hid (fun W (h1 : RowV W (.slice ag s.gone.length cg) (S s.gone)) (h2 : RowV W (.slice bg t.gone.length dg) (S t.gone)) => eqStringS_b h1 h2 hl3 e3)
        clear e1 e2 e3 HT
        go_enter Tryd.func16, Tryd.ntmps16
        go_wp2_with fail
        rw [← HWA.out]
        refine C1.out.mono ?_
        rintro e w1 ⟨rfl, hb1⟩
        have HB1 := Lib.hid hb1
        clear hb1
        have P1 := (P0.out.below HB1.out (by omega)).cells
        have O1 := (O0.out.below HB1.out (by omega)).cells
        have p11 := P1.2.1
        have o11 := O1.2.1
        clear P1 O1
        go_wp2_with fail
        refine (C2.out w1 (H2.out.below (HA.out.trans (HB1.out.mono HA.out.size))) (H5.out.below (HA.out.trans (HB1.out.mono HA.out.size)))).mono ?_
        rintro e w2 ⟨rfl, hb2⟩
        have HB2 := Lib.hid (HB1.out.trans (hb2.mono HB1.out.size))
        clear hb2 p11 o11
        have P2 := (P0.out.below HB2.out (by omega)).cells
        have O2 := (O0.out.below HB2.out (by omega)).cells
        have p22 := P2.2.2
        have o22 := O2.2.2
        clear P2 O2
        go_wp2_with fail
        refine (C3.out w2 (H3.out.below (HA.out.trans (HB2.out.mono HA.out.size))) (H6.out.below (HA.out.trans (HB2.out.mono HA.out.size)))).mono ?_
        rintro e w3 ⟨rfl, hb3⟩
        have HB3 := Lib.hid (HB2.out.trans (hb3.mono HB2.out.size))
        clear hb3
        go_wp2_with fail
        go_ret
        exact ⟨rfl, HA.out.trans (HB3.out.mono HA.out.size)⟩

end Go.Proofs.YtoahfhidekmodaaDoor

/- Walks: the law that good stores are told alike. -/
namespace Go.Proofs.YtoahfhidekmodaaDoor
open Go.RowKit Pth

theorem sameS_self (s : StoreT) : sameS s s = true := by simp [sameS]
/-- A store of the call's own, its three lists as slices. -/
theorem StoreO.slices {B : Nat} {w : World} {v : Value} {s : StoreT} (h : StoreO B w v s) : ∃ a c b d e f, v = .agg #[.slice a s.files.length c, .slice b s.staged.length d, .slice e s.gone.length f] := by
  obtain ⟨vf, vs, vg, rfl, h1, h2, h3, _⟩ := h
  obtain ⟨a, c, rfl⟩ := own_sliceG h1
  obtain ⟨b, d, rfl⟩ := own_sliceG h2
  obtain ⟨e, f, rfl⟩ := own_sliceG h3
  exact ⟨a, c, b, d, e, f, rfl⟩
theorem SizedS.small {s : StoreT} {n : Nat} (h : SizedS s n) (hn : n ≤ 2000000) : s.files.length ≤ 2000000 ∧ s.staged.length ≤ 2000000 ∧ s.gone.length ≤ 2000000 := by
  have := h.1
  exact ⟨by omega, by omega, by omega⟩

set_option maxRecDepth 20000 in
set_option maxHeartbeats 4000000 in
theorem exactGoodStore_any (s : StoreT) (v : Value) (w : World) (hst : StoreV w v s) (hx : Fits s) (hm : MaxAt w) :
    Calls Tryd.prog 4 #[v] w (YesP w) := by
  have HST := Lib.hid hst
  have HX := Lib.hid hx
  have HM := Lib.hid hm
  obtain ⟨vf, vs, vg, rfl, h1, h2, h3⟩ := hst
  obtain ⟨af, cf, rfl, hf1, hf2, _⟩ := h1.files
  obtain ⟨a2, cs, rfl, hs1, hs2, _⟩ := h2.files
  obtain ⟨ag, cg, rfl, hg1, hg2, _⟩ := h3.texts
  clear h1 h2 h3 hm hx
  unfold maxLen at hf2 hs2 hg2
  obtain ⟨wa, hwa⟩ : ∃ wa, wa = w.alloc (.cells #[.slice af s.files.length cf, .slice a2 s.staged.length cs, .slice ag s.gone.length cg] 31) := ⟨_, rfl⟩
  have hsz : wa.heap.size = w.heap.size + 1 := by rw [hwa]; simp
  have P0 : Hid (Blk3 wa w.heap.size 31 (.slice af s.files.length cf) (.slice a2 s.staged.length cs) (.slice ag s.gone.length cg)) := by rw [hwa]; exact Blk3.new
  have HA : Hid (Below w.heap.size w wa) := by rw [hwa]; exact (Below.refl w.heap.size w).alloc (Nat.le_refl _) _
  have hlt0 : w.heap.size < wa.heap.size := by omega
  obtain ⟨c0, c1, c2⟩ := P0.out.cells
  have HWA := Lib.hid hwa
  have HS := Lib.hid (szStore_any s 1048576 _ wa (HST.out.below HA.out) HX.out (by omega))
  clear hwa
  generalize hG : goodS s = G
  have HG := Lib.hid hG
  clear hG
  go_enter Tryd.func4, Tryd.ntmps4
  go_wp2_with fail
  rw [← HWA.out]
  refine HS.out.mono ?_
  rintro e w1 ⟨r, rfl, hr, hb1⟩
  have HB1 := Lib.hid (bth HA.out hb1)
  have P1 := Lib.hid (P0.out.below hb1 hlt0)
  have hlt1 : w.heap.size < w1.heap.size := Nat.lt_of_lt_of_le hlt0 hb1.size
  clear hb1 HS c0 c1 c2
  obtain ⟨c0, c1, c2⟩ := P1.out.cells
  by_cases h0 : r < 0
  · clear hr
    go_wp2_with fail
    go_ret
    exact ⟨rfl, HB1.out⟩
  · obtain ⟨hl1, hl2, hl3⟩ := (hr (by omega)).small (by omega)
    clear hr
    have HC := Lib.hid (toStore_any s (.agg #[.slice af s.files.length cf, .slice a2 s.staged.length cs, .slice ag s.gone.length cg]) w1 (HST.out.below HB1.out) hl1 hl2 hl3)
    go_wp2_with fail
    refine HC.out.mono ?_
    rintro e w2 ⟨v2, rfl, ho2, hb2⟩
    have HB2 := Lib.hid (bth HB1.out hb2)
    have P2 := Lib.hid (P1.out.below hb2 hlt1)
    have hlt2 : w.heap.size < w2.heap.size := Nat.lt_of_lt_of_le hlt1 hb2.size
    have HC2 := Lib.hid (specGoodStore_any s v2 w2 ho2.view HX.out)
    rw [HG.out] at HC2
    clear hb2 ho2 HC c0 c1 c2
    obtain ⟨c0, c1, c2⟩ := P2.out.cells
    go_wp2_with fail
    refine HC2.out.mono ?_
    rintro e w3 ⟨rfl, hb3⟩
    have HB3 := Lib.hid (bth HB2.out hb3)
    have P3 := Lib.hid (P2.out.below hb3 hlt2)
    have hlt3 : w.heap.size < w3.heap.size := Nat.lt_of_lt_of_le hlt2 hb3.size
    clear hb3 HC2 c0 c1 c2
    obtain ⟨c0, c1, c2⟩ := P3.out.cells
    have HC := Lib.hid (toStore_any s (.agg #[.slice af s.files.length cf, .slice a2 s.staged.length cs, .slice ag s.gone.length cg]) w3 (HST.out.below HB3.out) hl1 hl2 hl3)
    go_wp2_with fail
    refine HC.out.mono ?_
    rintro e w4 ⟨v4, rfl, ho4, hb4⟩
    have HB4 := Lib.hid (bth HB3.out hb4)
    have P4 := Lib.hid (P3.out.below hb4 hlt3)
    have hlt4 : w.heap.size < w4.heap.size := Nat.lt_of_lt_of_le hlt3 hb4.size
    have HO4 := Lib.hid ho4.view
    obtain ⟨b1, d1, b2, d2, b3, d3, rfl⟩ := ho4.slices
    obtain ⟨wb, hwb⟩ : ∃ wb, wb = w4.alloc (.cells #[.slice b1 s.files.length d1, .slice b2 s.staged.length d2, .slice b3 s.gone.length d3] 35) := ⟨_, rfl⟩
    have X4 : Hid (Blk3 wb w4.heap.size 35 (.slice b1 s.files.length d1) (.slice b2 s.staged.length d2) (.slice b3 s.gone.length d3)) := by rw [hwb]; exact Blk3.new
    have HBB := Lib.hid (show Below w.heap.size w wb by rw [hwb]; exact HB4.out.alloc HB4.out.size _)
    have HAB : Hid (Below w4.heap.size w4 wb) := by rw [hwb]; exact (Below.refl w4.heap.size w4).alloc (Nat.le_refl _) _
    have P5 := Lib.hid (P4.out.below HAB.out hlt4)
    have hsb : wb.heap.size = w4.heap.size + 1 := by rw [hwb]; simp
    have HC5 := Lib.hid (implGoodStore_any s _ wb (HO4.out.below HAB.out) HX.out (HM.out.below HBB.out))
    rw [HG.out] at HC5
    have HWB := Lib.hid hwb
    clear hb4 ho4 HC c0 c1 c2 hwb
    obtain ⟨c0, c1, c2⟩ := P5.out.cells
    obtain ⟨x0, x1, x2⟩ := X4.out.cells
    go_wp2_with fail
    rw [← HWB.out]
    refine HC5.out.mono ?_
    rintro e w6 ⟨rfl, hb6⟩
    have HB6 := Lib.hid (bth HBB.out hb6)
    have P6 := Lib.hid (P5.out.below hb6 (by omega))
    have X6 := Lib.hid (X4.out.below hb6 (by omega))
    have HO6 := Lib.hid ((HO4.out.below HAB.out).below hb6)
    have hlt6 : w4.heap.size < w6.heap.size := by have := hb6.size; omega
    clear hb6 HC5 c0 c1 c2 x0 x1 x2
    obtain ⟨s0, s1, s2⟩ := P6.out.cells
    obtain ⟨s3, s4, s5⟩ := X6.out.cells
    have hne : (G != G) = false := by cases G <;> rfl
    have HC := Lib.hid (fun W (hb : StoreV W _ s) => toStore_any s (.agg #[.slice af s.files.length cf, .slice a2 s.staged.length cs, .slice ag s.gone.length cg]) W hb hl1 hl2 hl3)
    have HST6 := Lib.hid (HST.out.below HB6.out)
    have HE := Lib.hid (fun W v5 (hb : StoreV W _ s) (hb5 : StoreV W v5 s) => eqStore_any s s (.agg #[.slice b1 s.files.length d1, .slice b2 s.staged.length d2, .slice b3 s.gone.length d3]) v5 W hb hb5 hl1 hl2 hl3)
    rw [sameS_self] at HE
    go_wp2_with fail
    go_region_held3 (fun w' => w'.cell? ⟨w.heap.size, 0, none⟩ = some (.slice af s.files.length cf) ∧ w'.cell? ⟨w.heap.size, 1, none⟩ = some (.slice a2 s.staged.length cs) ∧ w'.cell? ⟨w.heap.size, 2, none⟩ = some (.slice ag s.gone.length cg) ∧ w'.cell? ⟨w4.heap.size, 0, none⟩ = some (.slice b1 s.files.length d1) ∧ w'.cell? ⟨w4.heap.size, 1, none⟩ = some (.slice b2 s.staged.length d2) ∧ w'.cell? ⟨w4.heap.size, 2, none⟩ = some (.slice b3 s.gone.length d3)) (first | exact ⟨s0, s1, s2, s3, s4, s5⟩ | exact ks | exact kt)
      (first | (go_at_call 14; refine (HC.out _ (by exact HST6.out)).mono ?_; rintro e w7 ⟨v7, rfl, ho7, hb7⟩; have ks := And.intro ((hb7.cell (p := ⟨w.heap.size, 0, none⟩) (by show w.heap.size < w6.heap.size; omega)).trans s0) (And.intro ((hb7.cell (p := ⟨w.heap.size, 1, none⟩) (by show w.heap.size < w6.heap.size; omega)).trans s1) (And.intro ((hb7.cell (p := ⟨w.heap.size, 2, none⟩) (by show w.heap.size < w6.heap.size; omega)).trans s2) (And.intro ((hb7.cell (p := ⟨w4.heap.size, 0, none⟩) (by show w4.heap.size < w6.heap.size; omega)).trans s3) (And.intro ((hb7.cell (p := ⟨w4.heap.size, 1, none⟩) (by show w4.heap.size < w6.heap.size; omega)).trans s4) ((hb7.cell (p := ⟨w4.heap.size, 2, none⟩) (by show w4.heap.size < w6.heap.size; omega)).trans s5))))); have HO7 := Lib.hid ho7.view; have HX7 := Lib.hid (StoreV.below (by exact HO6.out) hb7); have HB7 := Lib.hid (bth (Below.drew HB6.out) hb7); clear ho7 hb7)
             | (go_at_call 16; refine (HE.out _ _ (by exact HX7.out) (by exact HO7.out)).mono ?_; rintro e w8 ⟨rfl, hb8⟩; have HB8 := Lib.hid (bth HB7.out hb8); have kt : w8.cell? ⟨w.heap.size, 0, none⟩ = some (.slice af s.files.length cf) ∧ w8.cell? ⟨w.heap.size, 1, none⟩ = some (.slice a2 s.staged.length cs) ∧ w8.cell? ⟨w.heap.size, 2, none⟩ = some (.slice ag s.gone.length cg) ∧ w8.cell? ⟨w4.heap.size, 0, none⟩ = some (.slice b1 s.files.length d1) ∧ w8.cell? ⟨w4.heap.size, 1, none⟩ = some (.slice b2 s.staged.length d2) ∧ w8.cell? ⟨w4.heap.size, 2, none⟩ = some (.slice b3 s.gone.length d3) := ⟨(hb8.cell (p := ⟨w.heap.size, 0, none⟩) (World.block_lt_of_cell? _ _ ks.1)).trans ks.1, (hb8.cell (p := ⟨w.heap.size, 1, none⟩) (World.block_lt_of_cell? _ _ ks.2.1)).trans ks.2.1, (hb8.cell (p := ⟨w.heap.size, 2, none⟩) (World.block_lt_of_cell? _ _ ks.2.2.1)).trans ks.2.2.1, (hb8.cell (p := ⟨w4.heap.size, 0, none⟩) (World.block_lt_of_cell? _ _ ks.2.2.2.1)).trans ks.2.2.2.1, (hb8.cell (p := ⟨w4.heap.size, 1, none⟩) (World.block_lt_of_cell? _ _ ks.2.2.2.2.1)).trans ks.2.2.2.2.1, (hb8.cell (p := ⟨w4.heap.size, 2, none⟩) (World.block_lt_of_cell? _ _ ks.2.2.2.2.2)).trans ks.2.2.2.2.2⟩; clear hb8))
    all_goals
      go_wp2_with fail
      go_ret
      exact ⟨rfl, HB8.out⟩

end Go.Proofs.YtoahfhidekmodaaDoor
