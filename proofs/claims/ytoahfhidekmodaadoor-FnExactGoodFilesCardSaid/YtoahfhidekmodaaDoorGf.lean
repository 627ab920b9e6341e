/- Walks: good stores (the reference). -/
import Derived.Test.YtoahfhidekmodaaDoorGe
namespace Go.Proofs.YtoahfhidekmodaaDoor
open Go.RowKit Pth

theorem goodFiles_l {b : Bool} {l : List FileT} {v : Value} (hx : ∀ f ∈ l, f.1.length ≤ maxLen ∧ f.2.length ≤ maxLen) (h : goodF l = b) : ∀ w, RowF w v l → Calls Tryd.prog 8 #[v] w (BoolPost b w) := fun w hr => by
  have := specGoodFiles_any l v w hr hx
  rwa [h] at this
def goneOkTo (s : StoreT) (k : Nat) : Bool := (s.gone.take k).all (fun n => nameOk n && decide (findF s.staged n = -1)) && riseN (s.gone.take k)
theorem gone_next {s : StoreT} {k : Nat} (hk : k < s.gone.length) (h : goneOkTo s k = true) (h1 : nameOk s.gone[k] = true) (h2 : findF s.staged s.gone[k] = -1) (h3 : ∀ _ : 0 < k, ltT s.gone[k - 1] s.gone[k] = true) : goneOkTo s (k + 1) = true := by
  rw [goneOkTo, Bool.and_eq_true] at h ⊢
  refine ⟨?_, riseN_next hk h.2 h3⟩
  rw [List.take_succ_eq_append_getElem hk, List.all_append, h.1]
  simp [h1, h2]
theorem gone_bad {s : StoreT} {k : Nat} (hk : k < s.gone.length) (h : nameOk s.gone[k] = false ∨ ¬ findF s.staged s.gone[k] = -1 ∨ ∃ h0 : 0 < k, ltT s.gone[k - 1] s.gone[k] = false) : goodS s = false := by
  have : goneOk s = false := by
    rw [goneOk]
    rcases h with h | h | ⟨h0, h⟩
    · have : s.gone.all (fun n => nameOk n && decide (findF s.staged n = -1)) = false := by
        rw [List.all_eq_false]; exact ⟨s.gone[k], List.getElem_mem hk, by rw [h]; simp⟩
      rw [this]; rfl
    · have : s.gone.all (fun n => nameOk n && decide (findF s.staged n = -1)) = false := by
        rw [List.all_eq_false]; exact ⟨s.gone[k], List.getElem_mem hk, by rw [decide_eq_false h]; simp⟩
      rw [this]; rfl
    · rw [riseN_fall hk h0 h]; simp
  rw [goodS, this]; simp
theorem gone_end {s : StoreT} {k : Nat} (hk : s.gone.length ≤ k) (h : goneOkTo s k = true) : goneOk s = true := by
  rw [goneOkTo, List.take_of_length_le hk] at h
  exact h
theorem foldl_put_len (l : List FileT) (m : List FileT) : (l.foldl putF m).length ≤ m.length + l.length := by
  induction l generalizing m with
  | nil => simp
  | cons f t ih => rw [List.foldl_cons]; have h1 := ih (putF m f); have h2 := putF_len m f; simp only [List.length_cons]; omega
theorem mem_putF {l : List FileT} {f g : FileT} (h : g ∈ putF l f) : g = f ∨ g ∈ l := by
  induction l with
  | nil => simp [putF] at h; exact .inl h
  | cons x t ih =>
    unfold putF at h
    split at h
    · rcases List.mem_cons.1 h with rfl | h
      · exact .inr (by simp)
      · rcases ih h with h | h
        · exact .inl h
        · exact .inr (by simp [h])
    · split at h
      · rcases List.mem_cons.1 h with rfl | h
        · exact .inl rfl
        · exact .inr (by simp [h])
      · rcases List.mem_cons.1 h with rfl | h
        · exact .inl rfl
        · exact .inr h
theorem mem_foldl_put {l m : List FileT} {g : FileT} (h : g ∈ l.foldl putF m) : g ∈ l ∨ g ∈ m := by
  induction l generalizing m with
  | nil => exact .inr h
  | cons f t ih =>
    rw [List.foldl_cons] at h
    rcases ih h with h | h
    · exact .inl (by simp [h])
    · rcases mem_putF h with rfl | h
      · exact .inl (by simp)
      · exact .inr h
theorem mem_foldl_drop {l : List (List UInt8)} {m : List FileT} {g : FileT} (h : g ∈ l.foldl dropF m) : g ∈ m := by
  induction l generalizing m with
  | nil => exact h
  | cons n t ih =>
    rw [List.foldl_cons] at h
    have := ih h
    rw [dropF, List.mem_filter] at this
    exact this.1
theorem mem_taken {s : StoreT} {g : FileT} (h : g ∈ takenF s) : g ∈ s.staged ∨ g ∈ s.files := mem_foldl_put (mem_foldl_drop h)
theorem good_len {l : List FileT} (h : goodF l = true) : l.length ≤ 12 := by
  simp only [goodF, Bool.and_eq_true, decide_eq_true_iff] at h
  exact h.2.2

/-- No text of the store is longer than a text can be. -/
def Fits (s : StoreT) : Prop := (∀ f ∈ s.files, f.1.length ≤ maxLen ∧ f.2.length ≤ maxLen) ∧ (∀ f ∈ s.staged, f.1.length ≤ maxLen ∧ f.2.length ≤ maxLen) ∧ ∀ n ∈ s.gone, n.length ≤ maxLen

set_option maxRecDepth 20000 in
set_option maxHeartbeats 8000000 in
theorem specGoodStore_any (s : StoreT) (v : Value) (w : World) (hst : StoreV w v s) (hx : Fits s) :
    Calls Tryd.prog 13 #[v] w (BoolPost (goodS s) w) := by
  have HST := Lib.hid hst
  obtain ⟨vf, vs, vg, rfl, h1, h2, h3⟩ := hst
  have H1 := Lib.hid h1
  have H2 := Lib.hid h2
  have H3 := Lib.hid h3
  obtain ⟨af, cf, rfl, hf1, hf2, _⟩ := h1.files
  obtain ⟨a2, cs, rfl, hs1, hs2, _⟩ := h2.files
  obtain ⟨ag, cg, rfl, hg1, hg2, hatg⟩ := h3.texts
  clear h1 h2 h3
  obtain ⟨hx1, hx2, hx3⟩ := hx
  have HX1 := Lib.hid hx1
  have HX2 := Lib.hid hx2
  have HX3 := Lib.hid hx3
  clear hx1 hx2 hx3
  unfold maxLen at hf2 hs2 hg2
  obtain ⟨wa, hwa⟩ : ∃ wa, wa = w.alloc (.cells #[.slice af s.files.length cf, .slice a2 s.staged.length cs, .slice ag s.gone.length cg] 35) := ⟨_, rfl⟩
  have c0 : wa.cell? ⟨w.heap.size, 0, none⟩ = some (.slice af s.files.length cf) := by rw [hwa]; simp
  have c1 : wa.cell? ⟨w.heap.size, 1, none⟩ = some (.slice a2 s.staged.length cs) := by rw [hwa]; simp
  have c2 : wa.cell? ⟨w.heap.size, 2, none⟩ = some (.slice ag s.gone.length cg) := by rw [hwa]; simp
  have HA : Hid (Below w.heap.size w wa) := by rw [hwa]; exact (Below.refl w.heap.size w).alloc (Nat.le_refl _) _
  have hsz : wa.heap.size = w.heap.size + 1 := by rw [hwa]; simp
  have HWA := Lib.hid hwa
  clear hwa
  rcases e1 : goodF s.files with _ | _
  · have HT : Hid (goodS s = false) := by rw [goodS, e1]; rfl
    have G1 := Lib.hid (goodFiles_l (v := .slice af s.files.length cf) HX1.out e1)
    clear e1 hatg
    go_enter Tryd.func13, Tryd.ntmps13
    go_wp2_with fail
    rw [← HWA.out]
    refine (G1.out wa (H1.out.below HA.out)).mono ?_
    rintro e w1 ⟨rfl, hb1⟩
    have HB1 := Lib.hid hb1
    clear hb1
    go_wp2_with fail
    go_ret
    exact ⟨ret_bool HT.out.symm, HA.out.trans (HB1.out.mono HA.out.size)⟩
  · have G1 := Lib.hid (goodFiles_l (v := .slice af s.files.length cf) HX1.out e1)
    rcases e2 : goodF s.staged with _ | _
    · have HT : Hid (goodS s = false) := by rw [goodS, e2]; simp [Hid]
      have G2 := Lib.hid (goodFiles_l (v := .slice a2 s.staged.length cs) HX2.out e2)
      clear e1 e2 hatg
      go_enter Tryd.func13, Tryd.ntmps13
      go_wp2_with fail
      rw [← HWA.out]
      refine (G1.out wa (H1.out.below HA.out)).mono ?_
      rintro e w1 ⟨rfl, hb1⟩
      have HB1 := Lib.hid hb1
      clear hb1
      have d1 : w1.cell? ⟨w.heap.size, 1, none⟩ = some (.slice a2 s.staged.length cs) := (HB1.out.cell (p := ⟨w.heap.size, 1, none⟩) (by show w.heap.size < wa.heap.size; omega)).trans c1
      go_wp2_with fail
      refine (G2.out w1 (H2.out.below (HA.out.trans (HB1.out.mono HA.out.size)))).mono ?_
      rintro e w2 ⟨rfl, hb2⟩
      have HB2 := Lib.hid (HB1.out.trans (hb2.mono HB1.out.size))
      clear hb2 HB1
      go_wp2_with fail
      go_ret
      exact ⟨ret_bool HT.out.symm, HA.out.trans (HB2.out.mono HA.out.size)⟩
    · have G2 := Lib.hid (goodFiles_l (v := .slice a2 s.staged.length cs) HX2.out e2)
      by_cases e3 : 12 < s.gone.length
      · have HT : Hid (goodS s = false) := by rw [goodS, decide_eq_false (by omega : ¬ s.gone.length ≤ 12)]; simp [Hid]
        have e3' : decide ((12 : Int) < (s.gone.length : Int)) = true := decide_eq_true (by omega)
        clear e1 e2 hatg
        go_enter Tryd.func13, Tryd.ntmps13
        go_wp2_with fail
        rw [← HWA.out]
        refine (G1.out wa (H1.out.below HA.out)).mono ?_
        rintro e w1 ⟨rfl, hb1⟩
        have HB1 := Lib.hid hb1
        clear hb1
        have d1 : w1.cell? ⟨w.heap.size, 1, none⟩ = some (.slice a2 s.staged.length cs) := (HB1.out.cell (p := ⟨w.heap.size, 1, none⟩) (by show w.heap.size < wa.heap.size; omega)).trans c1
        go_wp2_with fail
        refine (G2.out w1 (H2.out.below (HA.out.trans (HB1.out.mono HA.out.size)))).mono ?_
        rintro e w2 ⟨rfl, hb2⟩
        have HB2 := Lib.hid (HB1.out.trans (hb2.mono HB1.out.size))
        clear hb2 HB1
        have d2 : w2.cell? ⟨w.heap.size, 2, none⟩ = some (.slice ag s.gone.length cg) := (HB2.out.cell (p := ⟨w.heap.size, 2, none⟩) (by show w.heap.size < wa.heap.size; omega)).trans c2
        go_wp2_with fail
        go_ret
        exact ⟨ret_bool HT.out.symm, HA.out.trans (HB2.out.mono HA.out.size)⟩
      · have HT0 : Hid (goneOk s = true → goodS s = goodF (takenF s)) := fun h => by rw [goodS, e1, e2, h, decide_eq_true (by omega : s.gone.length ≤ 12)]; rfl
        have e3' : decide ((12 : Int) < (s.gone.length : Int)) = false := decide_eq_false (by omega)
        have hl1 := good_len e1
        have hl2 := good_len e2
        clear e1 e2
        go_enter Tryd.func13, Tryd.ntmps13
        go_wp2_with fail
        rw [← HWA.out]
        refine (G1.out wa (H1.out.below HA.out)).mono ?_
        rintro e w1 ⟨rfl, hb1⟩
        have HB1 := Lib.hid hb1
        clear hb1
        have d1 : w1.cell? ⟨w.heap.size, 1, none⟩ = some (.slice a2 s.staged.length cs) := (HB1.out.cell (p := ⟨w.heap.size, 1, none⟩) (by show w.heap.size < wa.heap.size; omega)).trans c1
        go_wp2_with fail
        refine (G2.out w1 (H2.out.below (HA.out.trans (HB1.out.mono HA.out.size)))).mono ?_
        rintro e w2 ⟨rfl, hb2⟩
        have HB2 := Lib.hid (HB1.out.trans (hb2.mono HB1.out.size))
        clear hb2 HB1
        have d2 : w2.cell? ⟨w.heap.size, 2, none⟩ = some (.slice ag s.gone.length cg) := (HB2.out.cell (p := ⟨w.heap.size, 2, none⟩) (by show w.heap.size < wa.heap.size; omega)).trans c2
        go_wp2_with fail
        go_loopw [24] (fun i wr => ∃ k : Nat, k ≤ s.gone.length ∧ i = .int .i64 k ∧ Hid (Below wa.heap.size wa wr) ∧ Hid (goneOkTo s k = true)) (fun i _ => s.gone.length - (intOf i).toNat)
        case atStart => exact ⟨0, Nat.zero_le _, rfl, HB2, by simp [Hid, goneOkTo, riseN]⟩
        case round =>
          clear HB2 d1 d2
          obtain ⟨k, hk, rfl, HB, HO⟩ := hrel
          have HW := Lib.hid (HA.out.trans (HB.out.mono HA.out.size))
          by_cases hlt : k < s.gone.length
          · obtain ⟨g, o, rfl, hg, hcell1⟩ := hatg k hlt
            have hc1' := (HW.out.cell (p := ⟨g, o + k, none⟩) hg).trans hcell1
            have hxk := HX3.out s.gone[k] (List.getElem_mem hlt)
            rcases en : nameOk s.gone[k] with _ | _
            · have HT := Lib.hid (gone_bad hlt (.inl en))
              have HC := Lib.hid (name_l _ hxk en)
              generalize s.gone[k] = x at hc1' HC hxk
              clear HO hcell1 hatg en
              go_wp2_with fail
              refine (HC.out wr).mono ?_
              rintro e w3 ⟨rfl, hb3⟩
              have HB3 := Lib.hid (HB.out.trans (hb3.mono HB.out.size))
              clear hb3
              go_wp2_with fail
              go_ret
              exact ⟨ret_bool HT.out.symm, HA.out.trans (HB3.out.mono HA.out.size)⟩
            · have HC := Lib.hid (name_l _ hxk en)
              by_cases h0 : 0 < k
              · have hk0 : decide ((0 : Int) < (k : Int)) = true := decide_eq_true (by omega)
                obtain ⟨g', o', hA, _, hp1⟩ := hatg (k - 1) (by omega)
                obtain ⟨rfl, rfl⟩ := addr_inj hA
                rcases hz : ltT s.gone[k - 1] s.gone[k] with _ | _
                · have HT := Lib.hid (gone_bad hlt (.inr (.inr ⟨h0, hz⟩)))
                  have hz1 : Op.bytesLess s.gone[k - 1] s.gone[k] = false := hz
                  generalize s.gone[k - 1] = z at hp1 hz hz1
                  generalize s.gone[k] = x at hc1' HC hxk hz1
                  clear HO hcell1 hatg en hz hA
                  go_wp2_with fail
                  refine (HC.out wr).mono ?_
                  rintro e w3 ⟨rfl, hb3⟩
                  have HB3 := Lib.hid (HB.out.trans (hb3.mono HB.out.size))
                  have HW3 := Lib.hid (HA.out.trans (HB3.out.mono HA.out.size))
                  have d2 : w3.cell? ⟨w.heap.size, 2, none⟩ = some (.slice (some ⟨g, o, none⟩) s.gone.length cg) := (HB3.out.cell (p := ⟨w.heap.size, 2, none⟩) (by show w.heap.size < wa.heap.size; omega)).trans c2
                  have hpw := (HW3.out.cell (p := ⟨g, o + (k - 1), none⟩) hg).trans hp1
                  clear hb3
                  go_wp2_with fail
                  go_ret
                  exact ⟨ret_bool HT.out.symm, HW3.out⟩
                · have hz1 : Op.bytesLess s.gone[k - 1] s.gone[k] = true := hz
                  have HF := l3Find_any s.staged s.gone[k] (.slice a2 s.staged.length cs)
                  by_cases ef : findF s.staged s.gone[k] = -1
                  · have HO2 := Lib.hid (gone_next hlt HO.out en ef (fun _ => hz))
                    rw [ef] at HF
                    have HFF := Lib.hid HF
                    generalize s.gone[k - 1] = z at hp1 hz hz1
                    generalize s.gone[k] = x at hc1' HC hxk hz1 HFF
                    clear HO hcell1 hatg en hz hA HF ef
                    go_wp2_with fail
                    refine (HC.out wr).mono ?_
                    rintro e w3 ⟨rfl, hb3⟩
                    have HB3 := Lib.hid (HB.out.trans (hb3.mono HB.out.size))
                    have HW3 := Lib.hid (HA.out.trans (HB3.out.mono HA.out.size))
                    have d2 : w3.cell? ⟨w.heap.size, 2, none⟩ = some (.slice (some ⟨g, o, none⟩) s.gone.length cg) := (HB3.out.cell (p := ⟨w.heap.size, 2, none⟩) (by show w.heap.size < wa.heap.size; omega)).trans c2
                    have d1 : w3.cell? ⟨w.heap.size, 1, none⟩ = some (.slice a2 s.staged.length cs) := (HB3.out.cell (p := ⟨w.heap.size, 1, none⟩) (by show w.heap.size < wa.heap.size; omega)).trans c1
                    have hpw := (HW3.out.cell (p := ⟨g, o + (k - 1), none⟩) hg).trans hp1
                    clear hb3
                    go_wp2_with fail
                    refine (HFF.out w3 (H2.out.below HW3.out)).mono ?_
                    rintro e w4 ⟨rfl, hb4⟩
                    have HB4 := Lib.hid (HB3.out.trans (hb4.mono HB3.out.size))
                    clear hb4
                    go_wp2_with fail
                    go_roundw
                    case rel => exact ⟨k + 1, by omega, by go_num, HB4, HO2⟩
                    case measure => simp [intOf]; omega
                  · have HT := Lib.hid (gone_bad hlt (.inr (.inl ef)))
                    have hfr := find_range s.staged s.gone[k]
                    have HFF := Lib.hid HF
                    generalize findF s.staged s.gone[k] = fi at HFF ef hfr
                    have hf0 : decide (fi ≥ 0) = true := decide_eq_true (by omega)
                    have hf0' : decide (0 ≤ fi) = true := decide_eq_true (by omega)
                    generalize s.gone[k - 1] = z at hp1 hz hz1
                    generalize s.gone[k] = x at hc1' HC hxk hz1 HFF
                    clear HO hcell1 hatg en hz hA HF ef
                    go_wp2_with fail
                    refine (HC.out wr).mono ?_
                    rintro e w3 ⟨rfl, hb3⟩
                    have HB3 := Lib.hid (HB.out.trans (hb3.mono HB.out.size))
                    have HW3 := Lib.hid (HA.out.trans (HB3.out.mono HA.out.size))
                    have d2 : w3.cell? ⟨w.heap.size, 2, none⟩ = some (.slice (some ⟨g, o, none⟩) s.gone.length cg) := (HB3.out.cell (p := ⟨w.heap.size, 2, none⟩) (by show w.heap.size < wa.heap.size; omega)).trans c2
                    have d1 : w3.cell? ⟨w.heap.size, 1, none⟩ = some (.slice a2 s.staged.length cs) := (HB3.out.cell (p := ⟨w.heap.size, 1, none⟩) (by show w.heap.size < wa.heap.size; omega)).trans c1
                    have hpw := (HW3.out.cell (p := ⟨g, o + (k - 1), none⟩) hg).trans hp1
                    clear hb3
                    go_wp2_with fail
                    refine (HFF.out w3 (H2.out.below HW3.out)).mono ?_
                    rintro e w4 ⟨rfl, hb4⟩
                    have HB4 := Lib.hid (HB3.out.trans (hb4.mono HB3.out.size))
                    clear hb4
                    go_wp2_with fail
                    go_ret
                    exact ⟨ret_bool HT.out.symm, HA.out.trans (HB4.out.mono HA.out.size)⟩
              · have hk0 : decide ((0 : Int) < (k : Int)) = false := decide_eq_false (by omega)
                have HF := l3Find_any s.staged s.gone[k] (.slice a2 s.staged.length cs)
                by_cases ef : findF s.staged s.gone[k] = -1
                · have HO2 := Lib.hid (gone_next hlt HO.out en ef (fun h => absurd h h0))
                  rw [ef] at HF
                  have HFF := Lib.hid HF
                  generalize s.gone[k] = x at hc1' HC hxk HFF
                  clear HO hcell1 hatg en HF ef
                  go_wp2_with fail
                  refine (HC.out wr).mono ?_
                  rintro e w3 ⟨rfl, hb3⟩
                  have HB3 := Lib.hid (HB.out.trans (hb3.mono HB.out.size))
                  have HW3 := Lib.hid (HA.out.trans (HB3.out.mono HA.out.size))
                  have d1 : w3.cell? ⟨w.heap.size, 1, none⟩ = some (.slice a2 s.staged.length cs) := (HB3.out.cell (p := ⟨w.heap.size, 1, none⟩) (by show w.heap.size < wa.heap.size; omega)).trans c1
                  clear hb3
                  go_wp2_with fail
                  refine (HFF.out w3 (H2.out.below HW3.out)).mono ?_
                  rintro e w4 ⟨rfl, hb4⟩
                  have HB4 := Lib.hid (HB3.out.trans (hb4.mono HB3.out.size))
                  clear hb4
                  go_wp2_with fail
                  go_roundw
                  case rel => exact ⟨k + 1, by omega, by go_num, HB4, HO2⟩
                  case measure => simp [intOf]; omega
                · have HT := Lib.hid (gone_bad hlt (.inr (.inl ef)))
                  have hfr := find_range s.staged s.gone[k]
                  have HFF := Lib.hid HF
                  generalize findF s.staged s.gone[k] = fi at HFF ef hfr
                  have hf0 : decide (fi ≥ 0) = true := decide_eq_true (by omega)
                  have hf0' : decide (0 ≤ fi) = true := decide_eq_true (by omega)
                  generalize s.gone[k] = x at hc1' HC hxk HFF
                  clear HO hcell1 hatg en HF ef
                  go_wp2_with fail
                  refine (HC.out wr).mono ?_
                  rintro e w3 ⟨rfl, hb3⟩
                  have HB3 := Lib.hid (HB.out.trans (hb3.mono HB.out.size))
                  have HW3 := Lib.hid (HA.out.trans (HB3.out.mono HA.out.size))
                  have d1 : w3.cell? ⟨w.heap.size, 1, none⟩ = some (.slice a2 s.staged.length cs) := (HB3.out.cell (p := ⟨w.heap.size, 1, none⟩) (by show w.heap.size < wa.heap.size; omega)).trans c1
                  clear hb3
                  go_wp2_with fail
                  refine (HFF.out w3 (H2.out.below HW3.out)).mono ?_
                  rintro e w4 ⟨rfl, hb4⟩
                  have HB4 := Lib.hid (HB3.out.trans (hb4.mono HB3.out.size))
                  clear hb4
                  go_wp2_with fail
                  go_ret
                  exact ⟨ret_bool HT.out.symm, HA.out.trans (HB4.out.mono HA.out.size)⟩
          · have HT := Lib.hid (HT0.out (gone_end (by omega) HO.out))
            have G3 := Lib.hid (fun (v : Value) W hr => specGoodFiles_any (takenF s) v W hr (fun f hf => by rcases mem_taken hf with h | h; exact HX2.out f h; exact HX1.out f h))
            have e0 := (HB.out.cell (p := ⟨w.heap.size, 0, none⟩) (by show w.heap.size < wa.heap.size; omega)).trans c0
            have e1 := (HB.out.cell (p := ⟨w.heap.size, 1, none⟩) (by show w.heap.size < wa.heap.size; omega)).trans c1
            have e2 := (HB.out.cell (p := ⟨w.heap.size, 2, none⟩) (by show w.heap.size < wa.heap.size; omega)).trans c2
            clear HO hatg HT0
            go_wp2_with fail
            refine (l3Taken_any s _ wr (HST.out.below HW.out) (by omega) (by omega) (by omega)).mono ?_
            rintro e w3 ⟨v3, rfl, hown3, hb3⟩
            have HB3 := Lib.hid (HW.out.trans (hb3.mono HW.out.size))
            have HN3 := Lib.hid hown3
            clear hown3 hb3
            go_wp2_with fail
            refine (G3.out v3 w3 (RowF.of_own HN3.out)).mono ?_
            rintro e w4 ⟨rfl, hb4⟩
            have HB4 := Lib.hid (HB3.out.trans (hb4.mono HB3.out.size))
            clear hb4
            go_wp2_with fail
            go_ret
            exact ⟨ret_bool HT.out.symm, HB4.out⟩

end Go.Proofs.YtoahfhidekmodaaDoor
