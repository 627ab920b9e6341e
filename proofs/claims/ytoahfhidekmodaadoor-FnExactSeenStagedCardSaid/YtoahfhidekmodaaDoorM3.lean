/- Texts of one claim, joined in their order. -/
import Derived.Test.YtoahfhidekmodaaDoorRows
import Derived.WalkKit
import Derived.WalkSpells
import Derived.WalkLawsBesides
import Derived.Deep.Light
import Derived.Shelf.Strings.Builder1
import Derived.Shelf.Small.Bits
import Derived.Shelf.Small.Strs
import Derived.Shelf.Strconv.Itoa0
import Derived.Shelf.LaysM
import Derived.Shelf.Strconv.Clone
import Derived.Shelf.Strings.Search1
import Derived.Shelf.Strings.Search2
import Derived.Shelf.Strings.Search3
import Derived.Shelf.Strings.Count
import Derived.Shelf.Strings.Shaped
import Derived.Shelf.Strings.Prefix
import Derived.Shelf.Strings.Split
import Derived.Shelf.Unicode.DecodeSlow
import Derived.Test.YtoahfhidekmodaaDoorProg
import Derived.Deep.LoopGhost
import Derived.Deep.DeepMust
import Derived.BigQuiet
import Derived.Lib.Hide
import Derived.Laws.RangeAny
import Derived.Test.YtoahfhidekmodaaDoorM2
import Derived.Test.YtoahfhidekmodaaDoorM1

/- Walks: a name put to its place; what is taken (the reference). -/
namespace Go.Proofs.YtoahfhidekmodaaDoor
open Go.RowKit Pth

/-- A store by value: three slices. -/
def StoreV (w : World) (v : Value) (s : StoreT) : Prop := ∃ vf vs vg, v = .agg #[vf, vs, vg] ∧ RowF w vf s.files ∧ RowF w vs s.staged ∧ RowV w vg (S s.gone)
theorem StoreV.below {w w' : World} {v : Value} {s : StoreT} (h : StoreV w v s) (hb : Below w.heap.size w w') : StoreV w' v s := by
  obtain ⟨vf, vs, vg, hv, h1, h2, h3⟩ := h
  exact ⟨vf, vs, vg, hv, h1.below hb, h2.below hb, h3.below hb⟩

theorem fold_put {l : List FileT} {cur : List FileT} {s : StoreT} {k : Nat} (hk : k < s.staged.length) (h : cur = (s.staged.take k).foldl putF s.files) : putF cur s.staged[k] = (s.staged.take (k + 1)).foldl putF s.files := by
  rw [List.take_succ_eq_append_getElem hk, List.foldl_append, ← h]; rfl
theorem fold_drop {m cur : List FileT} {s : StoreT} {k : Nat} (hk : k < s.gone.length) (h : cur = (s.gone.take k).foldl dropF m) : dropF cur s.gone[k] = (s.gone.take (k + 1)).foldl dropF m := by
  rw [List.take_succ_eq_append_getElem hk, List.foldl_append, ← h]; rfl

set_option maxRecDepth 20000 in
set_option maxHeartbeats 4000000 in
theorem l3Taken_any (s : StoreT) (v : Value) (w : World) (hst : StoreV w v s) (hl : s.files.length ≤ 100) (hl2 : s.staged.length ≤ 100) (hl3 : s.gone.length ≤ 100) :
    Calls Tryd.prog 29 #[v] w (FilesPost (takenF s) w) := by
  obtain ⟨vf, vs, vg, rfl, h1, h2, h3⟩ := hst
  have H1 := Lib.hid h1
  have H2 := Lib.hid h2
  have H3 := Lib.hid h3
  obtain ⟨af, cf, rfl, hf1, hf2, _⟩ := h1.files
  obtain ⟨a2, cs, rfl, hs1, hs2, hats⟩ := h2.files
  obtain ⟨ag, cg, rfl, hg1, hg2, hatg⟩ := h3.texts
  clear h1 h2 h3
  unfold maxLen at hf2 hs2 hg2
  go_enter Tryd.func29, Tryd.ntmps29
  obtain ⟨wa, hwa⟩ : ∃ wa, wa = w.alloc (.cells #[.slice af s.files.length cf, .slice a2 s.staged.length cs, .slice ag s.gone.length cg] 35) := ⟨_, rfl⟩
  have c1 : wa.cell? ⟨w.heap.size, 1, none⟩ = some (.slice a2 s.staged.length cs) := by rw [hwa]; simp
  have c2 : wa.cell? ⟨w.heap.size, 2, none⟩ = some (.slice ag s.gone.length cg) := by rw [hwa]; simp
  have HA : Hid (Below w.heap.size w wa) := by rw [hwa]; exact (Below.refl w.heap.size w).alloc (Nat.le_refl _) _
  have hsz : wa.heap.size = w.heap.size + 1 := by rw [hwa]; simp
  have HWA := Lib.hid hwa
  clear hwa
  go_wp2_with (at_builtin; rw [← HWA.out]; refine wpAppRowG elemF rfl _ _ rfl wa.heap.size _ 0 s.files.length [] (FC s.files) _ rfl (by rw [hsz]; exact hsz ▸ lit_nil wa) rfl ((H1.out.below HA.out).alloc _) (FC_one _) (by omega) (by simp) ?_; intro v1 w1 hown1 hg1; have HN1 := Lib.hid (own_eq hown1 (Nat.zero_add _) (List.nil_append _)); have HB1 := Lib.hid (((Below.refl _ wa).alloc (Nat.le_refl _) _).trans (below_ownG (lit_nil wa) (hsz ▸ hg1) (by simp))); have d1 : w1.cell? ⟨w.heap.size, 1, none⟩ = some (.slice a2 s.staged.length cs) := (HB1.out.cell (p := ⟨w.heap.size, 1, none⟩) (by show w.heap.size < wa.heap.size; omega)).trans c1; clear hown1 hg1)
  have hlen : s.files.length ≤ 100 := hl
  go_loopw [3, 15] (fun u i wr => ∃ (cur : List FileT) (k : Nat), k ≤ s.staged.length ∧ cur.length ≤ s.files.length + k ∧ i = .int .i64 k ∧ Hid (wr.ownsRow wa.heap.size 45 2 u cur.length (FC cur)) ∧ Hid (Below wa.heap.size wa wr) ∧ Hid (cur = (s.staged.take k).foldl putF s.files)) (fun _ i _ => s.staged.length - (intOf i).toNat)
  case atStart => exact ⟨s.files, 0, Nat.zero_le _, by omega, rfl, HN1, HB1, rfl⟩
  case round =>
    clear HN1 HB1 d1
    obtain ⟨cur, k, hk, hcl, rfl, HN, HB, HO⟩ := hrel
    have HW := Lib.hid (HA.out.trans (HB.out.mono HA.out.size))
    have hbs := HB.out.size
    by_cases hlt : k < s.staged.length
    · obtain ⟨g, o, rfl, hg, hcell1, hcell2⟩ := hats k hlt
      have hc1' : wr.cell? ⟨g, o + k * 2, none⟩ = some (.string ⟨(s.staged[k]).1.toArray⟩) := by rw [HW.out.cell (p := ⟨g, o + k * 2, none⟩) hg]; exact hcell1
      have hc2' : wr.cell? ⟨g, o + k * 2 + 1, none⟩ = some (.string ⟨(s.staged[k]).2.toArray⟩) := by rw [HW.out.cell (p := ⟨g, o + k * 2 + 1, none⟩) hg]; exact hcell2
      have HR := Lib.hid (fold_put (l := []) hlt HO.out)
      have hpl := putF_len cur s.staged[k]
      have epair : s.staged[k] = (s.staged[k].1, s.staged[k].2) := rfl
      rw [epair] at HR hpl
      generalize s.staged[k].1 = x at hc1' HR hpl
      generalize s.staged[k].2 = y at hc2' HR hpl
      clear HO epair hcell1 hcell2 hats hatg
      go_wp2_with fail
      refine (l3Put_any cur x y _ _ ((RowF.of_own HN.out).alloc _) (by omega)).mono ?_
      rintro e w5 ⟨v5, rfl, hown5, hb5⟩
      have HB5 := Lib.hid ((HB.out.alloc hbs _).trans (hb5.mono (by simp; omega)))
      have HN5 := Lib.hid (own_baseG hown5 (by simp; omega) : w5.ownsRow wa.heap.size 45 2 v5 (putF cur (x, y)).length (FC (putF cur (x, y))))
      clear hown5 hb5
      go_wp2_with fail
      go_roundw
      case rel => exact ⟨_, k + 1, by omega, by omega, by go_num, HN5, HB5, HR⟩
      case measure => simp [intOf]; omega
    · have HM : Hid (cur = s.staged.foldl putF s.files) := by have := HO.out; rw [List.take_of_length_le (by omega)] at this; exact this
      have d2 : wr.cell? ⟨w.heap.size, 2, none⟩ = some (.slice ag s.gone.length cg) := (HB.out.cell (p := ⟨w.heap.size, 2, none⟩) (by show w.heap.size < wa.heap.size; omega)).trans c2
      clear HO hats
      go_wp2_with fail
      go_loopw [3, 26] (fun u i wr => ∃ (cu : List FileT) (k : Nat), k ≤ s.gone.length ∧ cu.length ≤ cur.length ∧ i = .int .i64 k ∧ Hid (wr.ownsRow wa.heap.size 45 2 u cu.length (FC cu)) ∧ Hid (Below wa.heap.size wa wr) ∧ Hid (cu = (s.gone.take k).foldl dropF cur)) (fun _ i _ => s.gone.length - (intOf i).toNat)
      case atStart => exact ⟨cur, 0, Nat.zero_le _, by omega, rfl, HN, HB, rfl⟩
      case round =>
        clear HN HB d2 HW hbs
        obtain ⟨cu, k, hk, hcul, rfl, HN, HB, HO⟩ := hrel
        have HW := Lib.hid (HA.out.trans (HB.out.mono HA.out.size))
        by_cases hlt : k < s.gone.length
        · obtain ⟨g, o, rfl, hg, hcell1⟩ := hatg k hlt
          have hc1' := (HW.out.cell (p := ⟨g, o + k, none⟩) hg).trans hcell1
          have HR := Lib.hid (fold_drop hlt HO.out)
          have hpl := dropF_len cu s.gone[k]
          generalize s.gone[k] = x at hc1' HR hpl
          clear HO hcell1 hatg
          go_wp2_with fail
          refine (l3Drop_any cu x _ _ (RowF.of_own HN.out) (by omega)).mono ?_
          rintro e w5 ⟨v5, rfl, hown5, hb5⟩
          have HB5 := Lib.hid (HB.out.trans (hb5.mono HB.out.size))
          have HN5 := Lib.hid (own_baseG hown5 HB.out.size)
          clear hown5 hb5
          go_wp2_with fail
          go_roundw
          case rel => exact ⟨_, k + 1, by omega, by omega, by go_num, HN5, HB5, HR⟩
          case measure => simp [intOf]; omega
        · have HE : Hid (cu = takenF s) := by
            have := HO.out
            rw [List.take_of_length_le (by omega), HM.out] at this
            exact this
          clear HO hatg
          go_wp2_with fail
          go_ret
          exact ⟨_, rfl, by rw [← HE.out]; exact own_baseG HN.out HA.out.size, HW.out⟩

end Go.Proofs.YtoahfhidekmodaaDoor

/- Walks: good stores (the reference). -/
namespace Go.Proofs.YtoahfhidekmodaaDoor
open Go.RowKit Pth

theorem goodFiles_l {b : Bool} {l : List FileT} {v : Value} (hx : ∀ f ∈ l, f.1.length ≤ maxLen ∧ f.2.length ≤ maxLen) (h : goodF l = b) : ∀ w, RowF w v l → Calls Tryd.prog 8 #[v] w (BoolPost b w) := fun w hr => by
  have := specGoodFiles_any l v w hr hx
  rwa [h] at this
def goneOkTo (s : StoreT) (k : Nat) : Bool := (s.gone.take k).all (fun n => nameOk n && decide (findF s.staged n = -1)) && riseN (s.gone.take k)
theorem gone_next {s : StoreT} {k : Nat} (hk : k < s.gone.length) (h : goneOkTo s k = true) (h1 : nameOk s.gone[k] = true) (h2 : findF s.staged s.gone[k] = -1) (h3 : ∀ _ : 0 < k, ltT s.gone[k - 1] s.gone[k] = true) : goneOkTo s (k + 1) = true := by
  rw [goneOkTo, Bool.and_eq_true] at h ⊢
  refine ⟨?_, riseN_next hk h.2 h3⟩
  rw [List.take_succ_eq_append_getElem hk, List.all_append, h.1]
  simp [h1, h2]
theorem gone_bad {s : StoreT} {k : Nat} (hk : k < s.gone.length) (h : nameOk s.gone[k] = false ∨ ¬ findF s.staged s.gone[k] = -1 ∨ ∃ h0 : 0 < k, ltT s.gone[k - 1] s.gone[k] = false) : goodS s = false := by
  have : goneOk s = false := by
    rw [goneOk]
    rcases h with h | h | ⟨h0, h⟩
    · have : s.gone.all (fun n => nameOk n && decide (findF s.staged n = -1)) = false := by
        rw [List.all_eq_false]; exact ⟨s.gone[k], List.getElem_mem hk, by rw [h]; simp⟩
      rw [this]; rfl
    · have : s.gone.all (fun n => nameOk n && decide (findF s.staged n = -1)) = false := by
        rw [List.all_eq_false]; exact ⟨s.gone[k], List.getElem_mem hk, by rw [decide_eq_false h]; simp⟩
      rw [this]; rfl
    · rw [riseN_fall hk h0 h]; simp
  rw [goodS, this]; simp
theorem gone_end {s : StoreT} {k : Nat} (hk : s.gone.length ≤ k) (h : goneOkTo s k = true) : goneOk s = true := by
  rw [goneOkTo, List.take_of_length_le hk] at h
  exact h
theorem foldl_put_len (l : List FileT) (m : List FileT) : (l.foldl putF m).length ≤ m.length + l.length := by
  induction l generalizing m with
  | nil => simp
  | cons f t ih => rw [List.foldl_cons]; have h1 := ih (putF m f); have h2 := putF_len m f; simp only [List.length_cons]; omega
theorem mem_putF {l : List FileT} {f g : FileT} (h : g ∈ putF l f) : g = f ∨ g ∈ l := by
  induction l with
  | nil => simp [putF] at h; exact .inl h
  | cons x t ih =>
    unfold putF at h
    split at h
    · rcases List.mem_cons.1 h with rfl | h
      · exact .inr (by simp)
      · rcases ih h with h | h
        · exact .inl h
        · exact .inr (by simp [h])
    · split at h
      · rcases List.mem_cons.1 h with rfl | h
        · exact .inl rfl
        · exact .inr (by simp [h])
      · rcases List.mem_cons.1 h with rfl | h
        · exact .inl rfl
        · exact .inr h
theorem mem_foldl_put {l m : List FileT} {g : FileT} (h : g ∈ l.foldl putF m) : g ∈ l ∨ g ∈ m := by
  induction l generalizing m with
  | nil => exact .inr h
  | cons f t ih =>
    rw [List.foldl_cons] at h
    rcases ih h with h | h
    · exact .inl (by simp [h])
    · rcases mem_putF h with rfl | h
      · exact .inl (by simp)
      · exact .inr h
theorem mem_foldl_drop {l : List (List UInt8)} {m : List FileT} {g : FileT} (h : g ∈ l.foldl dropF m) : g ∈ m := by
  induction l generalizing m with
  | nil => exact h
  | cons n t ih =>
    rw [List.foldl_cons] at h
    have := ih h
    rw [dropF, List.mem_filter] at this
    exact this.1
theorem mem_taken {s : StoreT} {g : FileT} (h : g ∈ takenF s) : g ∈ s.staged ∨ g ∈ s.files := mem_foldl_put (mem_foldl_drop h)
theorem good_len {l : List FileT} (h : goodF l = true) : l.length ≤ 12 := by
  simp only [goodF, Bool.and_eq_true, decide_eq_true_iff] at h
  exact h.2.2

/-- No text of the store is longer than a text can be. -/
def Fits (s : StoreT) : Prop := (∀ f ∈ s.files, f.1.length ≤ maxLen ∧ f.2.length ≤ maxLen) ∧ (∀ f ∈ s.staged, f.1.length ≤ maxLen ∧ f.2.length ≤ maxLen) ∧ ∀ n ∈ s.gone, n.length ≤ maxLen

set_option maxRecDepth 20000 in
set_option maxHeartbeats 8000000 in
theorem specGoodStore_any (s : StoreT) (v : Value) (w : World) (hst : StoreV w v s) (hx : Fits s) :
    Calls Tryd.prog 13 #[v] w (BoolPost (goodS s) w) := by
  have HST := Lib.hid hst
  obtain ⟨vf, vs, vg, rfl, h1, h2, h3⟩ := hst
  have H1 := Lib.hid h1
  have H2 := Lib.hid h2
  have H3 := Lib.hid h3
  obtain ⟨af, cf, rfl, hf1, hf2, _⟩ := h1.files
  obtain ⟨a2, cs, rfl, hs1, hs2, _⟩ := h2.files
  obtain ⟨ag, cg, rfl, hg1, hg2, hatg⟩ := h3.texts
  clear h1 h2 h3
  obtain ⟨hx1, hx2, hx3⟩ := hx
  have HX1 := Lib.hid hx1
  have HX2 := Lib.hid hx2
  have HX3 := Lib.hid hx3
  clear hx1 hx2 hx3
  unfold maxLen at hf2 hs2 hg2
  obtain ⟨wa, hwa⟩ : ∃ wa, wa = w.alloc (.cells #[.slice af s.files.length cf, .slice a2 s.staged.length cs, .slice ag s.gone.length cg] 35) := ⟨_, rfl⟩
  have c0 : wa.cell? ⟨w.heap.size, 0, none⟩ = some (.slice af s.files.length cf) := by rw [hwa]; simp
  have c1 : wa.cell? ⟨w.heap.size, 1, none⟩ = some (.slice a2 s.staged.length cs) := by rw [hwa]; simp
  have c2 : wa.cell? ⟨w.heap.size, 2, none⟩ = some (.slice ag s.gone.length cg) := by rw [hwa]; simp
  have HA : Hid (Below w.heap.size w wa) := by rw [hwa]; exact (Below.refl w.heap.size w).alloc (Nat.le_refl _) _
  have hsz : wa.heap.size = w.heap.size + 1 := by rw [hwa]; simp
  have HWA := Lib.hid hwa
  clear hwa
  rcases e1 : goodF s.files with _ | _
  · have HT : Hid (goodS s = false) := by rw [goodS, e1]; rfl
    have G1 := Lib.hid (goodFiles_l (v := .slice af s.files.length cf) HX1.out e1)
    clear e1 hatg
    go_enter Tryd.func13, Tryd.ntmps13
    go_wp2_with fail
    rw [← HWA.out]
    refine (G1.out wa (H1.out.below HA.out)).mono ?_
    rintro e w1 ⟨rfl, hb1⟩
    have HB1 := Lib.hid hb1
    clear hb1
    go_wp2_with fail
    go_ret
    exact ⟨ret_bool HT.out.symm, HA.out.trans (HB1.out.mono HA.out.size)⟩
  · have G1 := Lib.hid (goodFiles_l (v := .slice af s.files.length cf) HX1.out e1)
    rcases e2 : goodF s.staged with _ | _
    · have HT : Hid (goodS s = false) := by rw [goodS, e2]; simp [Hid]
      have G2 := Lib.hid (goodFiles_l (v := .slice a2 s.staged.length cs) HX2.out e2)
      clear e1 e2 hatg
      go_enter Tryd.func13, Tryd.ntmps13
      go_wp2_with fail
      rw [← HWA.out]
      refine (G1.out wa (H1.out.below HA.out)).mono ?_
      rintro e w1 ⟨rfl, hb1⟩
      have HB1 := Lib.hid hb1
      clear hb1
      have d1 : w1.cell? ⟨w.heap.size, 1, none⟩ = some (.slice a2 s.staged.length cs) := (HB1.out.cell (p := ⟨w.heap.size, 1, none⟩) (by show w.heap.size < wa.heap.size; omega)).trans c1
      go_wp2_with fail
      refine (G2.out w1 (H2.out.below (HA.out.trans (HB1.out.mono HA.out.size)))).mono ?_
      rintro e w2 ⟨rfl, hb2⟩
      have HB2 := Lib.hid (HB1.out.trans (hb2.mono HB1.out.size))
      clear hb2 HB1
      go_wp2_with fail
      go_ret
      exact ⟨ret_bool HT.out.symm, HA.out.trans (HB2.out.mono HA.out.size)⟩
    · have G2 := Lib.hid (goodFiles_l (v := .slice a2 s.staged.length cs) HX2.out e2)
      by_cases e3 : 12 < s.gone.length
      · have HT : Hid (goodS s = false) := by rw [goodS, decide_eq_false (by omega : ¬ s.gone.length ≤ 12)]; simp [Hid]
        have e3' : decide ((12 : Int) < (s.gone.length : Int)) = true := decide_eq_true (by omega)
        clear e1 e2 hatg
        go_enter Tryd.func13, Tryd.ntmps13
        go_wp2_with fail
        rw [← HWA.out]
        refine (G1.out wa (H1.out.below HA.out)).mono ?_
        rintro e w1 ⟨rfl, hb1⟩
        have HB1 := Lib.hid hb1
        clear hb1
        have d1 : w1.cell? ⟨w.heap.size, 1, none⟩ = some (.slice a2 s.staged.length cs) := (HB1.out.cell (p := ⟨w.heap.size, 1, none⟩) (by show w.heap.size < wa.heap.size; omega)).trans c1
        go_wp2_with fail
        refine (G2.out w1 (H2.out.below (HA.out.trans (HB1.out.mono HA.out.size)))).mono ?_
        rintro e w2 ⟨rfl, hb2⟩
        have HB2 := Lib.hid (HB1.out.trans (hb2.mono HB1.out.size))
        clear hb2 HB1
        have d2 : w2.cell? ⟨w.heap.size, 2, none⟩ = some (.slice ag s.gone.length cg) := (HB2.out.cell (p := ⟨w.heap.size, 2, none⟩) (by show w.heap.size < wa.heap.size; omega)).trans c2
        go_wp2_with fail
        go_ret
        exact ⟨ret_bool HT.out.symm, HA.out.trans (HB2.out.mono HA.out.size)⟩
      · have HT0 : Hid (goneOk s = true → goodS s = goodF (takenF s)) := fun h => by rw [goodS, e1, e2, h, decide_eq_true (by omega : s.gone.length ≤ 12)]; rfl
        have e3' : decide ((12 : Int) < (s.gone.length : Int)) = false := decide_eq_false (by omega)
        have hl1 := good_len e1
        have hl2 := good_len e2
        clear e1 e2
        go_enter Tryd.func13, Tryd.ntmps13
        go_wp2_with fail
        rw [← HWA.out]
        refine (G1.out wa (H1.out.below HA.out)).mono ?_
        rintro e w1 ⟨rfl, hb1⟩
        have HB1 := Lib.hid hb1
        clear hb1
        have d1 : w1.cell? ⟨w.heap.size, 1, none⟩ = some (.slice a2 s.staged.length cs) := (HB1.out.cell (p := ⟨w.heap.size, 1, none⟩) (by show w.heap.size < wa.heap.size; omega)).trans c1
        go_wp2_with fail
        refine (G2.out w1 (H2.out.below (HA.out.trans (HB1.out.mono HA.out.size)))).mono ?_
        rintro e w2 ⟨rfl, hb2⟩
        have HB2 := Lib.hid (HB1.out.trans (hb2.mono HB1.out.size))
        clear hb2 HB1
        have d2 : w2.cell? ⟨w.heap.size, 2, none⟩ = some (.slice ag s.gone.length cg) := (HB2.out.cell (p := ⟨w.heap.size, 2, none⟩) (by show w.heap.size < wa.heap.size; omega)).trans c2
        go_wp2_with fail
        go_loopw [24] (fun i wr => ∃ k : Nat, k ≤ s.gone.length ∧ i = .int .i64 k ∧ Hid (Below wa.heap.size wa wr) ∧ Hid (goneOkTo s k = true)) (fun i _ => s.gone.length - (intOf i).toNat)
        case atStart => exact ⟨0, Nat.zero_le _, rfl, HB2, by simp [Hid, goneOkTo, riseN]⟩
        case round =>
          clear HB2 d1 d2
          obtain ⟨k, hk, rfl, HB, HO⟩ := hrel
          have HW := Lib.hid (HA.out.trans (HB.out.mono HA.out.size))
          by_cases hlt : k < s.gone.length
          · obtain ⟨g, o, rfl, hg, hcell1⟩ := hatg k hlt
            have hc1' := (HW.out.cell (p := ⟨g, o + k, none⟩) hg).trans hcell1
            have hxk := HX3.out s.gone[k] (List.getElem_mem hlt)
            rcases en : nameOk s.gone[k] with _ | _
            · have HT := Lib.hid (gone_bad hlt (.inl en))
              have HC := Lib.hid (name_l _ hxk en)
              generalize s.gone[k] = x at hc1' HC hxk
              clear HO hcell1 hatg en
              go_wp2_with fail
              refine (HC.out wr).mono ?_
              rintro e w3 ⟨rfl, hb3⟩
              have HB3 := Lib.hid (HB.out.trans (hb3.mono HB.out.size))
              clear hb3
              go_wp2_with fail
              go_ret
              exact ⟨ret_bool HT.out.symm, HA.out.trans (HB3.out.mono HA.out.size)⟩
            · have HC := Lib.hid (name_l _ hxk en)
              by_cases h0 : 0 < k
              · have hk0 : decide ((0 : Int) < (k : Int)) = true := decide_eq_true (by omega)
                obtain ⟨g', o', hA, _, hp1⟩ := hatg (k - 1) (by omega)
                obtain ⟨rfl, rfl⟩ := addr_inj hA
                rcases hz : ltT s.gone[k - 1] s.gone[k] with _ | _
                · have HT := Lib.hid (gone_bad hlt (.inr (.inr ⟨h0, hz⟩)))
                  have hz1 : Op.bytesLess s.gone[k - 1] s.gone[k] = false := hz
                  generalize s.gone[k - 1] = z at hp1 hz hz1
                  generalize s.gone[k] = x at hc1' HC hxk hz1
                  clear HO hcell1 hatg en hz hA
                  go_wp2_with fail
                  refine (HC.out wr).mono ?_
                  rintro e w3 ⟨rfl, hb3⟩
                  have HB3 := Lib.hid (HB.out.trans (hb3.mono HB.out.size))
                  have HW3 := Lib.hid (HA.out.trans (HB3.out.mono HA.out.size))
                  have d2 : w3.cell? ⟨w.heap.size, 2, none⟩ = some (.slice (some ⟨g, o, none⟩) s.gone.length cg) := (HB3.out.cell (p := ⟨w.heap.size, 2, none⟩) (by show w.heap.size < wa.heap.size; omega)).trans c2
                  have hpw := (HW3.out.cell (p := ⟨g, o + (k - 1), none⟩) hg).trans hp1
                  clear hb3
                  go_wp2_with fail
                  go_ret
                  exact ⟨ret_bool HT.out.symm, HW3.out⟩
                · have hz1 : Op.bytesLess s.gone[k - 1] s.gone[k] = true := hz
                  have HF := l3Find_any s.staged s.gone[k] (.slice a2 s.staged.length cs)
                  by_cases ef : findF s.staged s.gone[k] = -1
                  · have HO2 := Lib.hid (gone_next hlt HO.out en ef (fun _ => hz))
                    rw [ef] at HF
                    have HFF := Lib.hid HF
                    generalize s.gone[k - 1] = z at hp1 hz hz1
                    generalize s.gone[k] = x at hc1' HC hxk hz1 HFF
                    clear HO hcell1 hatg en hz hA HF ef
                    go_wp2_with fail
                    refine (HC.out wr).mono ?_
                    rintro e w3 ⟨rfl, hb3⟩
                    have HB3 := Lib.hid (HB.out.trans (hb3.mono HB.out.size))
                    have HW3 := Lib.hid (HA.out.trans (HB3.out.mono HA.out.size))
                    have d2 : w3.cell? ⟨w.heap.size, 2, none⟩ = some (.slice (some ⟨g, o, none⟩) s.gone.length cg) := (HB3.out.cell (p := ⟨w.heap.size, 2, none⟩) (by show w.heap.size < wa.heap.size; omega)).trans c2
                    have d1 : w3.cell? ⟨w.heap.size, 1, none⟩ = some (.slice a2 s.staged.length cs) := (HB3.out.cell (p := ⟨w.heap.size, 1, none⟩) (by show w.heap.size < wa.heap.size; omega)).trans c1
                    have hpw := (HW3.out.cell (p := ⟨g, o + (k - 1), none⟩) hg).trans hp1
                    clear hb3
                    go_wp2_with fail
                    refine (HFF.out w3 (H2.out.below HW3.out)).mono ?_
                    rintro e w4 ⟨rfl, hb4⟩
                    have HB4 := Lib.hid (HB3.out.trans (hb4.mono HB3.out.size))
                    clear hb4
                    go_wp2_with fail
                    go_roundw
                    case rel => exact ⟨k + 1, by omega, by go_num, HB4, HO2⟩
                    case measure => simp [intOf]; omega
                  · have HT := Lib.hid (gone_bad hlt (.inr (.inl ef)))
                    have hfr := find_range s.staged s.gone[k]
                    have HFF := Lib.hid HF
                    generalize findF s.staged s.gone[k] = fi at HFF ef hfr
                    have hf0 : decide (fi ≥ 0) = true := decide_eq_true (by omega)
                    have hf0' : decide (0 ≤ fi) = true := decide_eq_true (by omega)
                    generalize s.gone[k - 1] = z at hp1 hz hz1
                    generalize s.gone[k] = x at hc1' HC hxk hz1 HFF
                    clear HO hcell1 hatg en hz hA HF ef
                    go_wp2_with fail
                    refine (HC.out wr).mono ?_
                    rintro e w3 ⟨rfl, hb3⟩
                    have HB3 := Lib.hid (HB.out.trans (hb3.mono HB.out.size))
                    have HW3 := Lib.hid (HA.out.trans (HB3.out.mono HA.out.size))
                    have d2 : w3.cell? ⟨w.heap.size, 2, none⟩ = some (.slice (some ⟨g, o, none⟩) s.gone.length cg) := (HB3.out.cell (p := ⟨w.heap.size, 2, none⟩) (by show w.heap.size < wa.heap.size; omega)).trans c2
                    have d1 : w3.cell? ⟨w.heap.size, 1, none⟩ = some (.slice a2 s.staged.length cs) := (HB3.out.cell (p := ⟨w.heap.size, 1, none⟩) (by show w.heap.size < wa.heap.size; omega)).trans c1
                    have hpw := (HW3.out.cell (p := ⟨g, o + (k - 1), none⟩) hg).trans hp1
                    clear hb3
                    go_wp2_with fail
                    refine (HFF.out w3 (H2.out.below HW3.out)).mono ?_
                    rintro e w4 ⟨rfl, hb4⟩
                    have HB4 := Lib.hid (HB3.out.trans (hb4.mono HB3.out.size))
                    clear hb4
                    go_wp2_with fail
                    go_ret
                    exact ⟨ret_bool HT.out.symm, HA.out.trans (HB4.out.mono HA.out.size)⟩
              · have hk0 : decide ((0 : Int) < (k : Int)) = false := decide_eq_false (by omega)
                have HF := l3Find_any s.staged s.gone[k] (.slice a2 s.staged.length cs)
                by_cases ef : findF s.staged s.gone[k] = -1
                · have HO2 := Lib.hid (gone_next hlt HO.out en ef (fun h => absurd h h0))
                  rw [ef] at HF
                  have HFF := Lib.hid HF
                  generalize s.gone[k] = x at hc1' HC hxk HFF
                  clear HO hcell1 hatg en HF ef
                  go_wp2_with fail
                  refine (HC.out wr).mono ?_
                  rintro e w3 ⟨rfl, hb3⟩
                  have HB3 := Lib.hid (HB.out.trans (hb3.mono HB.out.size))
                  have HW3 := Lib.hid (HA.out.trans (HB3.out.mono HA.out.size))
                  have d1 : w3.cell? ⟨w.heap.size, 1, none⟩ = some (.slice a2 s.staged.length cs) := (HB3.out.cell (p := ⟨w.heap.size, 1, none⟩) (by show w.heap.size < wa.heap.size; omega)).trans c1
                  clear hb3
                  go_wp2_with fail
                  refine (HFF.out w3 (H2.out.below HW3.out)).mono ?_
                  rintro e w4 ⟨rfl, hb4⟩
                  have HB4 := Lib.hid (HB3.out.trans (hb4.mono HB3.out.size))
                  clear hb4
                  go_wp2_with fail
                  go_roundw
                  case rel => exact ⟨k + 1, by omega, by go_num, HB4, HO2⟩
                  case measure => simp [intOf]; omega
                · have HT := Lib.hid (gone_bad hlt (.inr (.inl ef)))
                  have hfr := find_range s.staged s.gone[k]
                  have HFF := Lib.hid HF
                  generalize findF s.staged s.gone[k] = fi at HFF ef hfr
                  have hf0 : decide (fi ≥ 0) = true := decide_eq_true (by omega)
                  have hf0' : decide (0 ≤ fi) = true := decide_eq_true (by omega)
                  generalize s.gone[k] = x at hc1' HC hxk HFF
                  clear HO hcell1 hatg en HF ef
                  go_wp2_with fail
                  refine (HC.out wr).mono ?_
                  rintro e w3 ⟨rfl, hb3⟩
                  have HB3 := Lib.hid (HB.out.trans (hb3.mono HB.out.size))
                  have HW3 := Lib.hid (HA.out.trans (HB3.out.mono HA.out.size))
                  have d1 : w3.cell? ⟨w.heap.size, 1, none⟩ = some (.slice a2 s.staged.length cs) := (HB3.out.cell (p := ⟨w.heap.size, 1, none⟩) (by show w.heap.size < wa.heap.size; omega)).trans c1
                  clear hb3
                  go_wp2_with fail
                  refine (HFF.out w3 (H2.out.below HW3.out)).mono ?_
                  rintro e w4 ⟨rfl, hb4⟩
                  have HB4 := Lib.hid (HB3.out.trans (hb4.mono HB3.out.size))
                  clear hb4
                  go_wp2_with fail
                  go_ret
                  exact ⟨ret_bool HT.out.symm, HA.out.trans (HB4.out.mono HA.out.size)⟩
          · have HT := Lib.hid (HT0.out (gone_end (by omega) HO.out))
            have G3 := Lib.hid (fun (v : Value) W hr => specGoodFiles_any (takenF s) v W hr (fun f hf => by rcases mem_taken hf with h | h; exact HX2.out f h; exact HX1.out f h))
            have e0 := (HB.out.cell (p := ⟨w.heap.size, 0, none⟩) (by show w.heap.size < wa.heap.size; omega)).trans c0
            have e1 := (HB.out.cell (p := ⟨w.heap.size, 1, none⟩) (by show w.heap.size < wa.heap.size; omega)).trans c1
            have e2 := (HB.out.cell (p := ⟨w.heap.size, 2, none⟩) (by show w.heap.size < wa.heap.size; omega)).trans c2
            clear HO hatg HT0
            go_wp2_with fail
            refine (l3Taken_any s _ wr (HST.out.below HW.out) (by omega) (by omega) (by omega)).mono ?_
            rintro e w3 ⟨v3, rfl, hown3, hb3⟩
            have HB3 := Lib.hid (HW.out.trans (hb3.mono HW.out.size))
            have HN3 := Lib.hid hown3
            clear hown3 hb3
            go_wp2_with fail
            refine (G3.out v3 w3 (RowF.of_own HN3.out)).mono ?_
            rintro e w4 ⟨rfl, hb4⟩
            have HB4 := Lib.hid (HB3.out.trans (hb4.mono HB3.out.size))
            clear hb4
            go_wp2_with fail
            go_ret
            exact ⟨ret_bool HT.out.symm, HB4.out⟩

end Go.Proofs.YtoahfhidekmodaaDoor

/- Walks: the tests on a path's bytes, both programs'. -/
namespace Go.Proofs.YtoahfhidekmodaaDoor.D1
open Go.RowKit Pth

theorem ret_bool {a b : Bool} (h : a = b) : Ending.returned (.bool a) = .returned (.bool b) := by rw [h]

set_option maxHeartbeats 400000 in
theorem isPathRune_any (c : Int) (w : World) :
    Calls Tryd.prog 74 #[.int .i32 c] w fun e w' => e = .returned (.bool (pb c)) ∧ w = w' := by
  go_enter Tryd.func74, Tryd.ntmps74
  go_wp2
  all_goals
    go_ret
    exact ⟨ret_bool (by rw [Bool.eq_iff_iff]; simp [pb] <;> omega), rfl⟩

set_option maxHeartbeats 400000 in
theorem l1Rooted_any (s : ByteArray) (w : World) (hs : s.size ≤ maxLen) :
    Calls Tryd.prog 46 #[.string s] w fun e w' => e = .returned (.bool (rootedL s.data.toList)) ∧ w = w' := by
  unfold maxLen at hs
  by_cases h0 : 0 < s.size
  · have hr := rooted_pos h0
    have HR : Hid (rootedL s.data.toList = ((s[0].toNat : Int) == 47)) := hr
    clear hr
    go_enter Tryd.func46, Tryd.ntmps46
    go_wp2
    all_goals
      go_ret
      exact ⟨ret_bool (by rw [HR.out]), rfl⟩
  · have HR : Hid (rootedL s.data.toList = false) := rooted_nil (by omega)
    go_enter Tryd.func46, Tryd.ntmps46
    go_wp2
    all_goals
      go_ret
      exact ⟨ret_bool (by rw [HR.out]), rfl⟩

set_option maxHeartbeats 1000000 in
theorem l1Path_any (s : ByteArray) (w : World) (hs : s.size ≤ maxLen) :
    Calls Tryd.prog 36 #[.string s] w fun e w' => e = .returned (.bool (pathL s.data.toList)) ∧ w = w' := by
  unfold maxLen at hs
  go_enter Tryd.func36, Tryd.ntmps36
  go_wp2
  go_loop [3] (fun i => ∃ k : Nat, k ≤ s.size ∧ i = .int .i64 k ∧ Hid (okL (s.data.toList.take k) = true)) (fun i => s.size - (intOf i).toNat)
  case atStart => exact ⟨0, Nat.zero_le _, rfl, rfl⟩
  case round =>
    obtain ⟨k, hk, rfl, HO⟩ := hrel
    by_cases hlt : k < s.size
    · go_wp2
      all_goals first
        | (go_round
           case rel => exact ⟨k + 1, by omega, by go_num, okL_next hlt HO.out (by clear HO; go_light; simp_all [pb] <;> omega)⟩
           case measure => simp [intOf]; omega)
        | (go_ret
           exact ⟨ret_bool (pathL_false k hlt (by clear HO; go_light; simp_all [pb] <;> omega)).symm, rfl⟩)
    · go_wp2
      go_ret
      exact ⟨ret_bool (by rw [pathL_end (k := k) (by omega) HO.out]; go_num), rfl⟩

end Go.Proofs.YtoahfhidekmodaaDoor.D1

/- The library's contracts that the walks use, at this program: each an application of the shelf's; each structure's fields are facts of the loaded program. -/
namespace Go.Proofs
open Go.Shelf Go.RowKit
def Tryd.lays169_ren : Go.Shelf.Ren := ⟨fun | 169 => 77 | n => n, fun | 70 => 101 | 9 => 9 | 0 => 0 | 72 => 103 | 37 => 88 | 127 => 89 | 3 => 3 | 5 => 5 | n => n, fun | n => n⟩
theorem Tryd.lays169 : Go.Proofs.Lays.n169 Tryd.prog Tryd.lays169_ren := {
  mixed := by kernel_rfl
  f169 := Tryd.func77.trans (congrArg some (by kernel_rfl))
  t0 := Tryd.underlying0
  a0 := Tryd.isAgg0
  z0 := Tryd.sizeOf0
  v0 := Tryd.zeroValue0
  t3 := Tryd.underlying3
  a3 := Tryd.isAgg3
  z3 := Tryd.sizeOf3
  v3 := Tryd.zeroValue3
  t9 := Tryd.underlying9
  a9 := Tryd.isAgg9
  z9 := Tryd.sizeOf9
  v9 := Tryd.zeroValue9
  t37 := Tryd.underlying88
  a37 := Tryd.isAgg88
  z37 := Tryd.sizeOf88
  v37 := Tryd.zeroValue88
  t70 := Tryd.underlying101
  a70 := Tryd.isAgg101
  z70 := Tryd.sizeOf101
  v70 := Tryd.zeroValue101
  t72 := Tryd.underlying103
  a72 := Tryd.isAgg103
  z72 := Tryd.sizeOf103
  v72 := Tryd.zeroValue103
  t127 := Tryd.underlying89
  a127 := Tryd.isAgg89
  z127 := Tryd.sizeOf89
  v127 := Tryd.zeroValue89 }
theorem Tryd.Builder_Extra_169 : Builder.Extra Tryd.prog Tryd.lays169_ren := {
  sizeBuilder := by kernel_rfl
  liesBuilder := by kernel_rfl
  t5 := Tryd.underlying5
  a5 := Tryd.isAgg5
  z5 := Tryd.sizeOf5
  v5 := Tryd.zeroValue5
  infoByte := by kernel_rfl
  cellsByte := by kernel_rfl
  sizeByte := by kernel_rfl
  neB5 := by decide }
theorem Tryd.Builder_String_any (B b : Nat) (l : List UInt8) (w : World) (h : Lib.IsBuilder 103 5 B b (Lib.byteCells l) w) (hBw : B ≤ w.heap.size) :
    Calls Tryd.prog 77 #[.pointer (some ⟨b, 0, none⟩)] w fun e w' => e = .returned (.string ⟨l.toArray⟩) ∧ Below B w w' := Any.Builder_String_any Tryd.lays169 Tryd.Builder_Extra_169 B b l w h hBw
def Tryd.lays106_ren : Go.Shelf.Ren := ⟨fun | 106 => 50 | 213 => 64 | 265 => 73 | n => n, fun | 9 => 9 | 3 => 3 | n => n, fun | n => n⟩
theorem Tryd.lays106 : Go.Proofs.Lays.n106 Tryd.prog Tryd.lays106_ren := {
  mixed := by kernel_rfl
  f106 := Tryd.func50.trans (congrArg some (by kernel_rfl))
  f213 := Tryd.func64.trans (congrArg some (by kernel_rfl))
  f265 := Tryd.func73.trans (congrArg some (by kernel_rfl))
  t3 := Tryd.underlying3
  a3 := Tryd.isAgg3
  z3 := Tryd.sizeOf3
  v3 := Tryd.zeroValue3
  t9 := Tryd.underlying9
  a9 := Tryd.isAgg9
  z9 := Tryd.sizeOf9
  v9 := Tryd.zeroValue9 }
theorem Tryd.strings_Compare (a b : ByteArray) (w : World) :
    Calls Tryd.prog 50 #[.string a, .string b] w fun e w' => e = .returned (.int .i64 (Lib.compareBytes a.data.toList b.data.toList)) ∧ w' = w := Any.strings_Compare Tryd.lays106 a b w
def Tryd.laysM316_ren : Go.Shelf.Ren := ⟨fun | 316 => 51 | n => n, fun | 9 => 9 | 3 => 3 | 4 => 4 | 37 => 88 | 0 => 0 | 127 => 89 | 5 => 5 | n => n, fun | n => n⟩
theorem Tryd.laysM316 : Go.Proofs.LaysM.n316 Tryd.prog Tryd.laysM316_ren := {
  mixed := by kernel_rfl
  f316 := Tryd.func51.trans (congrArg some (by kernel_rfl))
  t0 := Tryd.underlying0
  a0 := Tryd.isAgg0
  z0 := Tryd.sizeOf0
  v0 := Tryd.zeroValue0
  t3 := Tryd.underlying3
  a3 := Tryd.isAgg3
  z3 := Tryd.sizeOf3
  v3 := Tryd.zeroValue3
  t4 := Tryd.underlying4
  a4 := Tryd.isAgg4
  z4 := Tryd.sizeOf4
  v4 := Tryd.zeroValue4
  t9 := Tryd.underlying9
  a9 := Tryd.isAgg9
  z9 := Tryd.sizeOf9
  v9 := Tryd.zeroValue9
  t37 := Tryd.underlying88
  a37 := Tryd.isAgg88
  z37 := Tryd.sizeOf88
  v37 := Tryd.zeroValue88
  t127 := Tryd.underlying89
  a127 := Tryd.isAgg89
  z127 := Tryd.sizeOf89
  v127 := Tryd.zeroValue89
  t5 := Tryd.underlying5
  a5 := Tryd.isAgg5
  z5 := Tryd.sizeOf5
  v5 := Tryd.zeroValue5
  i0 := by kernel_rfl
  i3 := by kernel_rfl
  i4 := by kernel_rfl
  i5 := by kernel_rfl
  i9 := by kernel_rfl
  i37 := by kernel_rfl
  i127 := by kernel_rfl }
theorem Tryd.stringslite_Clone (s : ByteArray) (w : World) (hlim : s.size ≤ 281474976710656) :
    Calls Tryd.prog 51 #[.string s] w fun e w' => e = .returned (.string s) ∧ Below w.heap.size w w' := Any.stringslite_Clone Tryd.laysM316 s w hlim
def Tryd.laysM143_ren : Go.Shelf.Ren := ⟨fun | 143 => 93 | 219 => 97 | 217 => 99 | 225 => 100 | 224 => 101 | 267 => 102 | 266 => 103 | 314 => 104 | n => n, fun | 9 => 9 | 3 => 3 | 4 => 4 | 5 => 5 | 46 => 72 | 146 => 134 | 51 => 85 | n => n, fun | 1 => 0 | n => n⟩
theorem Tryd.laysM143 : Go.Proofs.LaysM.n143 Tryd.prog Tryd.laysM143_ren := {
  mixed := by kernel_rfl
  f143 := Tryd.func93.trans (congrArg some (by kernel_rfl))
  f217 := Tryd.func99.trans (congrArg some (by kernel_rfl))
  f219 := Tryd.func97.trans (congrArg some (by kernel_rfl))
  f224 := Tryd.func101.trans (congrArg some (by kernel_rfl))
  f225 := Tryd.func100.trans (congrArg some (by kernel_rfl))
  f266 := Tryd.func103.trans (congrArg some (by kernel_rfl))
  f267 := Tryd.func102.trans (congrArg some (by kernel_rfl))
  f314 := Tryd.func104.trans (congrArg some (by kernel_rfl))
  t3 := Tryd.underlying3
  a3 := Tryd.isAgg3
  z3 := Tryd.sizeOf3
  v3 := Tryd.zeroValue3
  t4 := Tryd.underlying4
  a4 := Tryd.isAgg4
  z4 := Tryd.sizeOf4
  v4 := Tryd.zeroValue4
  t5 := Tryd.underlying5
  a5 := Tryd.isAgg5
  z5 := Tryd.sizeOf5
  v5 := Tryd.zeroValue5
  t9 := Tryd.underlying9
  a9 := Tryd.isAgg9
  z9 := Tryd.sizeOf9
  v9 := Tryd.zeroValue9
  t46 := Tryd.underlying72
  a46 := Tryd.isAgg72
  z46 := Tryd.sizeOf72
  v46 := Tryd.zeroValue72
  t51 := Tryd.underlying85
  a51 := Tryd.isAgg85
  z51 := Tryd.sizeOf85
  v51 := Tryd.zeroValue85
  t146 := Tryd.underlying134
  a146 := Tryd.isAgg134
  z146 := Tryd.sizeOf134
  v146 := Tryd.zeroValue134
  g1 := by kernel_rfl
  i3 := by kernel_rfl
  i4 := by kernel_rfl
  i5 := by kernel_rfl
  i9 := by kernel_rfl
  i46 := by kernel_rfl
  i51 := by kernel_rfl
  i146 := by kernel_rfl
  m1 := by kernel_rfl
  s1_3 := fun w h => Go.Proofs.cell_of_shapedOpen_int (zero := #[.int .i64 0]) (t := 3) h (of_decide_eq_true (by kernel_rfl)) (by kernel_rfl) rfl (by kernel_rfl) (by kernel_rfl) Tryd.underlying3 }
theorem Tryd.strings_Index_shaped (s sub : ByteArray) (w : World) (h : w.ShapedOpen Tryd.prog) (hs : s.size < 4294967281) :
    Calls Tryd.prog 93 #[.string s, .string sub] w fun e w' => e = .returned (.int .i64 (Lib.index s.data.toList sub.data.toList)) ∧ w' = w := Any.strings_Index_shaped Tryd.laysM143 s sub w h hs
def Tryd.lays99_ren : Go.Shelf.Ren := ⟨fun | 99 => 78 | 206 => 84 | n => n, fun | 9 => 9 | 4 => 4 | 3 => 3 | n => n, fun | n => n⟩
theorem Tryd.lays99 : Go.Proofs.Lays.n99 Tryd.prog Tryd.lays99_ren := {
  mixed := by kernel_rfl
  f99 := Tryd.func78.trans (congrArg some (by kernel_rfl))
  f206 := Tryd.func84.trans (congrArg some (by kernel_rfl))
  t3 := Tryd.underlying3
  a3 := Tryd.isAgg3
  z3 := Tryd.sizeOf3
  v3 := Tryd.zeroValue3
  t4 := Tryd.underlying4
  a4 := Tryd.isAgg4
  z4 := Tryd.sizeOf4
  v4 := Tryd.zeroValue4
  t9 := Tryd.underlying9
  a9 := Tryd.isAgg9
  z9 := Tryd.sizeOf9
  v9 := Tryd.zeroValue9 }
theorem Tryd.strings_HasPrefix (s p : ByteArray) (w : World) :
    Calls Tryd.prog 78 #[.string s, .string p] w fun e w' => e = .returned (.bool (Lib.hasPrefix s.data.toList p.data.toList)) ∧ w' = w := Any.strings_HasPrefix Tryd.lays99 s p w
def Tryd.lays146_ren : Go.Shelf.Ren := ⟨fun | 146 => 80 | 221 => 89 | 268 => 91 | 138 => 92 | 143 => 93 | 195 => 94 | 197 => 95 | 218 => 96 | 219 => 97 | 260 => 98 | 217 => 99 | 225 => 100 | 224 => 101 | 267 => 102 | 266 => 103 | 314 => 104 | n => n, fun | 9 => 9 | 31 => 29 | 3 => 3 | 4 => 4 | 0 => 0 | 105 => 126 | 21 => 21 | 5 => 5 | 46 => 72 | 119 => 130 | 139 => 133 | 138 => 132 | 146 => 134 | 51 => 85 | n => n, fun | 1 => 0 | 3 => 1 | 4 => 2 | n => n⟩
theorem Tryd.lays146 : Go.Proofs.Lays.n146 Tryd.prog Tryd.lays146_ren := {
  mixed := by kernel_rfl
  f138 := Tryd.func92.trans (congrArg some (by kernel_rfl))
  f143 := Tryd.func93.trans (congrArg some (by kernel_rfl))
  f146 := Tryd.func80.trans (congrArg some (by kernel_rfl))
  f195 := Tryd.func94.trans (congrArg some (by kernel_rfl))
  f197 := Tryd.func95.trans (congrArg some (by kernel_rfl))
  f217 := Tryd.func99.trans (congrArg some (by kernel_rfl))
  f218 := Tryd.func96.trans (congrArg some (by kernel_rfl))
  f219 := Tryd.func97.trans (congrArg some (by kernel_rfl))
  f221 := Tryd.func89.trans (congrArg some (by kernel_rfl))
  f224 := Tryd.func101.trans (congrArg some (by kernel_rfl))
  f225 := Tryd.func100.trans (congrArg some (by kernel_rfl))
  f260 := Tryd.func98.trans (congrArg some (by kernel_rfl))
  f266 := Tryd.func103.trans (congrArg some (by kernel_rfl))
  f267 := Tryd.func102.trans (congrArg some (by kernel_rfl))
  f268 := Tryd.func91.trans (congrArg some (by kernel_rfl))
  f314 := Tryd.func104.trans (congrArg some (by kernel_rfl))
  t0 := Tryd.underlying0
  a0 := Tryd.isAgg0
  z0 := Tryd.sizeOf0
  v0 := Tryd.zeroValue0
  t3 := Tryd.underlying3
  a3 := Tryd.isAgg3
  z3 := Tryd.sizeOf3
  v3 := Tryd.zeroValue3
  t4 := Tryd.underlying4
  a4 := Tryd.isAgg4
  z4 := Tryd.sizeOf4
  v4 := Tryd.zeroValue4
  t5 := Tryd.underlying5
  a5 := Tryd.isAgg5
  z5 := Tryd.sizeOf5
  v5 := Tryd.zeroValue5
  t9 := Tryd.underlying9
  a9 := Tryd.isAgg9
  z9 := Tryd.sizeOf9
  v9 := Tryd.zeroValue9
  t21 := Tryd.underlying21
  a21 := Tryd.isAgg21
  z21 := Tryd.sizeOf21
  v21 := Tryd.zeroValue21
  t31 := Tryd.underlying29
  a31 := Tryd.isAgg29
  z31 := Tryd.sizeOf29
  v31 := Tryd.zeroValue29
  t46 := Tryd.underlying72
  a46 := Tryd.isAgg72
  z46 := Tryd.sizeOf72
  v46 := Tryd.zeroValue72
  t51 := Tryd.underlying85
  a51 := Tryd.isAgg85
  z51 := Tryd.sizeOf85
  v51 := Tryd.zeroValue85
  t105 := Tryd.underlying126
  a105 := Tryd.isAgg126
  z105 := Tryd.sizeOf126
  v105 := Tryd.zeroValue126
  t119 := Tryd.underlying130
  a119 := Tryd.isAgg130
  z119 := Tryd.sizeOf130
  t138 := Tryd.underlying132
  a138 := Tryd.isAgg132
  z138 := Tryd.sizeOf132
  v138 := Tryd.zeroValue132
  t139 := Tryd.underlying133
  a139 := Tryd.isAgg133
  z139 := Tryd.sizeOf133
  v139 := Tryd.zeroValue133
  t146 := Tryd.underlying134
  a146 := Tryd.isAgg134
  z146 := Tryd.sizeOf134
  v146 := Tryd.zeroValue134
  g1 := by kernel_rfl
  g3 := by kernel_rfl
  g4 := by kernel_rfl }
theorem Tryd.strings_Split (s sep : ByteArray) (m : Int) (w : World) (hs : s.size < 4294967281) (hm : w.cell? ⟨0, 0, none⟩ = some (.int .i64 m)) (h1 : 1 ≤ sep.size) :
    Calls Tryd.prog 80 #[.string s, .string sep] w fun e w' =>
      e = .returned (.slice (some ⟨w.heap.size, 0, none⟩) (Lib.countB s sep + 1) (Lib.countB s sep + 1)) ∧ w' = w.alloc (.cells ((Lib.splitB sep 0 (Lib.countB s sep) s).map Value.string).toArray 9) := Any.strings_Split Tryd.lays146 (by kernel_rfl) s sep m w hs hm h1
/-- The library's one variable that the search reads holds an int. -/
theorem Tryd.max_len (w : World) (h : w.ShapedOpen Tryd.prog) : ∃ m, w.cell? ⟨0, 0, none⟩ = some (.int .i64 m) := Tryd.laysM143.s1_3 w h
/-- The text of a builder of the call's own. -/
theorem Tryd.build_text (B b : Nat) (l : List UInt8) (w : World) (h : Lib.IsBuilder 103 5 B b (Lib.byteCells l) w) (hBw : B ≤ w.heap.size) :
    Calls Tryd.prog 77 #[.pointer (some ⟨b, 0, none⟩)] w fun e w' => e = .returned (.string ⟨l.toArray⟩) ∧ Below B w w' := Tryd.Builder_String_any B b l w h hBw
/-- What begins with what. -/
theorem Tryd.has_prefix (s p : ByteArray) (w : World) : Calls Tryd.prog 78 #[.string s, .string p] w fun e w' => e = .returned (.bool (Lib.hasPrefix s.data.toList p.data.toList)) ∧ w' = w := Tryd.strings_HasPrefix s p w
/-- The pieces between separators. -/
theorem Tryd.split_at (s sep : ByteArray) (m : Int) (w : World) (hs : s.size < 4294967281) (hm : w.cell? ⟨0, 0, none⟩ = some (.int .i64 m)) (h1 : 1 ≤ sep.size) :
    Calls Tryd.prog 80 #[.string s, .string sep] w fun e w' =>
      e = .returned (.slice (some ⟨w.heap.size, 0, none⟩) (Lib.countB s sep + 1) (Lib.countB s sep + 1)) ∧ w' = w.alloc (.cells ((Lib.splitB sep 0 (Lib.countB s sep) s).map Value.string).toArray 9) :=
  Tryd.strings_Split s sep m w hs hm h1
end Go.Proofs

/- Walks: the writers of a strings.Builder that the call has made itself. -/
namespace Go.Proofs.YtoahfhidekmodaaDoor.D1
open Go.RowKit Pth

theorem szB : (Tryd.prog.info? 103).map (·.size) = some 2 := by kernel_rfl
theorem lieB : liesAt Tryd.prog Tryd.prog.depth 103 (2 / Tryd.prog.cellsOf 103) 0 103 1 = true := by kernel_rfl
theorem infoB : (Tryd.prog.info? 5).map (fun i => (i.zero, i.size, i.bytes)) = some (some (.int .u8 0), 1, 1) := by kernel_rfl
theorem infoS : (Tryd.prog.info? 9).map (fun i => (i.zero, i.size, i.bytes)) = some (some (.string ByteArray.empty), 1, 16) := by kernel_rfl

set_option maxHeartbeats 400000 in
set_option maxRecDepth 100000 in
theorem check_used (b : Nat) (w : World) (h0 : w.cell? ⟨b, 0, none⟩ = some (.pointer (some ⟨b, 0, none⟩))) :
    Calls Tryd.prog 83 #[.pointer (some ⟨b, 0, none⟩)] w fun e w' => e = .returned (.tuple #[]) ∧ w = w' := by
  obtain ⟨j, hj, _⟩ := Option.map_eq_some_iff.1 szB
  go_enter Tryd.func83, Tryd.ntmps83
  go_wp2
  rw [Lib.run_neq_ptr_same w _ Tryd.underlying101 hj]
  go_wp2
  go_end0
  exact ⟨rfl, rfl⟩

set_option maxHeartbeats 400000 in
set_option maxRecDepth 100000 in
theorem check_fresh (b : Nat) (w : World) (h0 : w.cell? ⟨b, 0, none⟩ = some (.pointer none)) (hsh : w.shape? b = some (103, 2)) (hfz : w.frozen? ⟨b, 0, none⟩ = false) :
    Calls Tryd.prog 83 #[.pointer (some ⟨b, 0, none⟩)] w fun e w' => e = .returned (.tuple #[]) ∧ w' = w.setCell ⟨b, 0, none⟩ (.pointer (some ⟨b, 0, none⟩)) := by
  obtain ⟨j, hj, hjs⟩ := Option.map_eq_some_iff.1 szB
  go_enter Tryd.func83, Tryd.ntmps83
  go_wp2
  rw [Lib.run_to_unsafe w ⟨b, 0, none⟩ Tryd.underlying101 Tryd.underlying122 hj (by rw [hjs]; decide) hsh (Nat.zero_lt_succ 1)]
  simp only [Result.andThen]
  rw [Oper.upon_value]
  go_wp2
  rw [run_callFunc_extern Tryd.func90 (by kernel_rfl) (by kernel_rfl) (by kernel_rfl) (e := Extern.AbiNoEscape.same) (by kernel_rfl)]
  rw [Lib.run_noEscape]
  simp only [Result.andThen]
  rw [Oper.upon_value]
  go_wp2
  rw [Lib.run_from_unsafe w ⟨b, 0, none⟩ Tryd.underlying122 Tryd.underlying101 hj hsh lieB]
  simp only [Result.andThen]
  rw [Oper.upon_value]
  go_wp2
  go_end0
  exact ⟨rfl, rfl⟩

/-- Behind the check the builder holds its own address. -/
theorem check_any (B b : Nat) (bs : List Value) (w : World) (h : Lib.IsBuilder 103 5 B b bs w) :
    Calls Tryd.prog 83 #[.pointer (some ⟨b, 0, none⟩)] w fun e w' => e = .returned (.tuple #[]) ∧ Lib.BuilderAt 103 5 B b (.pointer (some ⟨b, 0, none⟩)) bs w' ∧ Below B w w' := by
  rcases h with h | h
  · refine (check_fresh b w h.cell0 h.shape h.frozen0).mono ?_
    rintro e w' ⟨rfl, rfl⟩
    exact ⟨rfl, h.used _, (Below.refl B w).setCell (p := ⟨b, 0, none⟩) h.1 _⟩
  · refine (check_used b w h.cell0).mono ?_
    rintro e w' ⟨rfl, rfl⟩
    exact ⟨rfl, h, Below.refl B _⟩

theorem lt_of_block {w : World} {b : Nat} {o : Obj} (h : w.heap[b]? = some o) : b < w.heap.size := by
  rcases Nat.lt_or_ge b w.heap.size with h' | h'
  · exact h'
  · rw [Array.getElem?_eq_none h'] at h; cases h

theorem one_new (w : World) (x : Value) (t : TypeId) : ∀ j u, [x][j]? = some u → (w.alloc (.cells #[x] t)).cell? ((⟨w.heap.size, 0, none⟩ : Addr).add j) = some u := by
  intro j u hj
  match j, hj with
  | 0, hj => simp at hj; subst hj; simp [Addr.add]

theorem own_slice {w : World} {B e n : Nat} {v : Value} {xs : List Value} (h : w.ownsRow B e 1 v n xs) : ∃ a c, v = .slice a n c := by
  rcases h.2 with ⟨hv, h0⟩ | ⟨g, cap, cur, hv, _⟩
  · exact ⟨none, 0, by rw [hv, h0]⟩
  · exact ⟨_, _, hv⟩

set_option maxHeartbeats 1000000 in
set_option maxRecDepth 100000 in
theorem writeByte_any (B b : Nat) (bs : List Value) (c : Int) (w : World) (h : Lib.IsBuilder 103 5 B b bs w) (hlen : bs.length + 1 ≤ 140737488355328) (hBw : B ≤ w.heap.size) :
    Calls Tryd.prog 75 #[.pointer (some ⟨b, 0, none⟩), .int .u8 c] w fun e w' => e = .returned .nilIface ∧ Lib.BuilderAt 103 5 B b (.pointer (some ⟨b, 0, none⟩)) (bs ++ [.int .u8 c]) w' ∧ Below B w w' := by
  obtain ⟨i0, hi, hz0, hz1, hz2⟩ := info_parts infoB
  go_enter Tryd.func75, Tryd.ntmps75
  go_wp2_with (go_at_call 83; refine (check_any B b bs _ h).mono ?_)
  rintro e w1 ⟨rfl, h1, hb1⟩
  obtain ⟨hB, v, hbk, hown, hne⟩ := h1
  have c0 : w1.cell? ⟨b, 0, none⟩ = some (.pointer (some ⟨b, 0, none⟩)) := by rw [Lib.cell_of_heap hbk]; rfl
  have c1 : w1.cell? ⟨b, 1, none⟩ = some v := by rw [Lib.cell_of_heap hbk]; rfl
  go_wp2_with (at_builtin; refine wpList_append_own _ rfl _ _ 88 rfl B 5 i0 (.int .u8 0) 1 1 Tryd.underlying88 hi hz0 hz1 hz2 rfl (by decide) _ _ _ rfl (hown.alloc _) ⟨w1.heap.size, 0, none⟩ 1 1 [.int .u8 c] rfl rfl ?c1 ?c2 ?c3 ?c4 ?c5 ?_)
  case c1 => exact one_new w1 _ _
  case c2 => intro u hu; simp at hu; subst hu; rfl
  case c3 => unfold maxLen; omega
  case c4 => omega
  case c5 => have := hb1.size; simp; omega
  intro v' w2 hown' hgrow _
  have hlt := lt_of_block hbk
  have hb2 : w2.heap[b]? = some (.cells #[.pointer (some ⟨b, 0, none⟩), v] 103 (0, 0)) := by
    rw [hgrow.block b (by simp; omega) (fun e => hne e.symm), Lib.alloc_old w1 _ b hlt]
    exact hbk
  have d0 : w2.cell? ⟨b, 0, none⟩ = some (.pointer (some ⟨b, 0, none⟩)) := by rw [Lib.cell_of_heap hb2]; rfl
  have d1 : w2.cell? ⟨b, 1, none⟩ = some v := by rw [Lib.cell_of_heap hb2]; rfl
  have f1 : w2.frozen? ⟨b, 1, none⟩ = false := Lib.frozen_of_heap hb2 1
  obtain ⟨ao, cap, rfl⟩ := own_slice hown'
  go_wp2
  go_ret
  refine ⟨rfl, ?_, ?_⟩
  · exact Lib.BuilderAt.put (T := 103) (e := 5) hB hb2 (bs' := bs ++ [.int .u8 c]) (by simpa using hown') (by decide)
  · exact ((hb1.alloc (by have := hb1.size; omega) _).grown hgrow (by have := hb1.size; simp; omega) (fun k hk => (hown.lt k hk).1)).setCell (p := ⟨b, 1, none⟩) hB _

set_option maxHeartbeats 1000000 in
set_option maxRecDepth 100000 in
theorem writeString_any (B b : Nat) (bs : List Value) (s : ByteArray) (w : World) (h : Lib.IsBuilder 103 5 B b bs w) (hlen : bs.length + s.size ≤ 140737488355328) (hBw : B ≤ w.heap.size) :
    Calls Tryd.prog 76 #[.pointer (some ⟨b, 0, none⟩), .string s] w fun e w' => e = .returned (.tuple #[.int .i64 s.size, .nilIface]) ∧ Lib.BuilderAt 103 5 B b (.pointer (some ⟨b, 0, none⟩)) (bs ++ Lib.strCells s) w' ∧ Below B w w' := by
  obtain ⟨i0, hi, hz0, hz1, hz2⟩ := info_parts infoB
  go_enter Tryd.func76, Tryd.ntmps76
  go_wp2_with (go_at_call 83; refine (check_any B b bs _ h).mono ?_)
  rintro e w1 ⟨rfl, h1, hb1⟩
  obtain ⟨hB, v, hbk, hown, hne⟩ := h1
  have c0 : w1.cell? ⟨b, 0, none⟩ = some (.pointer (some ⟨b, 0, none⟩)) := by rw [Lib.cell_of_heap hbk]; rfl
  have c1 : w1.cell? ⟨b, 1, none⟩ = some v := by rw [Lib.cell_of_heap hbk]; rfl
  go_wp2_with (at_builtin; refine Lib.wpList_append_own_string _ rfl _ _ 88 9 rfl B 5 i0 Tryd.underlying88 Tryd.underlying9 hi hz0 hz1 hz2 _ _ _ rfl hown s rfl ?c3 ?c4 ?c5 ?_)
  case c3 => unfold maxLen; omega
  case c4 => omega
  case c5 => have := hb1.size; omega
  intro v' w2 hown' hgrow _
  have hlt := lt_of_block hbk
  have hb2 : w2.heap[b]? = some (.cells #[.pointer (some ⟨b, 0, none⟩), v] 103 (0, 0)) := by
    rw [hgrow.block b hlt (fun e => hne e.symm)]
    exact hbk
  have d0 : w2.cell? ⟨b, 0, none⟩ = some (.pointer (some ⟨b, 0, none⟩)) := by rw [Lib.cell_of_heap hb2]; rfl
  have d1 : w2.cell? ⟨b, 1, none⟩ = some v := by rw [Lib.cell_of_heap hb2]; rfl
  have f1 : w2.frozen? ⟨b, 1, none⟩ = false := Lib.frozen_of_heap hb2 1
  obtain ⟨ao, cap, rfl⟩ := own_slice hown'
  go_wp2
  go_ret2
  refine ⟨rfl, ?_, ?_⟩
  · exact Lib.BuilderAt.put (T := 103) (e := 5) hB hb2 (bs' := bs ++ Lib.strCells s) (by simpa [Lib.strCells_length] using hown') (by decide)
  · exact (hb1.grown hgrow (by have := hb1.size; omega) (fun k hk => (hown.lt k hk).1)).setCell (p := ⟨b, 1, none⟩) hB _

end Go.Proofs.YtoahfhidekmodaaDoor.D1

/- Walks: the reference's paths: pieces, parts, text. -/
namespace Go.Proofs.YtoahfhidekmodaaDoor.D1
open Go.RowKit Pth

/-- Texts as cells. -/
def S (l : List (List UInt8)) : List Value := l.map fun x => .string ⟨x.toArray⟩
theorem S_len (l : List (List UInt8)) : (S l).length = l.length := by simp [S]
theorem S_snoc (l : List (List UInt8)) (x : List UInt8) : S (l ++ [x]) = S l ++ [.string ⟨x.toArray⟩] := by simp [S]

/-- A list of texts is handed back in memory of the call's own. -/
def RowPost (B : Nat) (l : List (List UInt8)) (w : World) (e : Ending) (w' : World) : Prop :=
  ∃ v, e = .returned v ∧ w'.ownsRow B 9 1 v l.length (S l) ∧ Below B w w'

theorem extract_mid (s : ByteArray) (f k : Nat) : s.extract f k = ⟨(mid s.data.toList f k).toArray⟩ := by
  apply ByteArray.ext
  apply Array.ext'
  simp [mid, ByteArray.data_extract, List.extract_eq_take_drop, List.drop_take]

/-- A text put behind a list of the call's own. -/
theorem wpApp {ops : Array Oper} {rest : List Oper} {o : Oper} {a : Act} {Q : Exit → Act → World → Prop} {w : World} {z : ByteArray} (hgd : o.guard = none) (s x : Operand)
    (ho : o.op = .call { callee := .builtin .append, args := #[s, x], argTypes := #[29, 29] })
    (B : Nat) (v : Value) (l : List (List UInt8)) (y : List UInt8) (hz : z = ⟨y.toArray⟩) (hs : a.eval s = v) (hown : w.ownsRow B 9 1 v l.length (S l)) (N : Nat) (hx : a.eval x = .slice (some ⟨N, 0, none⟩) 1 1) (hN : N = w.heap.size)
    (hlen : l.length ≤ 1000000) (hB : B ≤ w.heap.size)
    (h : ∀ v' w', w'.ownsRow B 9 1 v' (l ++ [y]).length (S (l ++ [y])) → Below B w w' → w.grownBy w' v.ownBlock → wpList Tryd.prog ops Q rest (a.put o.dst v') w') :
    wpList Tryd.prog ops Q (o :: rest) a (w.alloc (.cells #[.string z] 9)) := by
  subst hz hN
  obtain ⟨i0, hi, hz0, hz1, hz2⟩ := info_parts infoS
  refine wpList_append_own _ hgd s x 29 ho B 9 i0 (.string ByteArray.empty) 1 16 Tryd.underlying29 hi hz0 hz1 hz2 rfl (by decide) v l.length (S l) hs (hown.alloc _) ⟨w.heap.size, 0, none⟩ 1 1 [.string ⟨y.toArray⟩] hx rfl (one_new w _ _) ?_ ?_ ?_ ?_ ?_
  · intro u hu; simp at hu; subst hu; rfl
  · unfold maxLen; omega
  · omega
  · simp; omega
  · intro v' w' h1 h2 _
    have hg : w.grownBy w' v.ownBlock := ⟨h2.os, h2.tape, h2.output, Nat.le_trans (by simp) h2.size, fun k hk hne => (h2.block k (by simp; omega) hne).trans (Below.heap_alloc _ _ _ hk)⟩
    refine h v' w' (by simpa [S_snoc] using h1) ?_ hg
    exact (Below.refl B w).grown hg hB (fun k hk => (hown.lt k hk).1)

set_option maxHeartbeats 1000000 in
theorem l1Split_any (s : ByteArray) (w : World) (hs : s.size ≤ 1000) :
    Calls Tryd.prog 52 #[.string s, .int .u8 47] w (RowPost w.heap.size (splitL s.data.toList) w) := by
  go_enter Tryd.func52, Tryd.ntmps52
  go_wp2
  go_loopw [5, 6, 7] (fun v f i wr => ∃ (acc : List (List UInt8)) (a k : Nat), a ≤ k ∧ k ≤ s.size ∧ acc.length ≤ k ∧ f = .int .i64 a ∧ i = .int .i64 k ∧ wr.ownsRow w.heap.size 9 1 v acc.length (S acc) ∧ Below w.heap.size w wr ∧
     Hid (splitL s.data.toList = acc ++ splitAux (mid s.data.toList a k).reverse (s.data.toList.drop k))) (fun _ _ i _ => s.size - (intOf i).toNat)
  case atStart => exact ⟨[], 0, 0, Nat.le_refl _, Nat.zero_le _, by simp, rfl, rfl, World.ownsRow_nil _ _ _ _, Below.refl _ _, split_start s⟩
  case round =>
    obtain ⟨acc, a, k, hak, hk, hal, rfl, rfl, hown, hb, HS⟩ := hrel
    have hbs := hb.size
    by_cases hlt : k < s.size
    · by_cases hc : s[k].toNat = 47
      · have hc1 : ((s[k].toNat : Int) == 47) = true := by simp [hc]
        have HC : Hid (s[k].toNat = 47) := hc
        clear hc
        go_wp2_with (at_builtin; go_must (refine wpApp rfl _ _ rfl w.heap.size _ acc (mid s.data.toList a k) (extract_mid s a k) rfl hown _ rfl rfl (by omega) hbs ?_); intro v' w2 hown2 hb2 hg2)
        go_roundw
        case rel => exact ⟨acc ++ [mid s.data.toList a k], k + 1, k + 1, by omega, by omega, by simp; omega, by go_num, by go_num, hown2, hb.trans hb2, split_slash hlt HC.out HS.out⟩
        case measure => simp [intOf]; omega
      · have hc1 : ((s[k].toNat : Int) == 47) = false := by simp; omega
        have HC : Hid (¬ s[k].toNat = 47) := hc
        clear hc
        go_wp2_with fail
        go_roundw
        case rel => exact ⟨acc, a, k + 1, by omega, by omega, by omega, rfl, by go_num, hown, hb, split_other hak hlt HC.out HS.out⟩
        case measure => simp [intOf]; omega
    · go_wp2_with (at_builtin; refine wpApp rfl _ _ rfl w.heap.size _ acc (mid s.data.toList a s.size) (extract_mid s a s.size) rfl hown _ rfl rfl (by omega) hbs ?_; intro v' w2 hown2 hb2 hg2)
      go_ret
      exact ⟨_, rfl, by rw [split_end (k := k) (by omega) HS.out]; exact hown2, hb.trans hb2⟩

end Go.Proofs.YtoahfhidekmodaaDoor.D1

/- Walks: the reference's parts of a path. -/
namespace Go.Proofs.YtoahfhidekmodaaDoor.D1
open Go.RowKit Pth

theorem S_at {l : List (List UInt8)} {k : Nat} (hk : k < l.length) : (S l)[k]? = some (.string ⟨(l[k]).toArray⟩) := by
  simp [S, hk]

theorem own_at {w : World} {B n : Nat} {v : Value} {l : List (List UInt8)} (h : w.ownsRow B 9 1 v n (S l)) (k : Nat) (hk : k < l.length) :
    ∃ g cap, v = .slice (some ⟨g, 0, none⟩) n cap ∧ B ≤ g ∧ g < w.heap.size ∧ n ≤ cap ∧ cap ≤ maxLen ∧ w.cell? ⟨g, k, none⟩ = some (.string ⟨(l[k]).toArray⟩) := by
  have hn : n = l.length := by have := h.1; rw [S_len] at this; omega
  rcases h.2 with ⟨_, h0⟩ | ⟨g, cap, cur, hv, hB, hh, hnc, hcm, _⟩
  · omega
  · refine ⟨g, cap, hv, hB, lt_of_block hh, hnc, hcm, ?_⟩
    have := h.cells (g := g) (by rw [hv]; rfl) k _ (S_at hk)
    have e : (⟨g, 0, none⟩ : Addr).add k = ⟨g, k, none⟩ := by unfold Addr.add; split <;> simp_all
    rw [e] at this
    exact this

theorem own_pop {w : World} {B g c : Nat} {a : List (List UInt8)} {q : List UInt8} (h : w.ownsRow B 9 1 (.slice (some ⟨g, 0, none⟩) (a.length + 1) c) (a.length + 1) (S (a ++ [q]))) :
    w.ownsRow B 9 1 (.slice (some ⟨g, 0, none⟩) a.length c) a.length (S a) := by
  rcases h.2 with ⟨h0, _⟩ | ⟨g', cap', cur, hv, hB, hh, hn, hcap, hsz, htake⟩
  · cases h0
  · cases hv
    refine ⟨by rw [S_len]; omega, .inr ⟨g, c, cur, rfl, hB, hh, by omega, hcap, hsz, ?_⟩⟩
    have h3 : (cur.toList.take ((a.length + 1) * 1)).take (a.length * 1) = (S (a ++ [q])).take (a.length * 1) := by rw [htake]
    rw [List.take_take, Nat.min_eq_left (by omega)] at h3
    rw [h3, S_snoc, Nat.mul_one]
    have e : a.length = (S a).length := (S_len a).symm
    rw [e]
    simp

theorem l1Rooted_eq {b : Bool} (s : ByteArray) (w : World) (hs : s.size ≤ 1000) (hb : Hid (rootedL s.data.toList = b)) :
    Calls Tryd.prog 46 #[.string s] w fun e w' => e = .returned (.bool b) ∧ w = w' := by
  have h := l1Rooted_any s w (by unfold maxLen; omega)
  rw [hb.out] at h
  exact h

theorem own_base {w : World} {B B' n : Nat} {v : Value} {xs : List Value} (h : w.ownsRow B 9 1 v n xs) (hB : B' ≤ B) : w.ownsRow B' 9 1 v n xs := by
  refine ⟨h.1, ?_⟩
  rcases h.2 with h0 | ⟨g, cap, cur, hv, hg, r⟩
  · exact .inl h0
  · exact .inr ⟨g, cap, cur, hv, by omega, r⟩

/-- The last one of a list, where it has one. -/
theorem last_of (acc : List (List UInt8)) : acc = [] ∨ ∃ a q, acc = a ++ [q] := by
  rcases List.eq_nil_or_concat acc with h | ⟨a, q, h⟩
  · exact .inl h
  · exact .inr ⟨a, q, by rw [h, List.concat_eq_append]⟩

theorem own_last {w : World} {B n : Nat} {v : Value} {a : List (List UInt8)} {q : List UInt8} (h : w.ownsRow B 9 1 v n (S (a ++ [q]))) :
    ∃ g cap, v = .slice (some ⟨g, 0, none⟩) n cap ∧ B ≤ g ∧ g < w.heap.size ∧ n ≤ cap ∧ cap ≤ maxLen ∧ w.cell? ⟨g, a.length, none⟩ = some (.string ⟨q.toArray⟩) := by
  have := own_at h a.length (by simp)
  simpa using this

set_option maxHeartbeats 2000000 in
theorem l1Parts_any (s : ByteArray) (w : World) (hs : s.size ≤ 1000) :
    Calls Tryd.prog 45 #[.string s] w (RowPost w.heap.size (partsL s.data.toList) w) := by
  go_enter Tryd.func45, Tryd.ntmps45
  go_wp2_with (go_at_call 52; refine (l1Split_any s _ hs).mono ?_)
  rintro e w1 ⟨v1, rfl, hown1, hb1⟩
  obtain ⟨ao, cap, rfl⟩ := own_slice hown1
  have hb1s := hb1.size
  have hls := split_len s
  go_wp2_with fail
  go_loopw [3, 10] (fun v i wr => ∃ (acc : List (List UInt8)) (k : Nat), k ≤ (splitL s.data.toList).length ∧ acc.length ≤ k ∧ i = .int .i64 k ∧ wr.ownsRow w1.heap.size 9 1 v acc.length (S acc) ∧ Below w1.heap.size w1 wr ∧
     Hid (partsL s.data.toList = partsFrom (rootedL s.data.toList) acc ((splitL s.data.toList).drop k))) (fun _ i _ => (splitL s.data.toList).length - (intOf i).toNat)
  case atStart => exact ⟨[], 0, Nat.zero_le _, by simp, rfl, World.ownsRow_nil _ _ _ _, Below.refl _ _, rfl⟩
  case round =>
    obtain ⟨acc, k, hk, hal, rfl, hown, hb, HS⟩ := hrel
    have hbs := hb.size
    by_cases hlt : k < (splitL s.data.toList).length
    · obtain ⟨g, cap', hv, hg1, hg2, _, _, hcell⟩ := own_at hown1 k hlt
      injection hv with hv1 hv2 hv3
      subst hv1
      have hcr : wr.cell? ⟨g, k, none⟩ = some (.string ⟨((splitL s.data.toList)[k]).toArray⟩) := by rw [hb.cell (p := ⟨g, k, none⟩) hg2]; exact hcell
      clear hv3 hcell
      have HS2 : Hid (partsL s.data.toList = partsFrom (rootedL s.data.toList) (pstep (rootedL s.data.toList) acc ((splitL s.data.toList)[k])) ((splitL s.data.toList).drop (k + 1))) := parts_step hlt rfl HS.out
      generalize (splitL s.data.toList)[k] = p at hcr HS2
      clear HS
      by_cases hp0 : p = [] ∨ p = [46]
      · rw [pstep_skip hp0] at HS2
        obtain ⟨sv, sc, hsv⟩ := own_slice hown
        subst hsv
        rcases hp0 with hp0 | hp0
        all_goals
          subst hp0
          go_wp2_with fail
          go_roundw
          case rel => exact ⟨acc, k + 1, by omega, by omega, by go_num, hown, hb, HS2⟩
          case measure => simp [intOf]; omega
      · by_cases hp1 : p = dots
        · subst hp1
          unfold dots at hcr
          clear hp0
          rcases last_of acc with hacc | ⟨a, q, hacc⟩
          · subst hacc
            obtain ⟨sv, sc, hsv⟩ := own_slice hown
            subst hsv
            rcases hr : rootedL s.data.toList with _ | _
            · rw [hr, pstep_up0] at HS2
              have HR : Hid (rootedL s.data.toList = false) := hr
              clear hr
              go_wp2_with (first | (go_at_call 46; refine (l1Rooted_eq s _ hs HR).mono ?_; rintro e w' ⟨rfl, rfl⟩) | (at_builtin; refine wpApp rfl _ _ rfl w1.heap.size _ [] dots rfl rfl hown _ rfl rfl (by simp) hbs ?_; intro v' w2 hown2 hb2 hg2))
              go_roundw
              case rel => exact ⟨[] ++ [dots], k + 1, by omega, by simp, by go_num, hown2, hb.trans hb2, HS2⟩
              case measure => simp [intOf]; omega
            · rw [hr, pstep_stay0] at HS2
              have HR : Hid (rootedL s.data.toList = true) := hr
              clear hr
              go_wp2_with (go_at_call 46; refine (l1Rooted_eq s _ hs HR).mono ?_; rintro e w' ⟨rfl, rfl⟩)
              go_roundw
              case rel => exact ⟨[], k + 1, by omega, by simp, by go_num, hown, hb, HS2⟩
              case measure => simp [intOf]; omega
          · subst hacc
            have hn : (a ++ [q]).length = a.length + 1 := by simp
            rw [hn] at hown hal
            obtain ⟨g2, c2, hsv, hg3, hg4, hc3, hc4, hlast⟩ := own_last hown
            unfold maxLen at hc4
            subst hsv
            clear hn
            by_cases hq : q = dots
            · subst hq
              unfold dots at hlast
              rcases hr : rootedL s.data.toList with _ | _
              · rw [hr, pstep_up] at HS2
                have HR : Hid (rootedL s.data.toList = false) := hr
                clear hr
                go_wp2_with (first | (go_at_call 46; refine (l1Rooted_eq s _ hs HR).mono ?_; rintro e w' ⟨rfl, rfl⟩) | (at_builtin; refine wpApp rfl _ _ rfl w1.heap.size _ (a ++ [dots]) dots rfl rfl (by rw [List.length_append]; exact hown) _ rfl rfl (by simp; omega) hbs ?_; intro v' w2 hown2 hb2 hg2))
                go_roundw
                case rel => exact ⟨(a ++ [dots]) ++ [dots], k + 1, by omega, by simp; omega, by go_num, hown2, hb.trans hb2, HS2⟩
                case measure => simp [intOf]; omega
              · rw [hr, pstep_stay] at HS2
                have HR : Hid (rootedL s.data.toList = true) := hr
                clear hr
                go_wp2_with (go_at_call 46; refine (l1Rooted_eq s _ hs HR).mono ?_; rintro e w' ⟨rfl, rfl⟩)
                go_roundw
                case rel => exact ⟨a ++ [dots], k + 1, by omega, by simp; omega, by go_num, by rw [List.length_append]; exact hown, hb, HS2⟩
                case measure => simp [intOf]; omega
            · rw [pstep_drop hq] at HS2
              have hq1 : ¬ q = [46, 46] := hq
              have hq2 : (q == [46, 46]) = false := by simpa using hq1
              clear hq
              go_wp2_with fail
              go_roundw
              case rel => exact ⟨a, k + 1, by omega, by omega, by go_num, own_pop hown, hb, HS2⟩
              case measure => simp [intOf]; omega
        · have hp2 : ¬ p = [] := fun h => hp0 (.inl h)
          have hp3 : ¬ p = [46] := fun h => hp0 (.inr h)
          rw [pstep_name hp2 hp3 hp1] at HS2
          have hp4 : p.isEmpty = false := by simpa using hp2
          have hp5 : (p == [46]) = false := by simpa using hp3
          have hp6 : (p == [46, 46]) = false := by simpa [dots] using hp1
          have hp7 : ¬ p = [46, 46] := hp1
          clear hp0 hp1
          obtain ⟨sv, sc, hsv⟩ := own_slice hown
          subst hsv
          go_wp2_with (at_builtin; refine wpApp rfl _ _ rfl w1.heap.size _ acc p rfl rfl hown _ rfl rfl (by omega) hbs ?_; intro v' w2 hown2 hb2 hg2)
          go_roundw
          case rel => exact ⟨acc ++ [p], k + 1, by omega, by simp; omega, by go_num, hown2, hb.trans hb2, HS2⟩
          case measure => simp [intOf]; omega
    · go_wp2_with fail
      go_ret
      exact ⟨_, rfl, by rw [parts_end (k := k) (by omega) HS.out]; exact own_base hown hb1s, hb1.trans (hb.mono hb1s)⟩

end Go.Proofs.YtoahfhidekmodaaDoor.D1

/- Walks: the reference's text of parts, and its clean path. -/
namespace Go.Proofs.YtoahfhidekmodaaDoor.D1
open Go.RowKit Pth

/-- How many bytes the parts and their slashes are. -/
def weigh : List (List UInt8) → Nat
  | [] => 0
  | p :: r => p.length + 1 + weigh r
theorem weigh_take (l : List (List UInt8)) (k : Nat) (h : k < l.length) : weigh (l.take (k + 1)) = weigh (l.take k) + l[k].length + 1 := by
  induction l generalizing k with
  | nil => simp at h
  | cons p r ih =>
    cases k with
    | zero => simp [weigh]
    | succ k =>
      have := ih k (by simpa using h)
      simp only [List.take_succ_cons, weigh, List.getElem_cons_succ] at this ⊢
      omega
theorem weigh_le (l : List (List UInt8)) (k : Nat) : weigh (l.take k) ≤ weigh l := by
  induction l generalizing k with
  | nil => simp
  | cons p r ih =>
    cases k with
    | zero => simp [weigh]
    | succ k => have := ih k; simp only [List.take_succ_cons, weigh]; omega
theorem glue_len (l : List (List UInt8)) : (glue l).length ≤ weigh l := by
  induction l with
  | nil => simp [glue, weigh]
  | cons p r ih =>
    cases r with
    | nil => simp [glue, weigh]
    | cons q t => simp only [glue, weigh, List.length_append, List.length_cons] at ih ⊢; omega
theorem glue_take (l : List (List UInt8)) (k : Nat) (h : k < l.length) : glue (l.take (k + 1)) = if k = 0 then l[k] else glue (l.take k) ++ 47 :: l[k] := by
  rw [List.take_succ_eq_append_getElem h, glue_snoc]
  by_cases hk : k = 0
  · subst hk; simp
  · rw [if_neg hk, if_neg]
    intro h0
    have := congrArg List.length h0
    rw [List.length_take, List.length_nil] at this
    omega

/-- A text is handed back; below B nothing has turned. -/
def TextPost (B : Nat) (t : List UInt8) (w : World) (e : Ending) (w' : World) : Prop := e = .returned (.string ⟨t.toArray⟩) ∧ Below B w w'

theorem cat0 (p : List UInt8) : Value.string (⟨#[]⟩ ++ ⟨p.toArray⟩) = .string ⟨p.toArray⟩ := by
  rw [show (⟨#[]⟩ : ByteArray) = ⟨([] : List UInt8).toArray⟩ from rfl, ByteArray.mk_append_mk]; rfl
theorem cat1 (p : List UInt8) : Ending.returned (Value.string (⟨#[47]⟩ ++ ⟨p.toArray⟩)) = .returned (.string ⟨(47 :: p).toArray⟩) := by
  rw [show (⟨#[47]⟩ : ByteArray) = ⟨([47] : List UInt8).toArray⟩ from rfl, ByteArray.mk_append_mk]; rfl
theorem cat2 (a p : List UInt8) : Value.string (⟨a.toArray⟩ ++ ⟨#[47]⟩ ++ ⟨p.toArray⟩) = .string ⟨(a ++ 47 :: p).toArray⟩ := by
  rw [show (⟨#[47]⟩ : ByteArray) = ⟨([47] : List UInt8).toArray⟩ from rfl, ByteArray.mk_append_mk, ByteArray.mk_append_mk, List.append_assoc]; rfl

set_option maxHeartbeats 1000000 in
theorem l1Join_any (l : List (List UInt8)) (b : Bool) (B : Nat) (v : Value) (w : World) (hown : w.ownsRow B 9 1 v l.length (S l)) (hl : l.length ≤ 1000000) (hl2 : weigh l ≤ 1000000) :
    Calls Tryd.prog 44 #[v, .bool b] w fun e w' => e = .returned (.string ⟨(joinL l b).toArray⟩) ∧ w = w' := by
  obtain ⟨sv, sc, hsv⟩ := own_slice hown
  subst hsv
  go_enter Tryd.func44, Tryd.ntmps44
  go_wp2
  go_loop [5, 10] (fun t i => ∃ (k : Nat), k ≤ l.length ∧ i = .int .i64 k ∧ t = .string ⟨(glue (l.take k)).toArray⟩) (fun _ i => l.length - (intOf i).toNat)
  case atStart => exact ⟨0, Nat.zero_le _, rfl, rfl⟩
  case round =>
    obtain ⟨k, hk, rfl, rfl⟩ := hrel
    have hw1 := weigh_le l k
    have hw2 := glue_len (l.take k)
    have hgl : (glue (l.take k)).length ≤ 1000000 := by omega
    clear hw2
    by_cases hlt : k < l.length
    · obtain ⟨g, cap', hv, hg1, hg2, _, _, hcell⟩ := own_at hown k hlt
      injection hv with hv1 hv2 hv3
      subst hv1
      have HG := Lib.hid (glue_take l k hlt)
      have hw3 := weigh_take l k hlt
      have hw4 := weigh_le l (k + 1)
      generalize l[k] = p at hcell HG hw3
      have hpl : p.length ≤ 1000000 := by omega
      clear hv2 hv3 hw1 hw3 hw4
      by_cases hk0 : k = 0
      · subst hk0
        have hgk : Hid ((glue (l.take 1)) = p) := HG.out
        have g0 : glue (l.take 0) = [] := rfl
        rw [g0]
        clear HG g0 hgl
        go_wp2
        go_round
        case rel => exact ⟨1, by omega, rfl, by rw [hgk.out]; exact cat0 p⟩
        case measure => simp [intOf]; omega
      · have hgk : Hid ((glue (l.take (k + 1))) = glue (l.take k) ++ 47 :: p) := by have := HG.out; rw [if_neg hk0] at this; exact this
        have hk1 : 0 < k := by omega
        clear HG hk0
        go_wp2
        go_round
        case rel => exact ⟨k + 1, by omega, by go_num, by rw [hgk.out]; exact cat2 _ p⟩
        case measure => simp [intOf]; omega
    · have hkl : l.take k = l := List.take_of_length_le (by omega)
      rw [hkl] at hgl ⊢
      clear hkl hw1
      rcases b with _ | _
      · by_cases h0 : glue l = []
        · have HJ : Hid (joinL l false = [46]) := by simp [Hid, joinL, h0]
          rw [h0]
          clear h0 hgl
          go_wp2
          go_ret
          exact ⟨by rw [HJ.out] <;> rfl, rfl⟩
        · have HJ : Hid (joinL l false = glue l) := by simp [Hid, joinL, h0]
          have h1 : (glue l).isEmpty = false := by simpa using h0
          go_wp2
          go_ret
          exact ⟨by rw [HJ.out] <;> rfl, rfl⟩
      · have HJ : Hid (joinL l true = 47 :: glue l) := by simp [Hid, joinL]
        go_wp2
        go_ret
        exact ⟨by rw [HJ.out]; exact cat1 _, rfl⟩

theorem weigh_append (a b : List (List UInt8)) : weigh (a ++ b) = weigh a + weigh b := by
  induction a with
  | nil => simp [weigh]
  | cons p r ih => simp only [List.cons_append, weigh, ih]; omega
theorem weigh_splitAux (l : List UInt8) : ∀ cur, weigh (splitAux cur l) = cur.length + l.length + 1 := by
  induction l with
  | nil => intro cur; simp [splitAux, weigh]
  | cons c r ih =>
    intro cur
    rw [splitAux]
    split
    · simp only [weigh, ih, List.length_reverse, List.length_cons, List.length_nil]; omega
    · rw [ih]; simp only [List.length_cons]; omega
theorem weigh_pstep (b : Bool) (acc : List (List UInt8)) (p : List UInt8) : weigh (pstep b acc p) ≤ weigh acc + p.length + 1 := by
  unfold pstep
  split
  · omega
  · split
    · split
      · rcases last_of acc with h | ⟨a, q, h⟩
        · rw [h]; simp [weigh]
        · rw [h, List.dropLast_concat, weigh_append]; omega
      · split
        · omega
        · rw [weigh_append]; simp [weigh]; omega
    · rw [weigh_append]; simp [weigh]; omega
theorem weigh_from (b : Bool) (r : List (List UInt8)) : ∀ acc, weigh (partsFrom b acc r) ≤ weigh acc + weigh r := by
  induction r with
  | nil => intro acc; simp [partsFrom, weigh]
  | cons p t ih =>
    intro acc
    rw [partsFrom]
    have := ih (pstep b acc p)
    have := weigh_pstep b acc p
    simp only [weigh]
    omega
theorem weigh_parts (s : ByteArray) : weigh (partsL s.data.toList) ≤ s.size + 1 := by
  have h := weigh_from (rootedL s.data.toList) (splitL s.data.toList) []
  have h2 := weigh_splitAux s.data.toList []
  rw [len_eq] at h2
  simp only [weigh, List.length_nil] at h h2
  unfold partsL
  unfold splitL at h ⊢
  omega
theorem len_weigh (l : List (List UInt8)) : l.length ≤ weigh l := by
  induction l with
  | nil => simp [weigh]
  | cons p r ih => simp only [weigh, List.length_cons]; omega

set_option maxHeartbeats 1000000 in
theorem l1Clean_any (s : ByteArray) (w : World) (hs : s.size ≤ 1000) :
    Calls Tryd.prog 37 #[.string s] w (TextPost w.heap.size (cleanL s.data.toList) w) := by
  have hw1 := weigh_parts s
  have hw2 := len_weigh (partsL s.data.toList)
  go_enter Tryd.func37, Tryd.ntmps37
  go_wp2_with fail
  refine (l1Parts_any s _ hs).mono ?_
  rintro e w1 ⟨v1, rfl, hown1, hb1⟩
  go_wp2_with fail
  refine (l1Rooted_any s _ (by unfold maxLen; omega)).mono ?_
  rintro e w' ⟨rfl, rfl⟩
  go_wp2_with fail
  refine (l1Join_any _ _ _ _ _ hown1 (by omega) (by omega)).mono ?_
  rintro e w' ⟨rfl, rfl⟩
  go_wp2_with fail
  go_ret
  exact ⟨rfl, hb1⟩

/-- A text and a bool are handed back; what lay there lies there. -/
def TwoPost (t : List UInt8) (b : Bool) (w : World) (e : Ending) (w' : World) : Prop := e = .returned (.tuple #[.string ⟨t.toArray⟩, .bool b]) ∧ Below w.heap.size w w'
def BothPost (t : Bool) (b : Bool) (w : World) (e : Ending) (w' : World) : Prop := e = .returned (.tuple #[.bool t, .bool b]) ∧ Below w.heap.size w w'

theorem l1Path_eq {b : Bool} (s : ByteArray) (w : World) (hs : s.size ≤ maxLen) (hb : Hid (pathL s.data.toList = b)) :
    Calls Tryd.prog 36 #[.string s] w fun e w' => e = .returned (.bool b) ∧ w = w' := by
  have h := l1Path_any s w hs
  rw [hb.out] at h
  exact h
theorem path_size {s : ByteArray} (h : pathL s.data.toList = true) : s.size ≤ 60 := by
  simp only [pathL, Bool.and_eq_true, decide_eq_true_eq, len_eq] at h
  exact h.2

/-- What CleanPath answers. -/
def cleanT (l : List UInt8) : List UInt8 := if pathL l then cleanL l else []

end Go.Proofs.YtoahfhidekmodaaDoor.D1

/- Walks: the program's test on a path, and its text of a route. -/
namespace Go.Proofs.YtoahfhidekmodaaDoor.D1
open Go.RowKit Pth

/-- A bool is handed back; what lay there lies there. -/
def BoolPost (b : Bool) (w : World) (e : Ending) (w' : World) : Prop := e = .returned (.bool b) ∧ Below w.heap.size w w'

theorem isPathRune_eq {b : Bool} (c : Int) (w : World) (h : Hid (pb c = b)) :
    Calls Tryd.prog 74 #[.int .i32 c] w fun e w' => e = .returned (.bool b) ∧ w = w' := by
  have := isPathRune_any c w
  rw [h.out] at this
  exact this

set_option maxHeartbeats 1000000 in
theorem isPath_any (s : ByteArray) (w : World) (hs : s.size ≤ maxLen) :
    Calls Tryd.prog 65 #[.string s] w (BoolPost (pathL s.data.toList) w) := by
  unfold maxLen at hs
  by_cases hbig : 60 < s.size
  · have HP := Lib.hid (pathL_long hbig)
    go_enter Tryd.func65, Tryd.ntmps65
    go_wp2
    go_ret
    exact ⟨ret_bool HP.out.symm, Below.refl _ _⟩
  · go_enter Tryd.func65, Tryd.ntmps65
    go_wp2
    go_loopw [] (fun wr => ∃ pos : Nat, pos ≤ s.size ∧ wr = w.iter s pos ∧ Hid (okL (s.data.toList.take pos) = true)) (fun wr => s.size - wr.iterPos w.heap.size)
    case atStart => exact ⟨0, Nat.zero_le _, rfl, rfl⟩
    case round =>
      obtain ⟨pos, hp, rfl, HO⟩ := hrel
      by_cases hlt : pos < s.size
      · have hnx : ∀ ty, (Instr.next (.pointer (some ⟨w.heap.size, 0, none⟩)) true ty).run Tryd.prog (w.iter s pos) = _ := fun ty => run_next_any w s pos ty hlt
        by_cases ha : s[pos].toNat < 128
        · rw [decode_ascii s pos hlt ha] at hnx
          rcases hpb : pb (s[pos].toNat : Int) with _ | _
          · have HB := Lib.hid hpb
            clear hpb
            go_wp2_with (go_at_call 74; refine (isPathRune_eq _ _ HB).mono ?_; rintro e w' ⟨rfl, rfl⟩)
            go_ret
            exact ⟨ret_bool (pathL_false pos hlt HB.out).symm, (Below.refl _ _).alloc (Nat.le_refl _) _⟩
          · have HB := Lib.hid hpb
            clear hpb
            go_wp2_with (go_at_call 74; refine (isPathRune_eq _ _ HB).mono ?_; rintro e w' ⟨rfl, rfl⟩)
            go_roundw
            case rel => exact ⟨pos + 1, by omega, rfl, okL_next hlt HO.out HB.out⟩
            case measure => rw [World.iterPos_iter, World.iterPos_iter]; omega
        · have hd := (decode_high s pos hlt (by omega)).1
          have HB : Hid (pb (((Utf8.decode s pos).1 : Nat) : Int) = false) := pb_high (by omega)
          go_wp2_with (go_at_call 74; refine (isPathRune_eq _ _ HB).mono ?_; rintro e w' ⟨rfl, rfl⟩)
          go_ret
          exact ⟨ret_bool (pathL_false pos hlt (pb_high (by omega))).symm, (Below.refl _ _).alloc (Nat.le_refl _) _⟩
      · have hnx : ∀ ty, (Instr.next (.pointer (some ⟨w.heap.size, 0, none⟩)) true ty).run Tryd.prog (w.iter s pos) = _ := fun ty => run_next_end w s pos ty hlt
        have HP := Lib.hid (pathL_end (k := pos) (by omega) HO.out)
        go_wp2
        go_ret
        exact ⟨ret_bool (by rw [HP.out]; simp; omega), (Below.refl _ _).alloc (Nat.le_refl _) _⟩

end Go.Proofs.YtoahfhidekmodaaDoor.D1

/- Walks: the program's text of a route. -/
namespace Go.Proofs.YtoahfhidekmodaaDoor.D1
open Go.RowKit Pth

/-- The text that the program makes of parts. -/
def textL (l : List (List UInt8)) (r : Bool) : List UInt8 := if r then 47 :: glue l else if l = [] then [46] else glue l
def headL (r : Bool) : List UInt8 := if r then [47] else []

/-- The builder as the loop leaves it. -/
def Writes (w : World) (o : Obj) (acc : List UInt8) (wr : World) : Prop :=
  Lib.IsBuilder 103 5 (w.heap.size + 1) (w.heap.size + 1) (Lib.byteCells acc) wr ∧ Below (w.heap.size + 1) (w.alloc o) wr

theorem Writes.fresh (w : World) (o : Obj) : Writes w o [] ((w.alloc o).alloc (.cells #[.pointer none, .slice none 0 0] 103)) := by
  have h := Lib.fresh_isBuilder 103 5 (w.alloc o)
  have e : (w.alloc o).heap.size = w.heap.size + 1 := by simp
  rw [e] at h
  exact ⟨h, (Below.refl _ _).alloc (by simp) _⟩
theorem Writes.size {w : World} {o : Obj} {acc : List UInt8} {wr : World} (h : Writes w o acc wr) : w.heap.size + 1 ≤ wr.heap.size := by
  have := h.2.size; simp at this; omega
theorem Writes.old {w : World} {o : Obj} {acc : List UInt8} {wr : World} (h : Writes w o acc wr) {p : Addr} {u : Value} (hp : p.block < w.heap.size) (hc : w.cell? p = some u) : wr.cell? p = some u := by
  rw [h.2.cell (by omega), World.cell?_alloc_lt w o p hp]; exact hc
theorem Writes.below {w : World} {o : Obj} {acc : List UInt8} {wr w' : World} (h : Writes w o acc wr) (hb : Below (w.heap.size + 1) wr w') : Below w.heap.size w w' :=
  ((Below.refl _ _).alloc (Nat.le_refl _) o).trans ((h.2.trans hb).mono (by omega))

theorem put_slash {w : World} {o : Obj} {acc : List UInt8} {wr : World} (h : Writes w o acc wr) (hl : acc.length ≤ 2000000) :
    Calls Tryd.prog 75 #[.pointer (some ⟨w.heap.size + 1, 0, none⟩), .int .u8 47] wr fun e w' => e = .returned .nilIface ∧ Writes w o (acc ++ [47]) w' := by
  refine (writeByte_any (w.heap.size + 1) (w.heap.size + 1) _ 47 wr h.1 (by rw [Lib.byteCells_length]; omega) h.size).mono ?_
  rintro e w' ⟨rfl, hA, hb⟩
  refine ⟨rfl, .inr ?_, h.2.trans hb⟩
  rw [Lib.byteCells_append]
  exact hA
theorem put_text {w : World} {o : Obj} {acc : List UInt8} {wr : World} (p : List UInt8) (h : Writes w o acc wr) (hl : acc.length + p.length ≤ 3000000) :
    Calls Tryd.prog 76 #[.pointer (some ⟨w.heap.size + 1, 0, none⟩), .string ⟨p.toArray⟩] wr fun e w' => e = .returned (.tuple #[.int .i64 (p.length : Int), .nilIface]) ∧ Writes w o (acc ++ p) w' := by
  have hz : (ByteArray.mk p.toArray).size = p.length := by simp [ByteArray.size]
  refine (writeString_any (w.heap.size + 1) (w.heap.size + 1) _ ⟨p.toArray⟩ wr h.1 (by rw [Lib.byteCells_length, hz]; omega) h.size).mono ?_
  rintro e w' ⟨rfl, hA, hb⟩
  refine ⟨by rw [hz], .inr ?_, h.2.trans hb⟩
  rw [Lib.byteCells_append]
  exact hA
theorem get_text {w : World} {o : Obj} {acc : List UInt8} {wr : World} (h : Writes w o acc wr) :
    Calls Tryd.prog 77 #[.pointer (some ⟨w.heap.size + 1, 0, none⟩)] wr fun e w' => e = .returned (.string ⟨acc.toArray⟩) ∧ Below w.heap.size w w' := by
  refine (Tryd.build_text (w.heap.size + 1) (w.heap.size + 1) acc wr h.1 h.size).mono ?_
  rintro e w' ⟨rfl, hb⟩
  exact ⟨rfl, h.below hb⟩

theorem text_next (l : List (List UInt8)) (r : Bool) (k : Nat) (hk : k < l.length) (h0 : 0 < k) : headL r ++ glue (l.take (k + 1)) = ((headL r ++ glue (l.take k)) ++ [47]) ++ l[k] := by
  rw [glue_take l k hk, if_neg (by omega)]; simp
theorem text_first (l : List (List UInt8)) (r : Bool) (hk : 0 < l.length) : headL r ++ glue (l.take (0 + 1)) = (headL r ++ glue (l.take 0)) ++ l[0] := by
  rw [glue_take l 0 hk, if_pos rfl]; simp [glue]
theorem head_len (r : Bool) : (headL r).length ≤ 1 := by cases r <;> simp [headL]
theorem text_end {l : List (List UInt8)} {r : Bool} (h : r = true ∨ ¬ l = []) : textL l r = headL r ++ glue l := by
  cases r
  · simp at h; simp [textL, headL, h]
  · simp [textL, headL]

/-- A slice that reads as a list of texts, wherever it lies. -/
def RowAt (w : World) (v : Value) (l : List (List UInt8)) : Prop :=
  ∃ a c, v = .slice a l.length c ∧ ∀ k (hk : k < l.length), ∃ g o, a = some ⟨g, o, none⟩ ∧ g < w.heap.size ∧ w.cell? ⟨g, o + k, none⟩ = some (.string ⟨(l[k]).toArray⟩)
theorem row_own {w : World} {B : Nat} {v : Value} {l : List (List UInt8)} (h : w.ownsRow B 9 1 v l.length (S l)) : RowAt w v l := by
  obtain ⟨a, c, hv⟩ := own_slice h
  refine ⟨a, c, hv, fun k hk => ?_⟩
  obtain ⟨g, cap, hv2, _, hg, _, _, hc⟩ := own_at h k hk
  rw [hv] at hv2
  injection hv2 with h1
  exact ⟨g, 0, h1, hg, by rw [Nat.zero_add]; exact hc⟩

set_option maxHeartbeats 2000000 in
theorem routeText_row (l : List (List UInt8)) (r : Bool) (v : Value) (w : World) (hrow : RowAt w v l) (hl2 : weigh l ≤ 1000000) :
    Calls Tryd.prog 66 #[.agg #[.bool r, v]] w (TextPost w.heap.size (textL l r) w) := by
  have hl := len_weigh l
  obtain ⟨sv, sc, hsv, hat⟩ := hrow
  subst hsv
  have HAT := Lib.hid hat
  clear hat
  by_cases he : r = false ∧ l = []
  · obtain ⟨rfl, rfl⟩ := he
    go_enter Tryd.func66, Tryd.ntmps66
    go_wp2
    go_ret
    exact ⟨rfl, (Below.refl _ _).alloc (Nat.le_refl _) _⟩
  · have HE : Hid (textL l r = headL r ++ glue l) := text_end (by cases r <;> simp_all)
    have hf := Writes.fresh w (.cells #[.bool r, .slice sv l.length sc] 92)
    rcases r with _ | _
    · have hne2 : 0 < l.length := by
        rcases l with _ | ⟨x, t⟩
        · simp at he
        · simp
      have hne : ((l.length : Int) == 0) = false := by rw [beq_eq_false_iff_ne]; omega
      clear he
      go_enter Tryd.func66, Tryd.ntmps66
      go_wp2_with fail
      clear hne
      go_loopw [21] (fun i wr => ∃ k : Nat, k ≤ l.length ∧ i = .int .i64 k ∧ Writes w (.cells #[.bool false, .slice sv l.length sc] 92) (headL false ++ glue (l.take k)) wr) (fun i _ => l.length - (intOf i).toNat)
      case atStart => exact ⟨0, Nat.zero_le _, rfl, by simpa [glue, headL] using hf⟩
      case round =>
        obtain ⟨k, hk, rfl, hW⟩ := hrel
        have hg1 := glue_len (l.take k)
        have hg2 := weigh_le l k
        have hg3 := head_len false
        have hg4 : (headL false ++ glue (l.take k)).length ≤ 1000001 := by rw [List.length_append]; omega
        clear hg1 hg2 hg3
        by_cases hlt : k < l.length
        · obtain ⟨g, o, hv1, hb2, hcell⟩ := HAT.out k hlt
          subst hv1
          have hcr := hW.old (p := ⟨g, o + k, none⟩) hb2 hcell
          have hw3 := weigh_take l k hlt
          have hw4 := weigh_le l (k + 1)
          have hpl : (l[k]).length ≤ 1000000 := by omega
          clear hcell hw3 hw4
          by_cases hk0 : 0 < k
          · have HN := Lib.hid (text_next l false k hlt hk0)
            generalize l[k] = p at hcr hpl HN
            go_wp2_with fail
            refine (put_slash hW (by omega)).mono ?_
            rintro e w2 ⟨rfl, hW2⟩
            go_wp2_with fail
            refine (put_text p hW2 (by rw [List.length_append, List.length_singleton]; omega)).mono ?_
            rintro e w3 ⟨rfl, hW3⟩
            go_wp2_with fail
            go_roundw
            case rel => exact ⟨k + 1, by omega, by go_num, by rw [HN.out]; exact hW3⟩
            case measure => simp [intOf]; omega
          · obtain rfl : k = 0 := by omega
            rw [Nat.add_zero] at hcr
            have HN := Lib.hid (text_first l false hlt)
            generalize l[0] = p at hcr hpl HN
            go_wp2_with fail
            refine (put_text p hW (by omega)).mono ?_
            rintro e w3 ⟨rfl, hW3⟩
            go_wp2_with fail
            go_roundw
            case rel => exact ⟨0 + 1, by omega, rfl, by rw [HN.out]; exact hW3⟩
            case measure => simp [intOf]; omega
        · have hkl : l.take k = l := List.take_of_length_le (by omega)
          rw [hkl] at hW
          obtain ⟨t, HT, hWt⟩ : ∃ t, Hid (textL l false = t) ∧ Writes w (.cells #[.bool false, .slice sv l.length sc] 92) t wr := ⟨_, HE, hW⟩
          clear hkl hg4 HE hW
          go_wp2_with fail
          refine (get_text hWt).mono ?_
          rintro e w3 ⟨rfl, hb⟩
          go_wp2_with fail
          go_ret
          exact ⟨by rw [HT.out] <;> rfl, hb⟩
    · clear he
      go_enter Tryd.func66, Tryd.ntmps66
      go_wp2_with fail
      refine (put_slash hf (by simp)).mono ?_
      rintro e w2 ⟨rfl, hW2⟩
      have hc1 : w2.cell? ⟨w.heap.size, 1, none⟩ = some (.slice sv l.length sc) := by
        rw [hW2.2.cell (p := ⟨w.heap.size, 1, none⟩) (by simp)]; simp
      go_wp2_with fail
      go_loopw [21] (fun i wr => ∃ k : Nat, k ≤ l.length ∧ i = .int .i64 k ∧ Writes w (.cells #[.bool true, .slice sv l.length sc] 92) (headL true ++ glue (l.take k)) wr) (fun i _ => l.length - (intOf i).toNat)
      case atStart => exact ⟨0, Nat.zero_le _, rfl, by simpa [glue, headL] using hW2⟩
      case round =>
        obtain ⟨k, hk, rfl, hW⟩ := hrel
        have hg1 := glue_len (l.take k)
        have hg2 := weigh_le l k
        have hg3 := head_len true
        have hg4 : (headL true ++ glue (l.take k)).length ≤ 1000001 := by rw [List.length_append]; omega
        clear hg1 hg2 hg3
        by_cases hlt : k < l.length
        · obtain ⟨g, o, hv1, hb2, hcell⟩ := HAT.out k hlt
          subst hv1
          have hcr := hW.old (p := ⟨g, o + k, none⟩) hb2 hcell
          have hw3 := weigh_take l k hlt
          have hw4 := weigh_le l (k + 1)
          have hpl : (l[k]).length ≤ 1000000 := by omega
          clear hcell hw3 hw4
          by_cases hk0 : 0 < k
          · have HN := Lib.hid (text_next l true k hlt hk0)
            generalize l[k] = p at hcr hpl HN
            go_wp2_with fail
            refine (put_slash hW (by omega)).mono ?_
            rintro e w2 ⟨rfl, hW2⟩
            go_wp2_with fail
            refine (put_text p hW2 (by rw [List.length_append, List.length_singleton]; omega)).mono ?_
            rintro e w3 ⟨rfl, hW3⟩
            go_wp2_with fail
            go_roundw
            case rel => exact ⟨k + 1, by omega, by go_num, by rw [HN.out]; exact hW3⟩
            case measure => simp [intOf]; omega
          · obtain rfl : k = 0 := by omega
            rw [Nat.add_zero] at hcr
            have HN := Lib.hid (text_first l true hlt)
            generalize l[0] = p at hcr hpl HN
            go_wp2_with fail
            refine (put_text p hW (by omega)).mono ?_
            rintro e w3 ⟨rfl, hW3⟩
            go_wp2_with fail
            go_roundw
            case rel => exact ⟨0 + 1, by omega, rfl, by rw [HN.out]; exact hW3⟩
            case measure => simp [intOf]; omega
        · have hkl : l.take k = l := List.take_of_length_le (by omega)
          rw [hkl] at hW
          obtain ⟨t, HT, hWt⟩ : ∃ t, Hid (textL l true = t) ∧ Writes w (.cells #[.bool true, .slice sv l.length sc] 92) t wr := ⟨_, HE, hW⟩
          clear hkl hg4 HE hW
          go_wp2_with fail
          refine (get_text hWt).mono ?_
          rintro e w3 ⟨rfl, hb⟩
          go_wp2_with fail
          go_ret
          exact ⟨by rw [HT.out] <;> rfl, hb⟩

theorem routeText_any (l : List (List UInt8)) (r : Bool) (B : Nat) (v : Value) (w : World) (hown : w.ownsRow B 9 1 v l.length (S l)) (hl2 : weigh l ≤ 1000000) :
    Calls Tryd.prog 66 #[.agg #[.bool r, v]] w (TextPost w.heap.size (textL l r) w) := routeText_row l r v w (row_own hown) hl2

end Go.Proofs.YtoahfhidekmodaaDoor.D1
