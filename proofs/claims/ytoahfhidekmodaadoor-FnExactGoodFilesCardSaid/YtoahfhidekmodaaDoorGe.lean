/- Walks: a name put to its place; what is taken (the reference). -/
import Derived.Test.YtoahfhidekmodaaDoorGd
namespace Go.Proofs.YtoahfhidekmodaaDoor
open Go.RowKit Pth

/-- A store by value: three slices. -/
def StoreV (w : World) (v : Value) (s : StoreT) : Prop := ∃ vf vs vg, v = .agg #[vf, vs, vg] ∧ RowF w vf s.files ∧ RowF w vs s.staged ∧ RowV w vg (S s.gone)
theorem StoreV.below {w w' : World} {v : Value} {s : StoreT} (h : StoreV w v s) (hb : Below w.heap.size w w') : StoreV w' v s := by
  obtain ⟨vf, vs, vg, hv, h1, h2, h3⟩ := h
  exact ⟨vf, vs, vg, hv, h1.below hb, h2.below hb, h3.below hb⟩

theorem fold_put {l : List FileT} {cur : List FileT} {s : StoreT} {k : Nat} (hk : k < s.staged.length) (h : cur = (s.staged.take k).foldl putF s.files) : putF cur s.staged[k] = (s.staged.take (k + 1)).foldl putF s.files := by
  rw [List.take_succ_eq_append_getElem hk, List.foldl_append, ← h]; rfl
theorem fold_drop {m cur : List FileT} {s : StoreT} {k : Nat} (hk : k < s.gone.length) (h : cur = (s.gone.take k).foldl dropF m) : dropF cur s.gone[k] = (s.gone.take (k + 1)).foldl dropF m := by
  rw [List.take_succ_eq_append_getElem hk, List.foldl_append, ← h]; rfl

set_option maxRecDepth 20000 in
set_option maxHeartbeats 4000000 in
theorem l3Taken_any (s : StoreT) (v : Value) (w : World) (hst : StoreV w v s) (hl : s.files.length ≤ 100) (hl2 : s.staged.length ≤ 100) (hl3 : s.gone.length ≤ 100) :
    Calls Tryd.prog 29 #[v] w (FilesPost (takenF s) w) := by
  obtain ⟨vf, vs, vg, rfl, h1, h2, h3⟩ := hst
  have H1 := Lib.hid h1
  have H2 := Lib.hid h2
  have H3 := Lib.hid h3
  obtain ⟨af, cf, rfl, hf1, hf2, _⟩ := h1.files
  obtain ⟨a2, cs, rfl, hs1, hs2, hats⟩ := h2.files
  obtain ⟨ag, cg, rfl, hg1, hg2, hatg⟩ := h3.texts
  clear h1 h2 h3
  unfold maxLen at hf2 hs2 hg2
  go_enter Tryd.func29, Tryd.ntmps29
  obtain ⟨wa, hwa⟩ : ∃ wa, wa = w.alloc (.cells #[.slice af s.files.length cf, .slice a2 s.staged.length cs, .slice ag s.gone.length cg] 35) := ⟨_, rfl⟩
  have c1 : wa.cell? ⟨w.heap.size, 1, none⟩ = some (.slice a2 s.staged.length cs) := by rw [hwa]; simp
  have c2 : wa.cell? ⟨w.heap.size, 2, none⟩ = some (.slice ag s.gone.length cg) := by rw [hwa]; simp
  have HA : Hid (Below w.heap.size w wa) := by rw [hwa]; exact (Below.refl w.heap.size w).alloc (Nat.le_refl _) _
  have hsz : wa.heap.size = w.heap.size + 1 := by rw [hwa]; simp
  have HWA := Lib.hid hwa
  clear hwa
  go_wp2_with (at_builtin; rw [← HWA.out]; refine wpAppRowG elemF rfl _ _ rfl wa.heap.size _ 0 s.files.length [] (FC s.files) _ rfl (by rw [hsz]; exact hsz ▸ lit_nil wa) rfl ((H1.out.below HA.out).alloc _) (FC_one _) (by omega) (by simp) ?_; intro v1 w1 hown1 hg1; have HN1 := Lib.hid (own_eq hown1 (Nat.zero_add _) (List.nil_append _)); have HB1 := Lib.hid (((Below.refl _ wa).alloc (Nat.le_refl _) _).trans (below_ownG (lit_nil wa) (hsz ▸ hg1) (by simp))); have d1 : w1.cell? ⟨w.heap.size, 1, none⟩ = some (.slice a2 s.staged.length cs) := (HB1.out.cell (p := ⟨w.heap.size, 1, none⟩) (by show w.heap.size < wa.heap.size; omega)).trans c1; clear hown1 hg1)
  have hlen : s.files.length ≤ 100 := hl
  go_loopw [3, 15] (fun u i wr => ∃ (cur : List FileT) (k : Nat), k ≤ s.staged.length ∧ cur.length ≤ s.files.length + k ∧ i = .int .i64 k ∧ Hid (wr.ownsRow wa.heap.size 45 2 u cur.length (FC cur)) ∧ Hid (Below wa.heap.size wa wr) ∧ Hid (cur = (s.staged.take k).foldl putF s.files)) (fun _ i _ => s.staged.length - (intOf i).toNat)
  case atStart => exact ⟨s.files, 0, Nat.zero_le _, by omega, rfl, HN1, HB1, rfl⟩
  case round =>
    clear HN1 HB1 d1
    obtain ⟨cur, k, hk, hcl, rfl, HN, HB, HO⟩ := hrel
    have HW := Lib.hid (HA.out.trans (HB.out.mono HA.out.size))
    have hbs := HB.out.size
    by_cases hlt : k < s.staged.length
    · obtain ⟨g, o, rfl, hg, hcell1, hcell2⟩ := hats k hlt
      have hc1' : wr.cell? ⟨g, o + k * 2, none⟩ = some (.string ⟨(s.staged[k]).1.toArray⟩) := by rw [HW.out.cell (p := ⟨g, o + k * 2, none⟩) hg]; exact hcell1
      have hc2' : wr.cell? ⟨g, o + k * 2 + 1, none⟩ = some (.string ⟨(s.staged[k]).2.toArray⟩) := by rw [HW.out.cell (p := ⟨g, o + k * 2 + 1, none⟩) hg]; exact hcell2
      have HR := Lib.hid (fold_put (l := []) hlt HO.out)
      have hpl := putF_len cur s.staged[k]
      have epair : s.staged[k] = (s.staged[k].1, s.staged[k].2) := rfl
      rw [epair] at HR hpl
      generalize s.staged[k].1 = x at hc1' HR hpl
      generalize s.staged[k].2 = y at hc2' HR hpl
      clear HO epair hcell1 hcell2 hats hatg
      go_wp2_with fail
      refine (l3Put_any cur x y _ _ ((RowF.of_own HN.out).alloc _) (by omega)).mono ?_
      rintro e w5 ⟨v5, rfl, hown5, hb5⟩
      have HB5 := Lib.hid ((HB.out.alloc hbs _).trans (hb5.mono (by simp; omega)))
      have HN5 := Lib.hid (own_baseG hown5 (by simp; omega) : w5.ownsRow wa.heap.size 45 2 v5 (putF cur (x, y)).length (FC (putF cur (x, y))))
      clear hown5 hb5
      go_wp2_with fail
      go_roundw
      case rel => exact ⟨_, k + 1, by omega, by omega, by go_num, HN5, HB5, HR⟩
      case measure => simp [intOf]; omega
    · have HM : Hid (cur = s.staged.foldl putF s.files) := by have := HO.out; rw [List.take_of_length_le (by omega)] at this; exact this
      have d2 : wr.cell? ⟨w.heap.size, 2, none⟩ = some (.slice ag s.gone.length cg) := (HB.out.cell (p := ⟨w.heap.size, 2, none⟩) (by show w.heap.size < wa.heap.size; omega)).trans c2
      clear HO hats
      go_wp2_with fail
      go_loopw [3, 26] (fun u i wr => ∃ (cu : List FileT) (k : Nat), k ≤ s.gone.length ∧ cu.length ≤ cur.length ∧ i = .int .i64 k ∧ Hid (wr.ownsRow wa.heap.size 45 2 u cu.length (FC cu)) ∧ Hid (Below wa.heap.size wa wr) ∧ Hid (cu = (s.gone.take k).foldl dropF cur)) (fun _ i _ => s.gone.length - (intOf i).toNat)
      case atStart => exact ⟨cur, 0, Nat.zero_le _, by omega, rfl, HN, HB, rfl⟩
      case round =>
        clear HN HB d2 HW hbs
        obtain ⟨cu, k, hk, hcul, rfl, HN, HB, HO⟩ := hrel
        have HW := Lib.hid (HA.out.trans (HB.out.mono HA.out.size))
        by_cases hlt : k < s.gone.length
        · obtain ⟨g, o, rfl, hg, hcell1⟩ := hatg k hlt
          have hc1' := (HW.out.cell (p := ⟨g, o + k, none⟩) hg).trans hcell1
          have HR := Lib.hid (fold_drop hlt HO.out)
          have hpl := dropF_len cu s.gone[k]
          generalize s.gone[k] = x at hc1' HR hpl
          clear HO hcell1 hatg
          go_wp2_with fail
          refine (l3Drop_any cu x _ _ (RowF.of_own HN.out) (by omega)).mono ?_
          rintro e w5 ⟨v5, rfl, hown5, hb5⟩
          have HB5 := Lib.hid (HB.out.trans (hb5.mono HB.out.size))
          have HN5 := Lib.hid (own_baseG hown5 HB.out.size)
          clear hown5 hb5
          go_wp2_with fail
          go_roundw
          case rel => exact ⟨_, k + 1, by omega, by omega, by go_num, HN5, HB5, HR⟩
          case measure => simp [intOf]; omega
        · have HE : Hid (cu = takenF s) := by
            have := HO.out
            rw [List.take_of_length_le (by omega), HM.out] at this
            exact this
          clear HO hatg
          go_wp2_with fail
          go_ret
          exact ⟨_, rfl, by rw [← HE.out]; exact own_baseG HN.out HA.out.size, HW.out⟩

end Go.Proofs.YtoahfhidekmodaaDoor
