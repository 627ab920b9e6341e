/- Walks: the reference's lists that fit. -/
import Derived.Test.YtcplooeohdhlkaaPi
namespace Go.Proofs.Ytcplooeohdhlkaa
open Go.RowKit Pth

/-- Texts and whether they stand are handed back, the texts in memory of the call's own. -/
def TextsOk (l : List (List UInt8)) (ok : Bool) (w : World) (e : Ending) (w' : World) : Prop :=
  ∃ v, e = .returned (.tuple #[v, .bool ok]) ∧ w'.ownsRow w.heap.size 9 1 v l.length (S l) ∧ Below w.heap.size w w'
def allOk (p : List UInt8) (l : List (List UInt8)) : Bool := patL p && (decide (l.length ≤ 40) && l.all pathL)
def allT (p : List UInt8) (l : List (List UInt8)) : List (List UInt8) := if allOk p l = true then l.filter (fitsL p) else []

theorem take_bad {l : List (List UInt8)} {k : Nat} (hk : k < l.length) (h : pathL l[k] = false) : l.all pathL = false := by
  rw [List.all_eq_false]
  exact ⟨l[k], List.getElem_mem hk, by rw [h]; simp⟩
theorem take_ok {l : List (List UInt8)} {k : Nat} (hk : k < l.length) (h0 : (l.take k).all pathL = true) (h : pathL l[k] = true) : (l.take (k + 1)).all pathL = true := by
  rw [List.take_succ_eq_append_getElem hk, List.all_append, h0]; simp [h]
theorem take_fit {p : List UInt8} {l acc : List (List UInt8)} {k : Nat} (hk : k < l.length) (h0 : acc = (l.take k).filter (fitsL p)) (h : fitsL p l[k] = true) : acc ++ [l[k]] = (l.take (k + 1)).filter (fitsL p) := by
  rw [List.take_succ_eq_append_getElem hk, List.filter_append, ← h0]; simp [h]
theorem take_not {p : List UInt8} {l acc : List (List UInt8)} {k : Nat} (hk : k < l.length) (h0 : acc = (l.take k).filter (fitsL p)) (h : fitsL p l[k] = false) : acc = (l.take (k + 1)).filter (fitsL p) := by
  rw [List.take_succ_eq_append_getElem hk, List.filter_append, ← h0]; simp [h]

set_option maxHeartbeats 2000000 in
theorem specAll_any (p : ByteArray) (l : List (List UInt8)) (v : Value) (w : World) (hp : p.size ≤ maxLen) (hrow : RowV w v (S l)) (hx : ∀ x ∈ l, x.length ≤ 2000000) :
    Calls Try.prog 22 #[.string p, v] w (TextsOk (allT p.data.toList l) (allOk p.data.toList l) w) := by
  obtain ⟨a, cap, rfl, hc1, hc2, hat⟩ := hrow.texts
  clear hrow
  have C := Lib.hid (l2Pattern_any p w hp)
  unfold maxLen at hc2
  rcases h1 : patL p.data.toList with _ | _
  · have HT : Hid (allOk p.data.toList l = false) := by rw [allOk, h1]; rfl
    have HT2 : Hid (allT p.data.toList l = []) := by rw [allT, HT.out]; rfl
    rw [HT.out, HT2.out]
    rw [h1] at C
    clear h1 hat HT HT2
    go_enter Try.func22, Try.ntmps22
    go_wp2_with fail
    refine C.out.mono ?_
    rintro e w1 ⟨rfl, hb1⟩
    have HB1 := Lib.hid hb1
    clear hb1 C
    go_wp2_with fail
    go_ret2
    exact ⟨_, rfl, World.ownsRow_nil _ _ _ _, HB1.out⟩
  · have hl := (patL_len h1).2
    rw [h1] at C
    by_cases hlen : 40 < l.length
    · have HT : Hid (allOk p.data.toList l = false) := by rw [allOk, decide_eq_false (by omega : ¬ l.length ≤ 40)]; simp [Hid]
      have HT2 : Hid (allT p.data.toList l = []) := by rw [allT, HT.out]; rfl
      rw [HT.out, HT2.out]
      clear h1 hat HT HT2
      go_enter Try.func22, Try.ntmps22
      go_wp2_with fail
      refine C.out.mono ?_
      rintro e w1 ⟨rfl, hb1⟩
      have HB1 := Lib.hid hb1
      clear hb1 C
      go_wp2_with fail
      go_ret2
      exact ⟨_, rfl, World.ownsRow_nil _ _ _ _, HB1.out⟩
    · have HA : Hid (allOk p.data.toList l = l.all pathL) := by rw [allOk, h1, decide_eq_true (by omega : l.length ≤ 40)]; rfl
      have HA2 : Hid (allT p.data.toList l = if l.all pathL = true then l.filter (fitsL p.data.toList) else []) := by rw [allT, HA.out]; rfl
      clear h1
      go_enter Try.func22, Try.ntmps22
      go_wp2_with fail
      refine C.out.mono ?_
      rintro e w1 ⟨rfl, hb1⟩
      have HB1 := Lib.hid hb1
      have hb1s := hb1.size
      clear hb1 C
      go_wp2_with fail
      go_loopw [6, 19] (fun u i wr => ∃ (acc : List (List UInt8)) (k : Nat), k ≤ l.length ∧ i = .int .i64 k ∧ wr.ownsRow w.heap.size 9 1 u acc.length (S acc) ∧ Below w.heap.size w wr ∧ acc.length ≤ k ∧
         Hid ((l.take k).all pathL = true) ∧ Hid (acc = (l.take k).filter (fitsL p.data.toList))) (fun _ i _ => l.length - (intOf i).toNat)
      case atStart => exact ⟨[], 0, Nat.zero_le _, rfl, World.ownsRow_nil _ _ _ _, HB1.out, by simp, by simp [Hid], by simp [Hid]⟩
      case round =>
        clear HB1
        obtain ⟨acc, k, hk, rfl, hown, hb, hal, HO, HS⟩ := hrel
        have hbs := hb.size
        have HN := Lib.hid hown
        by_cases hlt : k < l.length
        · obtain ⟨g, o, rfl, hg, hcell0⟩ := hat k hlt
          have hcell : wr.cell? ⟨g, o + k, none⟩ = some (.string ⟨(l[k]).toArray⟩) := by rw [hb.cell (p := ⟨g, o + k, none⟩) hg]; exact hcell0
          have HB := Lib.hid hb
          have hxl := hx l[k] (List.getElem_mem hlt)
          clear hcell0 hat hb hown hx
          rcases h2 : pathL l[k] with _ | _
          · have HT := Lib.hid (take_bad hlt h2)
            have D := l1Path_l l[k] wr (by unfold maxLen; omega)
            rw [h2] at D
            have HD := Lib.hid D
            generalize l[k] = x at hcell hxl HD
            clear HO HS h2 D
            go_wp2_with fail
            refine HD.out.mono ?_
            rintro e w2 ⟨rfl, rfl⟩
            go_wp2_with fail
            go_ret2
            exact ⟨_, by rw [HA.out, HT.out] <;> rfl, by rw [HA2.out, HT.out]; exact World.ownsRow_nil _ _ _ _, HB.out⟩
          · have HO2 := Lib.hid (take_ok hlt HO.out h2)
            have D := l1Path_l l[k] wr (by unfold maxLen; omega)
            have D2 := l2Fits_l p l[k] wr (by omega) hxl
            rw [h2] at D
            have HD := Lib.hid D
            rcases h3 : fitsL p.data.toList l[k] with _ | _
            · have HS2 := Lib.hid (take_not hlt HS.out h3)
              rw [h3] at D2
              have HD2 := Lib.hid D2
              generalize l[k] = x at hcell hxl HD HD2
              clear HO HS h2 D h3 D2
              go_wp2_with fail
              refine HD.out.mono ?_
              rintro e w2 ⟨rfl, rfl⟩
              go_wp2_with fail
              refine HD2.out.mono ?_
              rintro e w2 ⟨rfl, hb2⟩
              have HB2 := Lib.hid (HB.out.trans (hb2.mono HB.out.size))
              have HN2 := Lib.hid (own_below HN.out hb2)
              clear hb2
              go_wp2_with fail
              go_roundw
              case rel => exact ⟨acc, k + 1, by omega, by go_num, HN2.out, HB2.out, by omega, HO2, HS2⟩
              case measure => simp [intOf]; omega
            · have HS2 := Lib.hid (take_fit hlt HS.out h3)
              rw [h3] at D2
              have HD2 := Lib.hid D2
              generalize l[k] = x at hcell hxl HD HD2 HS2
              clear HO HS h2 D h3 D2
              go_wp2_with fail
              refine HD.out.mono ?_
              rintro e w2 ⟨rfl, rfl⟩
              go_wp2_with fail
              refine HD2.out.mono ?_
              rintro e w2 ⟨rfl, hb2⟩
              have HB2 := Lib.hid (HB.out.trans (hb2.mono HB.out.size))
              have HN2 := Lib.hid (own_below HN.out hb2)
              clear hb2
              go_wp2_with (at_builtin; refine wpAppOne elemS rfl _ _ rfl w.heap.size _ (S acc) rfl (by rw [S_len]; exact HN2.out) _ rfl rfl rfl (by rw [S_len]; omega) HB2.out.size ?_; intro v3 w3 hown3 hg3; have HN3 := Lib.hid (text_snoc hown3); have HB3 := Lib.hid (HB2.out.trans (below_own HN2.out hg3 HB2.out.size)); clear hown3 hg3)
              go_roundw
              case rel => exact ⟨acc ++ [x], k + 1, by omega, by go_num, HN3.out, HB3.out, by simp; omega, HO2, HS2⟩
              case measure => simp [intOf]; omega
        · have HE : Hid (l.all pathL = true) := by have := HO.out; rw [List.take_of_length_le (by omega)] at this; exact this
          have HE2 : Hid (l.filter (fitsL p.data.toList) = acc) := by have := HS.out; rw [List.take_of_length_le (by omega)] at this; exact this.symm
          have HB := Lib.hid hb
          clear HO HS hat hb hown
          go_wp2_with fail
          go_ret2
          exact ⟨_, by rw [HA.out, HE.out] <;> rfl, by rw [HA2.out, HE.out, if_pos rfl, HE2.out]; exact HN.out, HB.out⟩

end Go.Proofs.Ytcplooeohdhlkaa
