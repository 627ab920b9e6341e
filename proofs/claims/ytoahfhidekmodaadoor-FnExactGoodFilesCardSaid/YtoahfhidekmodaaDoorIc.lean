/- Walks: the program's good files. -/
import Derived.Test.YtoahfhidekmodaaDoorIb
namespace Go.Proofs.YtoahfhidekmodaaDoor
open Go.RowKit Pth

/-- Names are handed back in memory of the call's own. -/
def NamesPost (l : List (List UInt8)) (w : World) (e : Ending) (w' : World) : Prop := ∃ v, e = .returned v ∧ w'.ownsRow w.heap.size 9 1 v l.length (S l) ∧ Below w.heap.size w w'

set_option maxRecDepth 20000 in
set_option maxHeartbeats 2000000 in
theorem namesOf_any (l : List FileT) (v : Value) (w : World) (hrow : RowF w v l) (hl : l.length ≤ 1000000) :
    Calls Tryd.prog 25 #[v] w (NamesPost (l.map (·.1)) w) := by
  obtain ⟨a, cap, rfl, hc1, hc2, hat⟩ := hrow.files
  clear hrow
  unfold maxLen at hc2
  go_enter Tryd.func25, Tryd.ntmps25
  go_wp2_with fail
  go_loopw [8, 3] (fun i v wr => ∃ k : Nat, k ≤ l.length ∧ i = .int .i64 k ∧ Hid (wr.ownsRow w.heap.size 9 1 v ((l.take k).map (·.1)).length (S ((l.take k).map (·.1)))) ∧ Hid (Below w.heap.size w wr)) (fun i _ _ => l.length - (intOf i).toNat)
  case atStart => exact ⟨0, Nat.zero_le _, rfl, ⟨rfl, .inl ⟨rfl, rfl⟩⟩, Below.refl _ _⟩
  case round =>
    obtain ⟨k, hk, rfl, HN, HB⟩ := hrel
    have hbs := HB.out.size
    by_cases hlt : k < l.length
    · obtain ⟨g, o, rfl, hg, hcell1, hcell2⟩ := hat k hlt
      have hc1' : wr.cell? ⟨g, o + k * 2, none⟩ = some (.string ⟨(l[k]).1.toArray⟩) := by rw [HB.out.cell (p := ⟨g, o + k * 2, none⟩) hg]; exact hcell1
      have hc2' : wr.cell? ⟨g, o + k * 2 + 1, none⟩ = some (.string ⟨(l[k]).2.toArray⟩) := by rw [HB.out.cell (p := ⟨g, o + k * 2 + 1, none⟩) hg]; exact hcell2
      have HT : Hid ((l.take k).map (·.1) ++ [l[k].1] = (l.take (k + 1)).map (·.1)) := by
        show _ = _
        rw [List.take_succ_eq_append_getElem hlt, List.map_append]; rfl
      have hln : ((l.take k).map (·.1)).length = k := by rw [List.length_map, List.length_take]; omega
      generalize (l.take k).map (·.1) = acc at HN HT hln
      clear hcell1 hcell2 hat
      generalize l[k].1 = x at hc1' HT
      generalize l[k].2 = y at hc2'
      have HBA := Lib.hid (HB.out.alloc hbs (.cells #[.string ⟨x.toArray⟩, .string ⟨y.toArray⟩] 45))
      have HNA := Lib.hid (HN.out.alloc (.cells #[.string ⟨x.toArray⟩, .string ⟨y.toArray⟩] 45))
      go_wp2_with (at_builtin; refine wpAppOne elemS rfl _ _ rfl w.heap.size _ (S acc) rfl (by rw [S_len]; exact HNA.out) _ rfl (by simp) rfl (by rw [S_len]; omega) HBA.out.size ?_; intro v2 w2 hown2 hg2; have HN2 := Lib.hid (text_snoc hown2); have HB2 := Lib.hid (HBA.out.trans (below_own HNA.out hg2 HBA.out.size)); clear hown2 hg2)
      rw [HT.out] at HN2
      go_roundw
      case rel => exact ⟨k + 1, by omega, by go_num, HN2, HB2⟩
      case measure => simp [intOf]; omega
    · have HN1 : Hid (wr.ownsRow w.heap.size 9 1 u3 (l.map (·.1)).length (S (l.map (·.1)))) := by
        have := HN.out
        rw [List.take_of_length_le (by omega)] at this
        exact this
      clear HN hat
      go_wp2_with fail
      go_ret
      exact ⟨_, rfl, HN1.out, HB.out⟩

theorem goodF_parts (l : List FileT) : goodF l = (namesOk (l.map (·.1)) && (l.all (fun f => decide (f.2.length ≤ 40)) && decide (l.length ≤ 12))) := by
  have : l.all fileOk = ((l.map (·.1)).all nameOk && l.all (fun f => decide (f.2.length ≤ 40))) := by
    induction l with
    | nil => rfl
    | cons f t ih => simp only [List.all_cons, List.map_cons, ih, fileOk]; cases nameOk f.1 <;> cases decide (f.2.length ≤ 40) <;> simp
  rw [goodF, namesOk, this]
  cases (l.map (·.1)).all nameOk <;> cases l.all (fun f => decide (f.2.length ≤ 40)) <;> cases riseN (l.map (·.1)) <;> simp
theorem body_bad {l : List FileT} {k : Nat} (hk : k < l.length) (h : 40 < l[k].2.length) : goodF l = false := by
  have : l.all (fun f => decide (f.2.length ≤ 40)) = false := by
    rw [List.all_eq_false]
    exact ⟨l[k], List.getElem_mem hk, by simp; omega⟩
  rw [goodF_parts, this]; simp

set_option maxRecDepth 20000 in
set_option maxHeartbeats 2000000 in
theorem implGoodFiles_any (l : List FileT) (v : Value) (w : World) (hrow : RowF w v l) (hx : ∀ f ∈ l, f.1.length ≤ maxLen ∧ f.2.length ≤ maxLen) (hm : MaxAt w) :
    Calls Tryd.prog 10 #[v] w (BoolPost (goodF l) w) := by
  have HRW := Lib.hid hrow
  obtain ⟨a, cap, rfl, hc1, hc2, hat⟩ := hrow.files
  clear hrow
  unfold maxLen at hc2
  by_cases h12 : 12 < l.length
  · have hd : decide ((l.length : Int) > 12) = true := decide_eq_true (by omega)
    have HT : Hid (goodF l = false) := by show _ = _; rw [goodF_parts, decide_eq_false (by omega : ¬ l.length ≤ 12)]; simp
    clear hat hx
    go_enter Tryd.func10, Tryd.ntmps10
    go_wp2_with fail
    go_ret
    exact ⟨ret_bool HT.out.symm, Below.refl _ _⟩
  · have hd : decide ((l.length : Int) > 12) = false := decide_eq_false (by omega)
    have HN := Lib.hid (namesOf_any l _ w HRW.out (by omega))
    have HX : Hid (∀ n ∈ l.map (·.1), n.length ≤ maxLen) := by
      intro n hn
      obtain ⟨f, hf, rfl⟩ := List.mem_map.1 hn
      exact (hx f hf).1
    have HM := Lib.hid hm
    clear hm
    rcases hk : namesOk (l.map (·.1)) with _ | _
    · have HT : Hid (goodF l = false) := by show _ = _; rw [goodF_parts, hk]; rfl
      have HK := Lib.hid hk
      clear hat hx hk
      go_enter Tryd.func10, Tryd.ntmps10
      go_wp2_with fail
      refine HN.out.mono ?_
      rintro e w1 ⟨v1, rfl, hown1, hb1⟩
      have HC := Lib.hid (areNames_any (l.map (·.1)) v1 w1 (RowV.of_own (by simpa [S_len] using hown1)) HX.out (HM.out.below hb1))
      rw [HK.out] at HC
      have HB1 := Lib.hid hb1
      clear hown1 hb1
      go_wp2_with fail
      refine HC.out.mono ?_
      rintro e w2 ⟨rfl, hb2⟩
      have HB2 := Lib.hid (HB1.out.trans (hb2.mono HB1.out.size))
      clear hb2
      go_wp2_with fail
      go_ret
      exact ⟨ret_bool HT.out.symm, HB2.out⟩
    · have HT : Hid (goodF l = l.all (fun f => decide (f.2.length ≤ 40))) := by show _ = _; rw [goodF_parts, hk, decide_eq_true (by omega : l.length ≤ 12)]; simp
      have HK := Lib.hid hk
      clear hk
      go_enter Tryd.func10, Tryd.ntmps10
      go_wp2_with fail
      refine HN.out.mono ?_
      rintro e w1 ⟨v1, rfl, hown1, hb1⟩
      have HC := Lib.hid (areNames_any (l.map (·.1)) v1 w1 (RowV.of_own (by simpa [S_len] using hown1)) HX.out (HM.out.below hb1))
      rw [HK.out] at HC
      have HB1 := Lib.hid hb1
      clear hown1 hb1 HN HX HK
      go_wp2_with fail
      refine HC.out.mono ?_
      rintro e w2 ⟨rfl, hb2⟩
      have HB2 := Lib.hid (HB1.out.trans (hb2.mono HB1.out.size))
      clear hb2 HC HB1
      go_wp2_with fail
      go_loopw [16] (fun i wr => ∃ k : Nat, k ≤ l.length ∧ i = .int .i64 k ∧ Hid (Below w.heap.size w wr) ∧ Hid ((l.take k).all (fun f => decide (f.2.length ≤ 40)) = true)) (fun i _ => l.length - (intOf i).toNat)
      case atStart => exact ⟨0, Nat.zero_le _, rfl, HB2, by simp [Hid]⟩
      case round =>
        clear HB2
        obtain ⟨k, hk, rfl, HB, HO⟩ := hrel
        have hbs := HB.out.size
        by_cases hlt : k < l.length
        · obtain ⟨g, o, rfl, hg, hcell1, hcell2⟩ := hat k hlt
          have hc1' : wr.cell? ⟨g, o + k * 2, none⟩ = some (.string ⟨(l[k]).1.toArray⟩) := by rw [HB.out.cell (p := ⟨g, o + k * 2, none⟩) hg]; exact hcell1
          have hc2' : wr.cell? ⟨g, o + k * 2 + 1, none⟩ = some (.string ⟨(l[k]).2.toArray⟩) := by rw [HB.out.cell (p := ⟨g, o + k * 2 + 1, none⟩) hg]; exact hcell2
          have HBA := Lib.hid (HB.out.alloc hbs (.cells #[.string ⟨(l[k]).1.toArray⟩, .string ⟨(l[k]).2.toArray⟩] 45))
          by_cases hy : 40 < l[k].2.length
          · have HTF := Lib.hid (body_bad hlt hy)
            have hy1 : decide ((l[k].2.length : Int) > 40) = true := decide_eq_true (by omega)
            clear hcell1 hcell2 hat hx HO HT
            generalize l[k].1 = x at hc1' HBA
            generalize l[k].2 = y at hc2' HBA hy hy1
            go_wp2_with fail
            go_ret
            exact ⟨ret_bool HTF.out.symm, HBA.out⟩
          · have hy1 : decide ((l[k].2.length : Int) > 40) = false := decide_eq_false (by omega)
            have HO2 : Hid ((l.take (k + 1)).all (fun f => decide (f.2.length ≤ 40)) = true) := by
              show _ = _
              rw [List.take_succ_eq_append_getElem hlt, List.all_append, HO.out]; simp; omega
            clear hcell1 hcell2 hat hx HO HT
            generalize l[k].1 = x at hc1' HBA
            generalize l[k].2 = y at hc2' HBA hy hy1
            go_wp2_with fail
            go_roundw
            case rel => exact ⟨k + 1, by omega, by go_num, HBA, HO2⟩
            case measure => simp [intOf]; omega
        · have HT2 : Hid (goodF l = true) := by
            have := HO.out
            rw [List.take_of_length_le (by omega)] at this
            show _ = _
            rw [HT.out]; exact this
          clear hat hx HO HT
          go_wp2_with fail
          go_ret
          exact ⟨ret_bool HT2.out.symm, HB.out⟩

end Go.Proofs.YtoahfhidekmodaaDoor
