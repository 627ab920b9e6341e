/- Walks: the program's lists of names, and whether files are good. -/
import Derived.Test.YtoahfhidekmodaaDoorIa
import Derived.Test.YtoahfhidekmodaaDoorQg
namespace Go.Proofs.YtoahfhidekmodaaDoor
open Go.RowKit Pth

/-- Names that are good and rise. -/
def namesOk (l : List (List UInt8)) : Bool := l.all nameOk && riseN l
theorem namesOk_bad {l : List (List UInt8)} {k : Nat} (hk : k < l.length) (h : nameOk l[k] = false) : namesOk l = false := by
  have : l.all nameOk = false := by
    rw [List.all_eq_false]
    exact ⟨l[k], List.getElem_mem hk, by rw [h]; simp⟩
  rw [namesOk, this]; rfl
theorem namesOk_fall {l : List (List UInt8)} {k : Nat} (hk : k < l.length) (h0 : 0 < k) (h : ltT l[k - 1] l[k] = false) : namesOk l = false := by
  rw [namesOk, riseN_fall hk h0 h]; simp
theorem namesOk_end {l : List (List UInt8)} {k : Nat} (hk : l.length ≤ k) (h0 : (l.take k).all nameOk = true) (h1 : riseN (l.take k) = true) : namesOk l = true := by
  rw [List.take_of_length_le hk] at h0 h1
  rw [namesOk, h0, h1]; rfl
theorem take_all_nm {l : List (List UInt8)} {k : Nat} (hk : k < l.length) (h0 : (l.take k).all nameOk = true) (h : nameOk l[k] = true) : (l.take (k + 1)).all nameOk = true := by
  rw [List.take_succ_eq_append_getElem hk, List.all_append, h0]; simp [h]

theorem isName_l {b : Bool} (n : List UInt8) (hn : n.length ≤ maxLen) (h : nameOk n = b) : ∀ w, MaxAt w → Calls Tryd.prog 38 #[.string ⟨n.toArray⟩] w (BoolPost b w) := fun w hm => by
  have := isFileName_any n w hn hm
  rwa [h] at this

set_option maxRecDepth 20000 in
set_option maxHeartbeats 4000000 in
theorem areNames_any (l : List (List UInt8)) (v : Value) (w : World) (hrow : RowV w v (S l)) (hx : ∀ n ∈ l, n.length ≤ maxLen) (hm : MaxAt w) :
    Calls Tryd.prog 24 #[v] w (BoolPost (namesOk l) w) := by
  obtain ⟨a, cap, rfl, hc1, hc2, hat⟩ := hrow.texts
  clear hrow
  unfold maxLen at hc2
  have HM := Lib.hid hm
  clear hm
  go_enter Tryd.func24, Tryd.ntmps24
  go_wp2_with fail
  go_loopw [7] (fun i wr => ∃ k : Nat, k ≤ l.length ∧ i = .int .i64 k ∧ Hid (Below w.heap.size w wr) ∧ Hid ((l.take k).all nameOk = true) ∧ Hid (riseN (l.take k) = true)) (fun i _ => l.length - (intOf i).toNat)
  case atStart => exact ⟨0, Nat.zero_le _, rfl, Below.refl _ _, by simp [Hid], by simp [Hid, riseN]⟩
  case round =>
    obtain ⟨k, hk, rfl, HB, HO, HR⟩ := hrel
    have hbs := HB.out.size
    by_cases hlt : k < l.length
    · obtain ⟨g, o, rfl, hg, hcell1⟩ := hat k hlt
      have hc1' : wr.cell? ⟨g, o + k, none⟩ = some (.string ⟨(l[k]).toArray⟩) := by rw [HB.out.cell (p := ⟨g, o + k, none⟩) hg]; exact hcell1
      have hxl := hx l[k] (List.getElem_mem hlt)
      have HM1 := Lib.hid (HM.out.below HB.out)
      by_cases hn : nameOk l[k] = true
      · have HC := Lib.hid (isName_l _ hxl hn wr HM1.out)
        have HO2 := Lib.hid (take_all_nm hlt HO.out hn)
        unfold maxLen at hxl
        by_cases h0 : 0 < k
        · have hk0 : decide ((k : Int) > 0) = true := decide_eq_true (by omega)
          obtain ⟨g', o', hA, _, hp1⟩ := hat (k - 1) (by omega)
          obtain ⟨rfl, rfl⟩ := addr_inj hA
          have hp : wr.cell? ⟨g, o + (k - 1), none⟩ = some (.string ⟨(l[k - 1]).toArray⟩) := by rw [HB.out.cell (p := ⟨g, o + (k - 1), none⟩) hg]; exact hp1
          rcases hz : ltT l[k - 1] l[k] with _ | _
          · have HT := Lib.hid (namesOk_fall hlt h0 hz)
            have hz1 : Op.bytesLess l[k - 1] l[k] = false := hz
            generalize l[k - 1] = z at hp hz hz1
            clear hcell1 hat hx HO HR hn hp1 HO2 hz hA
            generalize l[k] = x at hc1' HC hxl hz1
            go_wp2_with fail
            refine HC.out.mono ?_
            rintro e w5 ⟨rfl, hb5⟩
            have q2 := (hb5.cell (p := ⟨g, o + (k - 1), none⟩) (by show g < wr.heap.size; omega)).trans hp
            have HB6 := Lib.hid (HB.out.trans (hb5.mono HB.out.size))
            clear hb5
            go_wp2_with fail
            go_ret
            exact ⟨ret_bool HT.out.symm, HB6.out⟩
          · have HR2 := Lib.hid (riseN_next hlt HR.out (fun _ => hz))
            have hz1 : Op.bytesLess l[k - 1] l[k] = true := hz
            generalize l[k - 1] = z at hp hz hz1
            clear hcell1 hat hx HO HR hn hp1 hz hA
            generalize l[k] = x at hc1' HC hxl hz1
            go_wp2_with fail
            refine HC.out.mono ?_
            rintro e w5 ⟨rfl, hb5⟩
            have q2 := (hb5.cell (p := ⟨g, o + (k - 1), none⟩) (by show g < wr.heap.size; omega)).trans hp
            have HB6 := Lib.hid (HB.out.trans (hb5.mono HB.out.size))
            clear hb5
            go_wp2_with fail
            go_roundw
            case rel => exact ⟨k + 1, by omega, by go_num, HB6, HO2, HR2⟩
            case measure => simp [intOf]; omega
        · have hk0 : decide ((k : Int) > 0) = false := decide_eq_false (by omega)
          have HR2 := Lib.hid (riseN_next hlt HR.out (fun h => absurd h h0))
          clear hcell1 hat hx HO HR hn
          generalize l[k] = x at hc1' HC hxl
          go_wp2_with fail
          refine HC.out.mono ?_
          rintro e w5 ⟨rfl, hb5⟩
          have HB6 := Lib.hid (HB.out.trans (hb5.mono HB.out.size))
          clear hb5
          go_wp2_with fail
          go_roundw
          case rel => exact ⟨k + 1, by omega, by go_num, HB6, HO2, HR2⟩
          case measure => simp [intOf]; omega
      · have hn' : nameOk l[k] = false := by simpa using hn
        have HT := Lib.hid (namesOk_bad hlt hn')
        have HC := Lib.hid (isName_l _ hxl hn' wr HM1.out)
        unfold maxLen at hxl
        clear hcell1 hat hx HO HR hn hn'
        generalize l[k] = x at hc1' HC hxl
        go_wp2_with fail
        refine HC.out.mono ?_
        rintro e w5 ⟨rfl, hb5⟩
        have HB6 := Lib.hid (HB.out.trans (hb5.mono HB.out.size))
        clear hb5
        go_wp2_with fail
        go_ret
        exact ⟨ret_bool HT.out.symm, HB6.out⟩
    · have HT := Lib.hid (namesOk_end (k := k) (by omega) HO.out HR.out)
      clear HO HR hat hx
      go_wp2_with fail
      go_ret
      exact ⟨ret_bool HT.out.symm, HB.out⟩

end Go.Proofs.YtoahfhidekmodaaDoor
