/- Texts of one claim, joined in their order. -/
import Derived.Maps.OwnSet
import Derived.Maps.RangeWalk
import Derived.Maps.StringElems
import Derived.Sort.KeysCollected
import Derived.StringKeys
import Derived.Test.YtgcaplbeahjbmaaGreatDoorM2
import Derived.Test.YtgcaplbeahjbmaaGreatDoorM4
import Derived.Test.YtgcaplbeahjbmaaGreatDoorM1
import Derived.Test.YtgcaplbeahjbmaaGreatDoorM3

/- Walks: the laws' helpers on lists of files. -/
namespace Go.Proofs.YtgcaplbeahjbmaaGreatDoor
open Go.RowKit Pth

def noFile : FileT := ([], [])
theorem FC_cons (f : FileT) (l : List FileT) : FC (f :: l) = .string ⟨f.1.toArray⟩ :: .string ⟨f.2.toArray⟩ :: FC l := rfl
theorem FC_zero (n : Nat) : FC (List.replicate n noFile) = List.replicate (n * 2) (.string ByteArray.empty) := by
  induction n with
  | zero => rfl
  | succ n ih => rw [List.replicate_succ, FC_cons, ih, Nat.add_mul, Nat.one_mul, List.replicate_succ, List.replicate_succ]; rfl
theorem made_two (z : Value) (m : Nat) : (madeCells #[z, z] m).toList = List.replicate m z := by
  apply List.ext_getElem?
  intro j
  by_cases hj : j < m
  · have : j % 2 = 0 ∨ j % 2 = 1 := by omega
    rcases this with h | h <;> simp [madeCells, hj, h]
  · simp [madeCells, hj]
theorem make_rowF (n : Nat) (w : World) (hn : n ≤ 2000000) :
    ∃ w', (Instr.makeSlice 27 (.int .i64 (n : Int)) (.int .i64 (n : Int))).run Tryz.prog w = .ok (.slice (some ⟨w.heap.size, 0, none⟩) n n) w' ∧
      w'.ownsRow w.heap.size 44 2 (.slice (some ⟨w.heap.size, 0, none⟩) n n) n (FC (List.replicate n noFile)) ∧ Below w.heap.size w w' := by
  obtain ⟨i0, hi, hz0, hz1, hz2⟩ := info_parts elemF.info
  obtain ⟨w', h1, h2, h3⟩ := run_makeSlice_full (P := Tryz.prog) w w.heap.size _ _ i0 _ 2 elemF.under hi hz0 hz1 .i64 .i64 n (by omega) (by rw [hz2]; exact Nat.le_trans (Nat.mul_le_mul elemF.small hn) (by decide)) (by unfold maxLen; omega) (Nat.le_refl _)
  rw [FC_zero, ← made_two]
  exact ⟨w', h1, h2, (Below.refl _ w).grown h3 (Nat.le_refl _) (fun k hk => by cases hk)⟩
theorem set_two (a : List FileT) (k : Nat) (ha : a.length = k) (p : FileT) (rest : List FileT) (x y : List UInt8) :
    ((FC a ++ FC (p :: rest)).set (k * 2) (.string ⟨x.toArray⟩)).set (k * 2 + 1) (.string ⟨y.toArray⟩) = FC (a ++ [(x, y)]) ++ FC rest := by
  have hl : (FC a).length = k * 2 := by rw [FC_len, ha]
  rw [List.set_append_right _ _ (by omega), hl, Nat.sub_self, List.set_append_right _ _ (by omega), hl, show k * 2 + 1 - k * 2 = 1 by omega, FC_append]
  simp [FC, fileC]
theorem get_two (a : List FileT) (k : Nat) (ha : a.length = k) (p : FileT) (rest : List FileT) :
    (FC a ++ FC (p :: rest))[k * 2]? = some (.string ⟨p.1.toArray⟩) ∧ (FC a ++ FC (p :: rest))[k * 2 + 1]? = some (.string ⟨p.2.toArray⟩) := by
  have hl : (FC a).length = k * 2 := by rw [FC_len, ha]
  rw [List.getElem?_append_right (by omega), hl, Nat.sub_self, List.getElem?_append_right (by omega), hl, show k * 2 + 1 - k * 2 = 1 by omega]
  exact ⟨rfl, rfl⟩

set_option maxRecDepth 20000 in
set_option maxHeartbeats 1000000 in
theorem szFileS_any (l : List FileT) (left : Nat) (v : Value) (w : World) (hrow : RowF w v l) (hx : ∀ f ∈ l, f.1.length ≤ maxLen ∧ f.2.length ≤ maxLen) (hl : left ≤ 2000000) :
    Calls Tryz.prog 14 #[v, .int .i64 (left : Int)] w fun e w' => ∃ r : Int, e = .returned (.int .i64 r) ∧ (0 ≤ r → r + l.length ≤ left ∧ ∀ f ∈ l, f.1.length ≤ left ∧ f.2.length ≤ left) ∧ Below w.heap.size w w' := by
  obtain ⟨a, cap, rfl, hc1, hc2, hat⟩ := hrow.files
  clear hrow
  unfold maxLen at hc2
  by_cases hlen : l.length ≤ left
  · have hlen1 : decide ((left : Int) - (l.length : Int) < 0) = false := by simp; omega
    go_enter Tryz.func14, Tryz.ntmps14
    go_wp2_with fail
    go_loopw [1, 5] (fun q i wr => ∃ (k r : Nat), k ≤ l.length ∧ r + l.length ≤ left ∧ q = .int .i64 r ∧ i = .int .i64 k ∧ Hid (∀ f ∈ l.take k, f.1.length ≤ left ∧ f.2.length ≤ left) ∧ Hid (Below w.heap.size w wr)) (fun _ i _ => l.length - (intOf i).toNat)
    case atStart => exact ⟨0, left - l.length, Nat.zero_le _, by omega, by go_num, rfl, by simp [Hid], Below.refl _ _⟩
    case round =>
      obtain ⟨k, r, hk, hr1, rfl, rfl, HO, HB⟩ := hrel
      by_cases hlt : k < l.length
      · obtain ⟨g, o, rfl, hg, hcell1, hcell2⟩ := hat k hlt
        have hc1' : wr.cell? ⟨g, o + k * 2, none⟩ = some (.string ⟨(l[k]).1.toArray⟩) := by rw [HB.out.cell (p := ⟨g, o + k * 2, none⟩) hg]; exact hcell1
        have hc2' : wr.cell? ⟨g, o + k * 2 + 1, none⟩ = some (.string ⟨(l[k]).2.toArray⟩) := by rw [HB.out.cell (p := ⟨g, o + k * 2 + 1, none⟩) hg]; exact hcell2
        have hxl := hx l[k] (List.getElem_mem hlt)
        have HC := Lib.hid (szFile_any l[k].1 l[k].2 r wr hxl.1 hxl.2 (by omega))
        have HS : Hid (l[k].1.length ≤ left → l[k].2.length ≤ left → ∀ f ∈ l.take (k + 1), f.1.length ≤ left ∧ f.2.length ≤ left) := by
          intro h1 h2 f hf
          rw [List.take_succ_eq_append_getElem hlt, List.mem_append, List.mem_singleton] at hf
          rcases hf with h | h
          · exact HO.out f h
          · rw [h]; exact ⟨h1, h2⟩
        clear hcell1 hcell2 hat HO hx hxl
        generalize l[k].1 = x at hc1' HC HS
        generalize l[k].2 = y at hc2' HC HS
        unfold fileV at HC
        go_wp2_with fail
        refine HC.out.mono ?_
        rintro e w1 ⟨r1, rfl, hle, hif, hb1⟩
        have HB1 := Lib.hid (HB.out.trans (hb1.mono HB.out.size))
        clear hb1 HC
        by_cases h0 : 0 ≤ r1
        · obtain ⟨r2, rfl⟩ : ∃ r2 : Nat, r1 = r2 := ⟨r1.toNat, by omega⟩
          have hd : decide ((r2 : Int) < 0) = false := decide_eq_false (by omega)
          have HS2 := Lib.hid (HS.out (by have := (hif h0).1; omega) (by have := (hif h0).2; omega))
          clear HS hif
          go_wp2_with fail
          go_roundw
          case rel => exact ⟨k + 1, r2, by omega, by omega, rfl, by go_num, HS2, HB1⟩
          case measure => simp [intOf]; omega
        · have hd : decide (r1 < 0) = true := decide_eq_true (by omega)
          clear HS hif
          go_wp2_with fail
          go_ret
          exact ⟨-1, rfl, fun h => by omega, HB1.out⟩
      · have HS : Hid (∀ f ∈ l, f.1.length ≤ left ∧ f.2.length ≤ left) := by have := HO.out; rw [List.take_of_length_le (by omega)] at this; exact this
        clear hat HO hx
        go_wp2_with fail
        go_ret
        exact ⟨r, rfl, fun _ => ⟨by omega, HS.out⟩, HB.out⟩
  · have hlen1 : decide ((left : Int) - (l.length : Int) < 0) = true := by simp; omega
    clear hat hx
    go_enter Tryz.func14, Tryz.ntmps14
    go_wp2_with fail
    go_ret
    exact ⟨-1, rfl, fun h => by omega, Below.refl _ _⟩

end Go.Proofs.YtgcaplbeahjbmaaGreatDoor

/- Walks: the program's lists of names, and whether files are good. -/
namespace Go.Proofs.YtgcaplbeahjbmaaGreatDoor
open Go.RowKit Pth

/-- Names that are good and rise. -/
def namesOk (l : List (List UInt8)) : Bool := l.all nameOk && riseN l
theorem namesOk_bad {l : List (List UInt8)} {k : Nat} (hk : k < l.length) (h : nameOk l[k] = false) : namesOk l = false := by
  have : l.all nameOk = false := by
    rw [List.all_eq_false]
    exact ⟨l[k], List.getElem_mem hk, by rw [h]; simp⟩
  rw [namesOk, this]; rfl
theorem namesOk_fall {l : List (List UInt8)} {k : Nat} (hk : k < l.length) (h0 : 0 < k) (h : ltT l[k - 1] l[k] = false) : namesOk l = false := by
  rw [namesOk, riseN_fall hk h0 h]; simp
theorem namesOk_end {l : List (List UInt8)} {k : Nat} (hk : l.length ≤ k) (h0 : (l.take k).all nameOk = true) (h1 : riseN (l.take k) = true) : namesOk l = true := by
  rw [List.take_of_length_le hk] at h0 h1
  rw [namesOk, h0, h1]; rfl
theorem take_all_nm {l : List (List UInt8)} {k : Nat} (hk : k < l.length) (h0 : (l.take k).all nameOk = true) (h : nameOk l[k] = true) : (l.take (k + 1)).all nameOk = true := by
  rw [List.take_succ_eq_append_getElem hk, List.all_append, h0]; simp [h]

theorem isName_l {b : Bool} (n : List UInt8) (hn : n.length ≤ maxLen) (h : nameOk n = b) : ∀ w, MaxAt w → Calls Tryz.prog 52 #[.string ⟨n.toArray⟩] w (BoolPost b w) := fun w hm => by
  have := isFileName_any n w hn hm
  rwa [h] at this

set_option maxRecDepth 20000 in
set_option maxHeartbeats 4000000 in
theorem areNames_any (l : List (List UInt8)) (v : Value) (w : World) (hrow : RowV w v (S l)) (hx : ∀ n ∈ l, n.length ≤ maxLen) (hm : MaxAt w) :
    Calls Tryz.prog 41 #[v] w (BoolPost (namesOk l) w) := by
  obtain ⟨a, cap, rfl, hc1, hc2, hat⟩ := hrow.texts
  clear hrow
  unfold maxLen at hc2
  have HM := Lib.hid hm
  clear hm
  go_enter Tryz.func41, Tryz.ntmps41
  go_wp2_with fail
  go_loopw [7] (fun i wr => ∃ k : Nat, k ≤ l.length ∧ i = .int .i64 k ∧ Hid (Below w.heap.size w wr) ∧ Hid ((l.take k).all nameOk = true) ∧ Hid (riseN (l.take k) = true)) (fun i _ => l.length - (intOf i).toNat)
  case atStart => exact ⟨0, Nat.zero_le _, rfl, Below.refl _ _, by simp [Hid], by simp [Hid, riseN]⟩
  case round =>
    obtain ⟨k, hk, rfl, HB, HO, HR⟩ := hrel
    have hbs := HB.out.size
    by_cases hlt : k < l.length
    · obtain ⟨g, o, rfl, hg, hcell1⟩ := hat k hlt
      have hc1' : wr.cell? ⟨g, o + k, none⟩ = some (.string ⟨(l[k]).toArray⟩) := by rw [HB.out.cell (p := ⟨g, o + k, none⟩) hg]; exact hcell1
      have hxl := hx l[k] (List.getElem_mem hlt)
      have HM1 := Lib.hid (HM.out.below HB.out)
      by_cases hn : nameOk l[k] = true
      · have HC := Lib.hid (isName_l _ hxl hn wr HM1.out)
        have HO2 := Lib.hid (take_all_nm hlt HO.out hn)
        unfold maxLen at hxl
        by_cases h0 : 0 < k
        · have hk0 : decide ((k : Int) > 0) = true := decide_eq_true (by omega)
          obtain ⟨g', o', hA, _, hp1⟩ := hat (k - 1) (by omega)
          obtain ⟨rfl, rfl⟩ := addr_inj hA
          have hp : wr.cell? ⟨g, o + (k - 1), none⟩ = some (.string ⟨(l[k - 1]).toArray⟩) := by rw [HB.out.cell (p := ⟨g, o + (k - 1), none⟩) hg]; exact hp1
          rcases hz : ltT l[k - 1] l[k] with _ | _
          · have HT := Lib.hid (namesOk_fall hlt h0 hz)
            have hz1 : Op.bytesLess l[k - 1] l[k] = false := hz
            generalize l[k - 1] = z at hp hz hz1
            clear hcell1 hat hx HO HR hn hp1 HO2 hz hA
            generalize l[k] = x at hc1' HC hxl hz1
            go_wp2_with fail
            refine HC.out.mono ?_
            rintro e w5 ⟨rfl, hb5⟩
            have q2 := (hb5.cell (p := ⟨g, o + (k - 1), none⟩) (by show g < wr.heap.size; omega)).trans hp
            have HB6 := Lib.hid (HB.out.trans (hb5.mono HB.out.size))
            clear hb5
            go_wp2_with fail
            go_ret
            exact ⟨ret_bool HT.out.symm, HB6.out⟩
          · have HR2 := Lib.hid (riseN_next hlt HR.out (fun _ => hz))
            have hz1 : Op.bytesLess l[k - 1] l[k] = true := hz
            generalize l[k - 1] = z at hp hz hz1
            clear hcell1 hat hx HO HR hn hp1 hz hA
            generalize l[k] = x at hc1' HC hxl hz1
            go_wp2_with fail
            refine HC.out.mono ?_
            rintro e w5 ⟨rfl, hb5⟩
            have q2 := (hb5.cell (p := ⟨g, o + (k - 1), none⟩) (by show g < wr.heap.size; omega)).trans hp
            have HB6 := Lib.hid (HB.out.trans (hb5.mono HB.out.size))
            clear hb5
            go_wp2_with fail
            go_roundw
            case rel => exact ⟨k + 1, by omega, by go_num, HB6, HO2, HR2⟩
            case measure => simp [intOf]; omega
        · have hk0 : decide ((k : Int) > 0) = false := decide_eq_false (by omega)
          have HR2 := Lib.hid (riseN_next hlt HR.out (fun h => absurd h h0))
          clear hcell1 hat hx HO HR hn
          generalize l[k] = x at hc1' HC hxl
          go_wp2_with fail
          refine HC.out.mono ?_
          rintro e w5 ⟨rfl, hb5⟩
          have HB6 := Lib.hid (HB.out.trans (hb5.mono HB.out.size))
          clear hb5
          go_wp2_with fail
          go_roundw
          case rel => exact ⟨k + 1, by omega, by go_num, HB6, HO2, HR2⟩
          case measure => simp [intOf]; omega
      · have hn' : nameOk l[k] = false := by simpa using hn
        have HT := Lib.hid (namesOk_bad hlt hn')
        have HC := Lib.hid (isName_l _ hxl hn' wr HM1.out)
        unfold maxLen at hxl
        clear hcell1 hat hx HO HR hn hn'
        generalize l[k] = x at hc1' HC hxl
        go_wp2_with fail
        refine HC.out.mono ?_
        rintro e w5 ⟨rfl, hb5⟩
        have HB6 := Lib.hid (HB.out.trans (hb5.mono HB.out.size))
        clear hb5
        go_wp2_with fail
        go_ret
        exact ⟨ret_bool HT.out.symm, HB6.out⟩
    · have HT := Lib.hid (namesOk_end (k := k) (by omega) HO.out HR.out)
      clear HO HR hat hx
      go_wp2_with fail
      go_ret
      exact ⟨ret_bool HT.out.symm, HB.out⟩

end Go.Proofs.YtgcaplbeahjbmaaGreatDoor

/- Walks: the program's good files. -/
namespace Go.Proofs.YtgcaplbeahjbmaaGreatDoor
open Go.RowKit Pth

theorem bth {w w1 w2 : World} (h : Below w.heap.size w w1) (k : Below w1.heap.size w1 w2) : Below w.heap.size w w2 := h.trans (k.mono h.size)
/-- Names are handed back in memory of the call's own. -/
def NamesPost (l : List (List UInt8)) (w : World) (e : Ending) (w' : World) : Prop := ∃ v, e = .returned v ∧ w'.ownsRow w.heap.size 9 1 v l.length (S l) ∧ Below w.heap.size w w'

set_option maxRecDepth 20000 in
set_option maxHeartbeats 2000000 in
theorem namesOf_any (l : List FileT) (v : Value) (w : World) (hrow : RowF w v l) (hl : l.length ≤ 1000000) :
    Calls Tryz.prog 51 #[v] w (NamesPost (l.map (·.1)) w) := by
  obtain ⟨a, cap, rfl, hc1, hc2, hat⟩ := hrow.files
  clear hrow
  unfold maxLen at hc2
  go_enter Tryz.func51, Tryz.ntmps51
  go_wp2_with fail
  go_loopw [8, 3] (fun i v wr => ∃ k : Nat, k ≤ l.length ∧ i = .int .i64 k ∧ Hid (wr.ownsRow w.heap.size 9 1 v ((l.take k).map (·.1)).length (S ((l.take k).map (·.1)))) ∧ Hid (Below w.heap.size w wr)) (fun i _ _ => l.length - (intOf i).toNat)
  case atStart => exact ⟨0, Nat.zero_le _, rfl, ⟨rfl, .inl ⟨rfl, rfl⟩⟩, Below.refl _ _⟩
  case round =>
    obtain ⟨k, hk, rfl, HN, HB⟩ := hrel
    have hbs := HB.out.size
    by_cases hlt : k < l.length
    · obtain ⟨g, o, rfl, hg, hcell1, hcell2⟩ := hat k hlt
      have hc1' : wr.cell? ⟨g, o + k * 2, none⟩ = some (.string ⟨(l[k]).1.toArray⟩) := by rw [HB.out.cell (p := ⟨g, o + k * 2, none⟩) hg]; exact hcell1
      have hc2' : wr.cell? ⟨g, o + k * 2 + 1, none⟩ = some (.string ⟨(l[k]).2.toArray⟩) := by rw [HB.out.cell (p := ⟨g, o + k * 2 + 1, none⟩) hg]; exact hcell2
      have HT : Hid ((l.take k).map (·.1) ++ [l[k].1] = (l.take (k + 1)).map (·.1)) := by
        show _ = _
        rw [List.take_succ_eq_append_getElem hlt, List.map_append]; rfl
      have hln : ((l.take k).map (·.1)).length = k := by rw [List.length_map, List.length_take]; omega
      generalize (l.take k).map (·.1) = acc at HN HT hln
      clear hcell1 hcell2 hat
      generalize l[k].1 = x at hc1' HT
      generalize l[k].2 = y at hc2'
      have HBA := Lib.hid (HB.out.alloc hbs (.cells #[.string ⟨x.toArray⟩, .string ⟨y.toArray⟩] 44))
      have HNA := Lib.hid (HN.out.alloc (.cells #[.string ⟨x.toArray⟩, .string ⟨y.toArray⟩] 44))
      go_wp2_with (at_builtin; refine wpAppOne elemS rfl _ _ rfl w.heap.size _ (S acc) rfl (by rw [S_len]; exact HNA.out) _ rfl (by simp) rfl (by rw [S_len]; omega) HBA.out.size ?_; intro v2 w2 hown2 hg2; have HN2 := Lib.hid (text_snoc hown2); have HB2 := Lib.hid (HBA.out.trans (below_own HNA.out hg2 HBA.out.size)); clear hown2 hg2)
      rw [HT.out] at HN2
      go_roundw
      case rel => exact ⟨k + 1, by omega, by go_num, HN2, HB2⟩
      case measure => simp [intOf]; omega
    · have HN1 : Hid (wr.ownsRow w.heap.size 9 1 u3 (l.map (·.1)).length (S (l.map (·.1)))) := by
        have := HN.out
        rw [List.take_of_length_le (by omega)] at this
        exact this
      clear HN hat
      go_wp2_with fail
      go_ret
      exact ⟨_, rfl, HN1.out, HB.out⟩

theorem goodF_parts (l : List FileT) : goodF l = (namesOk (l.map (·.1)) && (l.all (fun f => decide (f.2.length ≤ 40)) && decide (l.length ≤ 12))) := by
  have : l.all fileOk = ((l.map (·.1)).all nameOk && l.all (fun f => decide (f.2.length ≤ 40))) := by
    induction l with
    | nil => rfl
    | cons f t ih => simp only [List.all_cons, List.map_cons, ih, fileOk]; cases nameOk f.1 <;> cases decide (f.2.length ≤ 40) <;> simp
  rw [goodF, namesOk, this]
  cases (l.map (·.1)).all nameOk <;> cases l.all (fun f => decide (f.2.length ≤ 40)) <;> cases riseN (l.map (·.1)) <;> simp
theorem body_bad {l : List FileT} {k : Nat} (hk : k < l.length) (h : 40 < l[k].2.length) : goodF l = false := by
  have : l.all (fun f => decide (f.2.length ≤ 40)) = false := by
    rw [List.all_eq_false]
    exact ⟨l[k], List.getElem_mem hk, by simp; omega⟩
  rw [goodF_parts, this]; simp

set_option maxRecDepth 20000 in
set_option maxHeartbeats 2000000 in
theorem implGoodFiles_any (l : List FileT) (v : Value) (w : World) (hrow : RowF w v l) (hx : ∀ f ∈ l, f.1.length ≤ maxLen ∧ f.2.length ≤ maxLen) (hm : MaxAt w) :
    Calls Tryz.prog 40 #[v] w (BoolPost (goodF l) w) := by
  have HRW := Lib.hid hrow
  obtain ⟨a, cap, rfl, hc1, hc2, hat⟩ := hrow.files
  clear hrow
  unfold maxLen at hc2
  by_cases h12 : 12 < l.length
  · have hd : decide ((l.length : Int) > 12) = true := decide_eq_true (by omega)
    have HT : Hid (goodF l = false) := by show _ = _; rw [goodF_parts, decide_eq_false (by omega : ¬ l.length ≤ 12)]; simp
    clear hat hx
    go_enter Tryz.func40, Tryz.ntmps40
    go_wp2_with fail
    go_ret
    exact ⟨ret_bool HT.out.symm, Below.refl _ _⟩
  · have hd : decide ((l.length : Int) > 12) = false := decide_eq_false (by omega)
    have HN := Lib.hid (namesOf_any l _ w HRW.out (by omega))
    have HX : Hid (∀ n ∈ l.map (·.1), n.length ≤ maxLen) := by
      intro n hn
      obtain ⟨f, hf, rfl⟩ := List.mem_map.1 hn
      exact (hx f hf).1
    have HM := Lib.hid hm
    clear hm
    rcases hk : namesOk (l.map (·.1)) with _ | _
    · have HT : Hid (goodF l = false) := by show _ = _; rw [goodF_parts, hk]; rfl
      have HK := Lib.hid hk
      clear hat hx hk
      go_enter Tryz.func40, Tryz.ntmps40
      go_wp2_with fail
      refine HN.out.mono ?_
      rintro e w1 ⟨v1, rfl, hown1, hb1⟩
      have HC := Lib.hid (areNames_any (l.map (·.1)) v1 w1 (RowV.of_own (by simpa [S_len] using hown1)) HX.out (HM.out.below hb1))
      rw [HK.out] at HC
      have HB1 := Lib.hid hb1
      clear hown1 hb1
      go_wp2_with fail
      refine HC.out.mono ?_
      rintro e w2 ⟨rfl, hb2⟩
      have HB2 := Lib.hid (HB1.out.trans (hb2.mono HB1.out.size))
      clear hb2
      go_wp2_with fail
      go_ret
      exact ⟨ret_bool HT.out.symm, HB2.out⟩
    · have HT : Hid (goodF l = l.all (fun f => decide (f.2.length ≤ 40))) := by show _ = _; rw [goodF_parts, hk, decide_eq_true (by omega : l.length ≤ 12)]; simp
      have HK := Lib.hid hk
      clear hk
      go_enter Tryz.func40, Tryz.ntmps40
      go_wp2_with fail
      refine HN.out.mono ?_
      rintro e w1 ⟨v1, rfl, hown1, hb1⟩
      have HC := Lib.hid (areNames_any (l.map (·.1)) v1 w1 (RowV.of_own (by simpa [S_len] using hown1)) HX.out (HM.out.below hb1))
      rw [HK.out] at HC
      have HB1 := Lib.hid hb1
      clear hown1 hb1 HN HX HK
      go_wp2_with fail
      refine HC.out.mono ?_
      rintro e w2 ⟨rfl, hb2⟩
      have HB2 := Lib.hid (HB1.out.trans (hb2.mono HB1.out.size))
      clear hb2 HC HB1
      go_wp2_with fail
      go_loopw [16] (fun i wr => ∃ k : Nat, k ≤ l.length ∧ i = .int .i64 k ∧ Hid (Below w.heap.size w wr) ∧ Hid ((l.take k).all (fun f => decide (f.2.length ≤ 40)) = true)) (fun i _ => l.length - (intOf i).toNat)
      case atStart => exact ⟨0, Nat.zero_le _, rfl, HB2, by simp [Hid]⟩
      case round =>
        clear HB2
        obtain ⟨k, hk, rfl, HB, HO⟩ := hrel
        have hbs := HB.out.size
        by_cases hlt : k < l.length
        · obtain ⟨g, o, rfl, hg, hcell1, hcell2⟩ := hat k hlt
          have hc1' : wr.cell? ⟨g, o + k * 2, none⟩ = some (.string ⟨(l[k]).1.toArray⟩) := by rw [HB.out.cell (p := ⟨g, o + k * 2, none⟩) hg]; exact hcell1
          have hc2' : wr.cell? ⟨g, o + k * 2 + 1, none⟩ = some (.string ⟨(l[k]).2.toArray⟩) := by rw [HB.out.cell (p := ⟨g, o + k * 2 + 1, none⟩) hg]; exact hcell2
          have HBA := Lib.hid (HB.out.alloc hbs (.cells #[.string ⟨(l[k]).1.toArray⟩, .string ⟨(l[k]).2.toArray⟩] 44))
          by_cases hy : 40 < l[k].2.length
          · have HTF := Lib.hid (body_bad hlt hy)
            have hy1 : decide ((l[k].2.length : Int) > 40) = true := decide_eq_true (by omega)
            clear hcell1 hcell2 hat hx HO HT
            generalize l[k].1 = x at hc1' HBA
            generalize l[k].2 = y at hc2' HBA hy hy1
            go_wp2_with fail
            go_ret
            exact ⟨ret_bool HTF.out.symm, HBA.out⟩
          · have hy1 : decide ((l[k].2.length : Int) > 40) = false := decide_eq_false (by omega)
            have HO2 : Hid ((l.take (k + 1)).all (fun f => decide (f.2.length ≤ 40)) = true) := by
              show _ = _
              rw [List.take_succ_eq_append_getElem hlt, List.all_append, HO.out]; simp; omega
            clear hcell1 hcell2 hat hx HO HT
            generalize l[k].1 = x at hc1' HBA
            generalize l[k].2 = y at hc2' HBA hy hy1
            go_wp2_with fail
            go_roundw
            case rel => exact ⟨k + 1, by omega, by go_num, HBA, HO2⟩
            case measure => simp [intOf]; omega
        · have HT2 : Hid (goodF l = true) := by
            have := HO.out
            rw [List.take_of_length_le (by omega)] at this
            show _ = _
            rw [HT.out]; exact this
          clear hat hx HO HT
          go_wp2_with fail
          go_ret
          exact ⟨ret_bool HT2.out.symm, HB.out⟩

end Go.Proofs.YtgcaplbeahjbmaaGreatDoor

/- Walks: the laws' copies of files, and whether they are the same. -/
namespace Go.Proofs.YtgcaplbeahjbmaaGreatDoor
open Go.RowKit Pth

set_option maxRecDepth 20000 in
set_option maxHeartbeats 1000000 in
theorem toFileS_any (l : List FileT) (v : Value) (w : World) (hrow : RowF w v l) (hl : l.length ≤ 2000000) :
    Calls Tryz.prog 20 #[v] w (FilesPost l w) := by
  obtain ⟨a, cap, rfl, hc1, hc2, hat⟩ := hrow.files
  clear hrow
  unfold maxLen at hc2
  obtain ⟨w0, hmk, hown0, hb0⟩ := make_rowF l.length w hl
  have HN0 := Lib.hid hown0
  have HB0 := Lib.hid hb0
  clear hown0 hb0
  go_enter Tryz.func20, Tryz.ntmps20
  go_wp2_with fail
  clear hmk
  go_loopw [4] (fun i wr => ∃ k : Nat, k ≤ l.length ∧ i = .int .i64 k ∧ Hid (wr.ownsRow w.heap.size 44 2 (.slice (some ⟨w.heap.size, 0, none⟩) l.length l.length) l.length (FC (l.take k) ++ FC (List.replicate (l.length - k) noFile))) ∧ Hid (Below w.heap.size w wr)) (fun i _ => l.length - (intOf i).toNat)
  case atStart => exact ⟨0, Nat.zero_le _, rfl, HN0, HB0⟩
  case round =>
    clear HN0 HB0
    obtain ⟨k, hk, rfl, HN, HB⟩ := hrel
    have hbs := HB.out.size
    by_cases hlt : k < l.length
    · obtain ⟨g, o, rfl, hg, hcell1, hcell2⟩ := hat k hlt
      have hc1' : wr.cell? ⟨g, o + k * 2, none⟩ = some (.string ⟨(l[k]).1.toArray⟩) := by rw [HB.out.cell (p := ⟨g, o + k * 2, none⟩) hg]; exact hcell1
      have hc2' : wr.cell? ⟨g, o + k * 2 + 1, none⟩ = some (.string ⟨(l[k]).2.toArray⟩) := by rw [HB.out.cell (p := ⟨g, o + k * 2 + 1, none⟩) hg]; exact hcell2
      have HC := Lib.hid (fun W => toFile_any l[k].1 l[k].2 W)
      have ht : (l.take k).length = k := by rw [List.length_take]; omega
      have er : List.replicate (l.length - k) noFile = noFile :: List.replicate (l.length - (k + 1)) noFile := by rw [show l.length - k = (l.length - (k + 1)) + 1 by omega, List.replicate_succ]
      rw [er] at HN
      have HE := Lib.hid (set_two (l.take k) k ht noFile (List.replicate (l.length - (k + 1)) noFile) l[k].1 l[k].2)
      have HE2 := Lib.hid (get_two (l.take k) k ht noFile (List.replicate (l.length - (k + 1)) noFile))
      have HT : Hid (l.take k ++ [(l[k].1, l[k].2)] = l.take (k + 1)) := (List.take_succ_eq_append_getElem hlt).symm
      rw [HT.out] at HE
      clear hcell1 hcell2 hat HT er ht
      generalize l[k].1 = x at hc1' HC HE
      generalize l[k].2 = y at hc2' HC HE
      unfold fileV at HC
      go_wp2_with fail
      refine (HC.out _).mono ?_
      rintro e w1 ⟨rfl, hb1⟩
      have HN1 := Lib.hid (own_belowG HN.out hb1)
      have HB1 := Lib.hid (HB.out.trans (hb1.mono HB.out.size))
      have hfz := HN1.out.frozenAt (k * 2)
      have hfz2 := HN1.out.frozenAt (k * 2 + 1)
      have hcz : w1.cell? ⟨w.heap.size, k * 2, none⟩ = some (.string ByteArray.empty) := by rw [HN1.out.cellAt (k * 2) (by omega), HE2.out.1]; rfl
      have hcz2 : w1.cell? ⟨w.heap.size, k * 2 + 1, none⟩ = some (.string ByteArray.empty) := by rw [HN1.out.cellAt (k * 2 + 1) (by omega), HE2.out.2]; rfl
      have hst := HN1.out.stored (k * 2) (.string ⟨x.toArray⟩)
      have hst2 := hst.1.stored (k * 2 + 1) (.string ⟨y.toArray⟩)
      rw [HE.out] at hst2
      have HN2 := Lib.hid hst2.1
      have HB2 := Lib.hid ((HB1.out.trans (only_below hst.2 (Nat.le_refl _) HB1.out.size)).trans (only_below hst2.2 (Nat.le_refl _) (Nat.le_trans HB1.out.size hst.2.size)))
      clear hst hst2 HN HB HC HE HE2 HN1 HB1 hb1
      go_wp2_with fail
      go_roundw
      case rel => exact ⟨k + 1, by omega, by go_num, HN2, HB2⟩
      case measure => simp [intOf]; omega
    · have HN1 : Hid (wr.ownsRow w.heap.size 44 2 (.slice (some ⟨w.heap.size, 0, none⟩) l.length l.length) l.length (FC l)) := by
        have := HN.out
        rw [List.take_of_length_le (by omega), show l.length - k = 0 by omega] at this
        simpa [FC, Hid] using this
      clear HN hat
      go_wp2_with fail
      go_ret
      exact ⟨_, rfl, HN1.out, HB.out⟩

end Go.Proofs.YtgcaplbeahjbmaaGreatDoor

/- Walks: whether files are the same, as the laws ask it. -/
namespace Go.Proofs.YtgcaplbeahjbmaaGreatDoor
open Go.RowKit Pth

theorem eqFile_b {x y x' y' : List UInt8} {b : Bool} (h : decide ((x, y) = (x', y')) = b) (w : World) :
    Calls Tryz.prog 47 #[.agg #[.string ⟨x.toArray⟩, .string ⟨y.toArray⟩], .agg #[.string ⟨x'.toArray⟩, .string ⟨y'.toArray⟩]] w fun e w' => e = .returned (.bool b) ∧ Below w.heap.size w w' := by
  have := eqFile_any x y x' y' w
  rw [h] at this
  exact this

set_option maxRecDepth 20000 in
set_option maxHeartbeats 2000000 in
theorem eqFileS_any (l m : List FileT) (v u : Value) (w : World) (hr1 : RowF w v l) (hr2 : RowF w u m) (hl : l.length ≤ 2000000) :
    Calls Tryz.prog 26 #[v, u] w fun e w' => e = .returned (.bool (decide (l = m))) ∧ Below w.heap.size w w' := by
  obtain ⟨a, cap, rfl, hc1, hc2, hat⟩ := hr1.files
  obtain ⟨a2, cap2, rfl, hc3, hc4, hat2⟩ := hr2.files
  clear hr1 hr2
  unfold maxLen at hc2 hc4
  by_cases hlen : l.length = m.length
  · have hlen1 : ((l.length : Int) != (m.length : Int)) = false := by simp [hlen]
    have hle1 : l.length ≤ m.length := by omega
    have hle2 : m.length ≤ l.length := by omega
    clear hlen
    go_enter Tryz.func26, Tryz.ntmps26
    go_wp2_with fail
    go_loopw [5] (fun i wr => ∃ k : Nat, k ≤ l.length ∧ i = .int .i64 k ∧ Hid (l.take k = m.take k) ∧ Hid (Below w.heap.size w wr)) (fun i _ => l.length - (intOf i).toNat)
    case atStart => exact ⟨0, Nat.zero_le _, rfl, rfl, Below.refl _ _⟩
    case round =>
      obtain ⟨k, hk, rfl, HO, HB⟩ := hrel
      by_cases hlt : k < l.length
      · obtain ⟨g, o, rfl, hg, hcell1, hcell2⟩ := hat k hlt
        obtain ⟨g2, o2, rfl, hg2, hcell3, hcell4⟩ := hat2 k (by omega)
        have s1 := (HB.out.cell (p := ⟨g, o + k * 2, none⟩) hg).trans hcell1
        have s2 := (HB.out.cell (p := ⟨g, o + k * 2 + 1, none⟩) hg).trans hcell2
        have s3 := (HB.out.cell (p := ⟨g2, o2 + k * 2, none⟩) hg2).trans hcell3
        have s4 := (HB.out.cell (p := ⟨g2, o2 + k * 2 + 1, none⟩) hg2).trans hcell4
        have hi1 : (k : Int) < (l.length : Int) := by omega
        have hi2 : (k : Int) < (m.length : Int) := by omega
        have hbs := HB.out.size
        have hgw : g < wr.heap.size := by omega
        have hgw2 : g2 < wr.heap.size := by omega
        have e1 : l[k] = (l[k].1, l[k].2) := rfl
        have e2 : m[k] = (m[k].1, m[k].2) := rfl
        clear hcell1 hcell2 hcell3 hcell4 hat hat2
        by_cases he : l[k] = m[k]
        · have HS := Lib.hid (same_next HO.out hlt (by omega) he)
          rw [e1, e2] at he
          have HC := Lib.hid (fun W => eqFile_b (decide_eq_true he) W)
          clear HO e1 e2 he
          generalize l[k].1 = x at s1 HC
          generalize l[k].2 = y at s2 HC
          generalize m[k].1 = x' at s3 HC
          generalize m[k].2 = y' at s4 HC
          go_wp2_with fail
          go_region_held3 (fun w' => w'.cell? ⟨g, o + k * 2, none⟩ = some (.string ⟨x.toArray⟩) ∧ w'.cell? ⟨g, o + k * 2 + 1, none⟩ = some (.string ⟨y.toArray⟩) ∧ w'.cell? ⟨g2, o2 + k * 2, none⟩ = some (.string ⟨x'.toArray⟩) ∧ w'.cell? ⟨g2, o2 + k * 2 + 1, none⟩ = some (.string ⟨y'.toArray⟩)) (first | exact ⟨s1, s2, s3, s4⟩ | exact ks)
            (first | (go_at_call 47; refine (HC.out _).mono ?_; rintro e w5 ⟨rfl, hb5⟩; have ks := And.intro ((hb5.cell (p := ⟨g, o + k * 2, none⟩) hgw).trans s1) (And.intro ((hb5.cell (p := ⟨g, o + k * 2 + 1, none⟩) hgw).trans s2) (And.intro ((hb5.cell (p := ⟨g2, o2 + k * 2, none⟩) hgw2).trans s3) ((hb5.cell (p := ⟨g2, o2 + k * 2 + 1, none⟩) hgw2).trans s4)))))
          have HB5 := Lib.hid ((Below.drew HB.out).trans (hb5.mono HB.out.size))
          clear hb5 ks
          go_wp2_with fail
          go_roundw
          case rel => exact ⟨k + 1, by omega, by go_num, HS, HB5⟩
          case measure => simp [intOf]; omega
        · have HS : Hid (decide (l = m) = false) := decide_eq_false (same_not hlt (by omega) he)
          rw [e1, e2] at he
          have HC := Lib.hid (fun W => eqFile_b (decide_eq_false he) W)
          clear HO e1 e2 he
          generalize l[k].1 = x at s1 HC
          generalize l[k].2 = y at s2 HC
          generalize m[k].1 = x' at s3 HC
          generalize m[k].2 = y' at s4 HC
          go_wp2_with fail
          go_region_held3 (fun w' => w'.cell? ⟨g, o + k * 2, none⟩ = some (.string ⟨x.toArray⟩) ∧ w'.cell? ⟨g, o + k * 2 + 1, none⟩ = some (.string ⟨y.toArray⟩) ∧ w'.cell? ⟨g2, o2 + k * 2, none⟩ = some (.string ⟨x'.toArray⟩) ∧ w'.cell? ⟨g2, o2 + k * 2 + 1, none⟩ = some (.string ⟨y'.toArray⟩)) (first | exact ⟨s1, s2, s3, s4⟩ | exact ks)
            (first | (go_at_call 47; refine (HC.out _).mono ?_; rintro e w5 ⟨rfl, hb5⟩; have ks := And.intro ((hb5.cell (p := ⟨g, o + k * 2, none⟩) hgw).trans s1) (And.intro ((hb5.cell (p := ⟨g, o + k * 2 + 1, none⟩) hgw).trans s2) (And.intro ((hb5.cell (p := ⟨g2, o2 + k * 2, none⟩) hgw2).trans s3) ((hb5.cell (p := ⟨g2, o2 + k * 2 + 1, none⟩) hgw2).trans s4)))))
          have HB5 := Lib.hid ((Below.drew HB.out).trans (hb5.mono HB.out.size))
          clear hb5 ks
          go_wp2_with fail
          go_ret
          exact ⟨ret_bool HS.out.symm, HB5.out⟩
      · have HS : Hid (decide (l = m) = true) := decide_eq_true (same_all HO.out (by omega) (by omega))
        clear HO hat hat2
        go_wp2_with fail
        go_ret
        exact ⟨ret_bool HS.out.symm, HB.out⟩
  · have hlen1 : ((l.length : Int) != (m.length : Int)) = true := by simp; omega
    have HS : Hid (decide (l = m) = false) := decide_eq_false (fun h => hlen (by rw [h]))
    clear hat hat2
    go_enter Tryz.func26, Tryz.ntmps26
    go_wp2_with fail
    go_ret
    exact ⟨ret_bool HS.out.symm, Below.refl _ _⟩

end Go.Proofs.YtgcaplbeahjbmaaGreatDoor

/- Walks: the law that good files are told alike. -/
namespace Go.Proofs.YtgcaplbeahjbmaaGreatDoor
open Go.RowKit Pth

/-- The law says yes, and nothing that lay there has turned. -/
def YesP (w : World) (e : Ending) (w' : World) : Prop := e = .returned (.bool true) ∧ Below w.heap.size w w'

end Go.Proofs.YtgcaplbeahjbmaaGreatDoor

/- Maps of files: as rising lists; the laws at a map's operations. -/
namespace Go.Proofs.YtgcaplbeahjbmaaGreatDoor
open Go.RowKit Go.Maps Pth

/-- Names rise. -/
def RiseF (l : List FileT) : Prop := (l.map (·.1)).Pairwise (fun a b => ltT a b = true)
theorem riseF_iff {l : List FileT} : RiseF l ↔ riseN (l.map (·.1)) = true := riseN_iff.symm
theorem RiseF.nil : RiseF [] := List.Pairwise.nil
theorem RiseF.tail {x : FileT} {t : List FileT} (h : RiseF (x :: t)) : RiseF t := (List.pairwise_cons.1 h).2
theorem RiseF.head {x : FileT} {t : List FileT} (h : RiseF (x :: t)) : ∀ g ∈ t, ltT x.1 g.1 = true := fun g hg => (List.pairwise_cons.1 h).1 g.1 (List.mem_map.2 ⟨g, hg, rfl⟩)
theorem RiseF.cons {x : FileT} {t : List FileT} (h : ∀ g ∈ t, ltT x.1 g.1 = true) (ht : RiseF t) : RiseF (x :: t) := by
  refine List.pairwise_cons.2 ⟨fun n hn => ?_, ht⟩
  obtain ⟨g, hg, rfl⟩ := List.mem_map.1 hn
  exact h g hg
theorem ltT_asymm {a b : List UInt8} (h : ltT a b = true) : ltT b a = false := by
  rcases hb : ltT b a with _ | _
  · rfl
  · have := ltT_trans h hb
    rw [ltT_irrefl] at this; cases this
theorem ltT_ne {a b : List UInt8} (h : ltT a b = true) : a ≠ b := by
  rintro rfl
  rw [ltT_irrefl] at h; cases h
theorem mem_putG {l : List FileT} {f g : FileT} (h : g ∈ putF l f) : g = f ∨ g ∈ l := by
  induction l with
  | nil => simp [putF] at h; exact .inl h
  | cons x t ih =>
    unfold putF at h
    split at h
    · rcases List.mem_cons.1 h with rfl | h
      · exact .inr (by simp)
      · rcases ih h with h | h
        · exact .inl h
        · exact .inr (by simp [h])
    · split at h
      · rcases List.mem_cons.1 h with h | h
        · exact .inl h
        · exact .inr (by simp [h])
      · rcases List.mem_cons.1 h with h | h
        · exact .inl h
        · exact .inr h
theorem RiseF.put {l : List FileT} (h : RiseF l) (f : FileT) : RiseF (putF l f) := by
  induction l with
  | nil => exact RiseF.cons (fun g hg => by simp at hg) RiseF.nil
  | cons x t ih =>
    unfold putF
    split
    · rename_i hx
      refine RiseF.cons (fun g hg => ?_) (ih h.tail)
      rcases mem_putG hg with rfl | hg
      · exact hx
      · exact h.head g hg
    · rename_i hx
      split
      · rename_i he
        exact RiseF.cons (fun g hg => he ▸ h.head g hg) h.tail
      · rename_i he
        have hlt : ltT f.1 x.1 = true := by
          rcases ltT_total x.1 f.1 with h1 | h1 | h1
          · exact absurd h1 hx
          · exact absurd h1 he
          · exact h1
        refine RiseF.cons (fun g hg => ?_) h
        rcases List.mem_cons.1 hg with rfl | hg
        · exact hlt
        · exact ltT_trans hlt (h.head g hg)
theorem RiseF.drop {l : List FileT} (h : RiseF l) (n : List UInt8) : RiseF (dropF l n) :=
  List.Pairwise.sublist (List.Sublist.map _ List.filter_sublist) h
theorem RiseF.nodup {l : List FileT} (h : RiseF l) : (l.map (·.1)).Nodup := List.Pairwise.imp (fun h => ltT_ne h) h
/-- A name has one body. -/
theorem RiseF.one {l : List FileT} (h : RiseF l) {f g : FileT} (hf : f ∈ l) (hg : g ∈ l) (e : f.1 = g.1) : f = g := by
  induction l with
  | nil => simp at hf
  | cons x t ih =>
    rcases List.mem_cons.1 hf with hf2 | hf2
    · rcases List.mem_cons.1 hg with hg2 | hg2
      · rw [hf2, hg2]
      · subst hf2; exact absurd e (ltT_ne (h.head g hg2))
    · rcases List.mem_cons.1 hg with hg2 | hg2
      · subst hg2; exact absurd e.symm (ltT_ne (h.head f hf2))
      · exact ih h.tail hf2 hg2

/-- What a map of files reads as. -/
def entF (f : FileT) : Lit × DataW Unit := (.string f.1, .lit (.string f.2))
def datF (l : List FileT) : DataW Unit := .map (l.map entF)
theorem before_lt (a b : List UInt8) : Lit.before (.string a) (.string b) = ltT a b := by
  show bytesBefore a b = ltT a b
  induction a generalizing b with
  | nil => cases b <;> rfl
  | cons x t ih =>
    cases b with
    | nil => rfl
    | cons y u => rw [ltT_cons, bytesBefore, ih]
theorem insert_first (f : FileT) (t : List FileT) (h : ∀ g ∈ t, ltT f.1 g.1 = true) : DataW.insert (entF f) (t.map entF) = (f :: t).map entF := by
  cases t with
  | nil => rfl
  | cons x u =>
    show (if Lit.before (.string f.1) (.string x.1) then _ else _) = _
    rw [before_lt, if_pos (h x (by simp))]; rfl
theorem filter_other (n : List UInt8) (t : List FileT) (h : ∀ g ∈ t, g.1 ≠ n) : (t.map entF).filter (fun p => !p.1.sameKey (.string n)) = t.map entF := by
  refine List.filter_eq_self.2 fun p hp => ?_
  obtain ⟨g, hg, rfl⟩ := List.mem_map.1 hp
  show (!(g.1 == n)) = true
  simp [h g hg]
theorem datF_put {l : List FileT} (h : RiseF l) (f : FileT) : (datF l).put (.string f.1) (.lit (.string f.2)) = datF (putF l f) := by
  show DataW.map (DataW.insert (entF f) ((l.map entF).filter fun p => !p.1.sameKey (.string f.1))) = .map _
  congr 1
  induction l with
  | nil => rfl
  | cons x t ih =>
    rw [List.map_cons, List.filter_cons]
    show DataW.insert (entF f) (if (!(x.1 == f.1)) = true then _ else _) = _
    unfold putF
    by_cases hx : ltT x.1 f.1 = true
    · rw [if_pos hx, if_pos (by simp [ltT_ne hx])]
      show (if Lit.before (.string f.1) (.string x.1) then _ else _) = _
      rw [before_lt, ltT_asymm hx, if_neg (by simp), ih h.tail]; rfl
    · rw [if_neg hx]
      by_cases he : x.1 = f.1
      · rw [if_pos he, if_neg (by simp [he]), filter_other _ _ (fun g hg => (ltT_ne (he ▸ h.head g hg)).symm)]
        exact insert_first f t (fun g hg => he ▸ h.head g hg)
      · have hlt : ltT f.1 x.1 = true := by
          rcases ltT_total x.1 f.1 with h1 | h1 | h1
          · exact absurd h1 hx
          · exact absurd h1 he
          · exact h1
        rw [if_neg he, if_pos (by simp [he]), filter_other _ _ (fun g hg => (ltT_ne (ltT_trans hlt (h.head g hg))).symm)]
        exact insert_first f (x :: t) (fun g hg => by
          rcases List.mem_cons.1 hg with rfl | hg
          · exact hlt
          · exact ltT_trans hlt (h.head g hg))
theorem datF_del (l : List FileT) (n : List UInt8) : (datF l).del (.string n) = datF (dropF l n) := by
  show DataW.map ((l.map entF).filter fun p => !p.1.sameKey (.string n)) = .map ((l.filter fun f => !(f.1 == n)).map entF)
  rw [List.filter_map]; rfl
def hasF (l : List FileT) (n : List UInt8) : Bool := l.any (fun f => f.1 == n)
def bodyF (l : List FileT) (n : List UInt8) : List UInt8 := match l.find? (fun f => f.1 == n) with | some f => f.2 | none => []
theorem datF_has (l : List FileT) (n : List UInt8) : Maps.has (datF l) (.string n) = hasF l n := by
  show (l.map entF).any (fun p => p.1.sameKey (.string n)) = l.any (fun f => f.1 == n)
  rw [List.any_map]; rfl
theorem datF_find (l : List FileT) (n : List UInt8) (z : DataW Unit) : (datF l).atKey (.string n) z = match l.find? (fun f => f.1 == n) with | some f => .lit (.string f.2) | none => z := by
  have e : ((fun p : Lit × DataW Unit => p.1.sameKey (.string n)) ∘ entF) = fun f : FileT => f.1 == n := rfl
  unfold datF DataW.atKey
  simp only [List.find?_map, e]
  cases l.find? (fun f => f.1 == n) <;> rfl
theorem datF_at (l : List FileT) (n : List UInt8) : (datF l).atKey (.string n) (.lit (.string [])) = .lit (.string (bodyF l n)) := by
  rw [datF_find, bodyF]
  cases l.find? (fun f => f.1 == n) <;> rfl
theorem datF_mem {l : List FileT} {x c : List UInt8} (h : ∀ z, (datF l).atKey (.string x) z = .lit (.string c)) : (x, c) ∈ l := by
  have := h .nil
  rw [datF_find] at this
  rcases hf : l.find? (fun f => f.1 == x) with _ | f
  · rw [hf] at this; cases this
  · rw [hf] at this
    injection this with this
    injection this with this
    have h1 := List.find?_some hf
    have h2 := List.mem_of_find?_eq_some hf
    have : f = (x, c) := Prod.ext (by simpa using h1) this
    exact this ▸ h2
theorem datF_size (l : List FileT) : Maps.size (datF l) = l.length := by show (l.map entF).length = _; simp

/-- A block is a map of files that reads as a rising list. -/
def MapF (w : World) (b n : Nat) (l : List FileT) : Prop := w.ownsMap Tryz.prog 9 (plainElem (H := Unit) Tryz.prog 9) b n (datF l) ∧ RiseF l
theorem keyS : Keyed Tryz.prog 9 := string_keyed Tryz.underlying9
theorem key_of (n : List UInt8) (h : n.length ≤ maxLen) : keyOf Tryz.prog 9 (.string ⟨n.toArray⟩) = some (.string n) := by
  have := WideMaps.keyOf_string_mk (P := Tryz.prog) Tryz.underlying9 (s := ⟨n.toArray⟩) (by simpa [ByteArray.size] using h)
  simpa using this
theorem elem_of (y : List UInt8) (h : y.length ≤ maxLen) : plainElem (H := Unit) Tryz.prog 9 (.string ⟨y.toArray⟩) = some (.lit (.string y), []) := by
  have := plainElem_string (H := Unit) (P := Tryz.prog) Tryz.underlying9 (s := ⟨y.toArray⟩) (by simpa [ByteArray.size] using h)
  simpa using this
theorem zeroS (w : World) : (zeroValue 9).run Tryz.prog w = .ok (.string ByteArray.empty) w := Tryz.zeroValue9 w
theorem MapF.lt {w : World} {b n : Nat} {l : List FileT} (h : MapF w b n l) : b < w.heap.size := h.1.lt
theorem MapF.kept {w w' : World} {b n : Nat} {l : List FileT} {row : Option Nat} (h : MapF w b n l) (hg : w.grownBy w' row) (hne : some b ≠ row) : MapF w' b n l := ⟨h.1.kept hg hne, h.2⟩
theorem MapF.below {w w' : World} {b n : Nat} {l : List FileT} (h : MapF w b n l) (hb : Below w.heap.size w w') : MapF w' b n l := by
  obtain ⟨⟨es, clock, hh, r⟩, hr⟩ := h
  exact ⟨⟨es, clock, (hb.block b (lt_of_block hh)).trans hh, r⟩, hr⟩
theorem MapF.made (w : World) : MapF (w.alloc (.map #[] 0)) w.heap.size 0 [] := ⟨World.ownsMap_made w _ _ _, RiseF.nil⟩

section
variable (w : World) {ops : Array Oper} {rest : List Oper} {o : Oper} {a : Act} {Q : Exit → Act → World → Prop}
/-- A body looked up, and whether it is there. -/
theorem wpLookF (hg : o.guard = none) (m x : Operand) (hop : o.op = Op.lookup 48 m x true) (b n : Nat) (l : List FileT)
    (hm : a.eval m = .map (some b)) (hown : MapF w b n l) (k : List UInt8) (hx : a.eval x = .string ⟨k.toArray⟩) (hk : k.length ≤ maxLen)
    (hK : wpList Tryz.prog ops Q rest (a.put o.dst (.tuple #[.string ⟨(bodyF l k).toArray⟩, .bool (hasF l k)])) w) : wpList Tryz.prog ops Q (o :: rest) a w := by
  refine wpList_lookup_own_ok w hg m x 48 hop 9 9 keyS Tryz.underlying48 _ (zeroS w) (.lit (.string [])) [] (elem_of [] (by unfold maxLen; simp)) b n (datF l) hm hown.1 _ (.string k) hx (key_of k hk) ?_
  intro v ps hv
  obtain ⟨s, rfl, hs, _⟩ := plainElem_string_inv Tryz.underlying9 hv
  rw [datF_at] at hs
  have e : s = ⟨(bodyF l k).toArray⟩ := by
    have h1 := congrArg Prod.fst hs
    simp only [DataW.lit.injEq, Lit.string.injEq] at h1
    rw [h1]
  rw [e, datF_has]
  exact hK
/-- A body put under a name. -/
theorem wpPutF (hg : o.guard = none) (m x v : Operand) (hop : o.op = Op.mapUpdate 48 m x v) (b n : Nat) (l : List FileT)
    (hm : a.eval m = .map (some b)) (hown : MapF w b n l) (hn : n ≤ 1000000) (k y : List UInt8) (hx : a.eval x = .string ⟨k.toArray⟩) (hv : a.eval v = .string ⟨y.toArray⟩) (hk : k.length ≤ maxLen) (hy : y.length ≤ maxLen)
    (hK : ∀ w', MapF w' b (n + 1) (putF l (k, y)) → w.grownBy w' (some b) → wpList Tryz.prog ops Q rest (a.put o.dst undef) w') : wpList Tryz.prog ops Q (o :: rest) a w := by
  refine wpList_mapUpdate_own w hg m x v 48 hop 9 9 keyS Tryz.underlying48 _ b n (datF l) hm hown.1 (by unfold maxLen; omega) _ _ (.string k) hx hv (key_of k hk) (.lit (.string y)) [] (elem_of y hy) ?_
  intro w' h1 h2
  rw [datF_put hown.2 (k, y)] at h1
  exact hK w' ⟨h1, hown.2.put _⟩ h2
/-- A name struck. -/
theorem wpDelF (hg : o.guard = none) (m x : Operand) (hop : o.op = Op.call { callee := Callee.builtin Builtin.delete, args := #[m, x], argTypes := #[48, 9] }) (b n : Nat) (l : List FileT)
    (hm : a.eval m = .map (some b)) (hown : MapF w b n l) (k : List UInt8) (hx : a.eval x = .string ⟨k.toArray⟩) (hk : k.length ≤ maxLen)
    (hK : ∀ w', MapF w' b n (dropF l k) → w.grownBy w' (some b) → wpList Tryz.prog ops Q rest (a.put o.dst (.tuple #[])) w') : wpList Tryz.prog ops Q (o :: rest) a w := by
  refine wpList_delete_own w hg m x 48 9 hop 9 keyS Tryz.underlying48 _ b n (datF l) hm hown.1 _ (.string k) hx (key_of k hk) ?_
  intro w' h1 h2
  rw [datF_del] at h1
  exact hK w' ⟨h1, hown.2.drop _⟩ h2.grown
/-- A map that is ranged over. -/
def RangF (w : World) (b r n : Nat) (l : List FileT) (left : Lit → Bool) (cnt : Nat) : Prop := w.ranges Tryz.prog 9 (plainElem (H := Unit) Tryz.prog 9) b r n (datF l) left cnt ∧ RiseF l
theorem wpRangeF (hg : o.guard = none) (m : Operand) (hop : o.op = Op.range 48 m) (b n : Nat) (l : List FileT) (hm : a.eval m = .map (some b)) (hown : MapF w b n l)
    (hK : ∀ w', RangF w' b w.heap.size n l (Maps.has (datF l)) l.length → w.grownBy w' none → w'.heap.size = w.heap.size + 1 → wpList Tryz.prog ops Q rest (a.put o.dst (.pointer (some ⟨w.heap.size, 0, none⟩))) w') : wpList Tryz.prog ops Q (o :: rest) a w := by
  refine wpList_range_own w hg m 48 hop 9 9 keyS Tryz.underlying48 _ b n (datF l) hm hown.1 ?_
  intro w' h1 h2 h3
  rw [datF_size] at h1
  exact hK w' ⟨h1, hown.2⟩ h2 h3
set_option maxRecDepth 20000 in
theorem wpNextF (hg : o.guard = none) (it : Operand) (hop : o.op = Op.next it false) (b r n : Nat) (l : List FileT) (left : Lit → Bool) (cnt : Nat) (hit : a.eval it = .pointer (some ⟨r, 0, none⟩)) (h : RangF w b r n l left cnt)
    (hDone : cnt = 0 → (∀ kl, left kl = false) → wpList Tryz.prog ops Q rest (a.put o.dst (.tuple #[.bool false])) w)
    (hMore : ∀ (x c : List UInt8) (w' : World) (cnt' : Nat), (x, c) ∈ l → x.length ≤ maxLen → c.length ≤ maxLen → left (.string x) = true → RangF w' b r n l (fun z => left z && !z.sameKey (.string x)) cnt' → cnt' < cnt → w.grownBy w' (some r) → w'.heap.size = w.heap.size →
      (Instr.entry (.pointer (some ⟨r, 0, none⟩))).run Tryz.prog w' = .ok (.tuple #[.string ⟨x.toArray⟩, .string ⟨c.toArray⟩]) w' → wpList Tryz.prog ops Q rest (a.put o.dst (.tuple #[.bool true, .string ⟨x.toArray⟩, .string ⟨c.toArray⟩])) w') : wpList Tryz.prog ops Q (o :: rest) a w := by
  refine wpList_next_ranges w hg it hop 9 keyS (plainElem (H := Unit) Tryz.prog 9) (fun l : List UInt8 => .string ⟨l.toArray⟩) (fun l : List UInt8 => .string ⟨l.toArray⟩)
    (fun key kl hkey => by obtain ⟨x, rfl, _⟩ := Maps.keyOf_str Tryz.underlying9 hkey; exact ⟨x, rfl⟩) (fun v y hv => by obtain ⟨c, rfl, _⟩ := plainElem_string_inv Tryz.underlying9 hv; exact ⟨c.data.toList, by simp⟩) b r n (datF l) left cnt hit h.1 hDone ?_
  intro x c kl y w' cnt' hkey hlk hv hat hrg hlt hgr hsz hen
  obtain ⟨x', ex, rfl, hx⟩ := Maps.keyOf_str Tryz.underlying9 hkey
  obtain rfl : x = x' := encStr_inj ex
  obtain ⟨c', ec, hy, hc⟩ := plainElem_string_inv Tryz.underlying9 hv
  have ec2 : c = c'.data.toList := by
    injection ec with ec
    rw [← ec]
  rw [hy] at hat
  subst ec2
  exact hMore x _ w' cnt' (datF_mem hat) hx (by rw [Array.length_toList]; exact hc) hlk ⟨hrg, h.2⟩ hlt hgr hsz hen
end
theorem RangF.owns {w : World} {b r n cnt : Nat} {l : List FileT} {left : Lit → Bool} (h : RangF w b r n l left cnt) : MapF w b n l := ⟨h.1.owns, h.2⟩

/-- The files met so far. -/
def CollF (l : List FileT) (left : Lit → Bool) (acc : List FileT) : Prop := (acc.map (·.1)).Nodup ∧ ∀ f, f ∈ acc ↔ f ∈ l ∧ left (.string f.1) = false
theorem CollF.start (l : List FileT) : CollF l (Maps.has (datF l)) [] := by
  refine ⟨List.nodup_nil, fun f => ⟨fun h => by simp at h, fun ⟨h1, h2⟩ => ?_⟩⟩
  rw [datF_has, hasF, List.any_eq_false] at h2
  exact absurd (by simp) (h2 f h1)
theorem CollF.step {l acc : List FileT} {left : Lit → Bool} (h : CollF l left acc) (hr : RiseF l) {x c : List UInt8} (hx : (x, c) ∈ l) (hl : left (.string x) = true) : CollF l (fun z => left z && !z.sameKey (.string x)) (acc ++ [(x, c)]) := by
  have hno : ∀ f ∈ acc, f.1 ≠ x := fun f hf e => by
    have := ((h.2 f).1 hf).2
    rw [e, hl] at this; cases this
  refine ⟨?_, fun f => ?_⟩
  · rw [List.map_append, List.nodup_append]
    refine ⟨h.1, by simp, fun a ha b hb => ?_⟩
    obtain ⟨f, hf, rfl⟩ := List.mem_map.1 ha
    simp at hb
    subst hb
    exact hno f hf
  · rw [List.mem_append, h.2 f, List.mem_singleton]
    show _ ↔ f ∈ l ∧ (left (.string f.1) && !(f.1 == x)) = false
    constructor
    · rintro (⟨h1, h2⟩ | rfl)
      · exact ⟨h1, by rw [h2]; rfl⟩
      · exact ⟨hx, by simp⟩
    · rintro ⟨h1, h2⟩
      by_cases e : f.1 = x
      · exact .inr (hr.one h1 hx e)
      · have : (f.1 == x) = false := by simpa using e
        rw [this] at h2
        exact .inl ⟨h1, by simpa using h2⟩
theorem nodup_of_map {l : List FileT} (h : (l.map (·.1)).Nodup) : l.Nodup := by
  induction l with
  | nil => exact List.nodup_nil
  | cons x t ih =>
    rw [List.map_cons, List.nodup_cons] at h
    exact List.nodup_cons.2 ⟨fun hm => h.1 (List.mem_map.2 ⟨x, hm, rfl⟩), ih h.2⟩
theorem CollF.perm {l acc : List FileT} {left : Lit → Bool} (h : CollF l left acc) (hr : RiseF l) (hl : ∀ kl, left kl = false) : acc.Perm l :=
  (List.perm_ext_iff_of_nodup (nodup_of_map h.1) (nodup_of_map hr.nodup)).2 fun f => by rw [h.2 f, hl]; simp
/-- Sorted by names, it is the rising list. -/
theorem sorted_is {l d : List FileT} (hp : d.Perm l) (hr : RiseF l) (hs : d.Pairwise (fun a b => ltT b.1 a.1 = false)) : d = l := by
  have hl : l.Pairwise (fun a b : FileT => ltT b.1 a.1 = false) := by
    have : l.Pairwise (fun a b : FileT => ltT a.1 b.1 = true) := List.pairwise_map.1 hr
    exact this.imp (fun h => ltT_asymm h)
  refine List.Perm.eq_of_pairwise (le := fun a b : FileT => ltT b.1 a.1 = false) (fun a b ha hb h1 h2 => ?_) hs hl hp
  have ha' : a ∈ l := hp.mem_iff.1 ha
  refine hr.one ha' hb ?_
  rcases ltT_total a.1 b.1 with h | h | h
  · rw [h] at h2; cases h2
  · exact h
  · rw [h] at h1; cases h1
/-- Filled from a rising list. -/
theorem fill_is {l : List FileT} (h : RiseF l) (k : Nat) : (l.take k).foldl putF [] = l.take k := by
  have snoc : ∀ (a : List FileT) (f : FileT), (∀ g ∈ a, ltT g.1 f.1 = true) → putF a f = a ++ [f] := by
    intro a f
    induction a with
    | nil => intro _; rfl
    | cons x t ih => intro hh; rw [putF, if_pos (hh x (by simp)), ih (fun g hg => hh g (by simp [hg]))]; rfl
  induction k with
  | zero => rfl
  | succ k ih =>
    by_cases hk : k < l.length
    · rw [List.take_succ_eq_append_getElem hk, List.foldl_append, ih]
      show putF (l.take k) l[k] = _
      refine snoc _ _ fun g hg => ?_
      obtain ⟨j, hj, rfl⟩ := List.mem_iff_getElem.1 hg
      rw [List.length_take] at hj
      rw [List.getElem_take]
      exact List.pairwise_iff_getElem.1 (List.pairwise_map.1 h) j k (by omega) hk (by omega)
    · rw [List.take_of_length_le (by omega)] at ih ⊢
      exact ih

end Go.Proofs.YtgcaplbeahjbmaaGreatDoor

/- Walks: the program's maps of bodies. -/
namespace Go.Proofs.YtgcaplbeahjbmaaGreatDoor
open Go.RowKit Go.Maps Pth

theorem MapF.alloc {w : World} {b n : Nat} {l : List FileT} (h : MapF w b n l) (o : Obj) : MapF (w.alloc o) b n l := ⟨h.1.alloc o, h.2⟩
/-- A map of files is handed back, in a block of its own. -/
def MapPost (B n : Nat) (l : List FileT) (w : World) (e : Ending) (w' : World) : Prop := e = .returned (.map (some B)) ∧ MapF w' B n l ∧ Below w.heap.size w w'
theorem fold_next {l : List FileT} {k : Nat} (hk : k < l.length) (a : List FileT) : (l.take (k + 1)).foldl putF a = putF ((l.take k).foldl putF a) (l[k].1, l[k].2) := by
  rw [List.take_succ_eq_append_getElem hk, List.foldl_append]; rfl
theorem fold_nextN {l : List (List UInt8)} {k : Nat} (hk : k < l.length) (a : List FileT) : (l.take (k + 1)).foldl dropF a = dropF ((l.take k).foldl dropF a) l[k] := by
  rw [List.take_succ_eq_append_getElem hk, List.foldl_append]; rfl

set_option maxRecDepth 20000 in
set_option maxHeartbeats 2000000 in
theorem bodiesOf_any (l : List FileT) (v : Value) (w : World) (hrow : RowF w v l) (hx : ∀ f ∈ l, f.1.length ≤ maxLen ∧ f.2.length ≤ maxLen) (hl : l.length ≤ 1000) :
    Calls Tryz.prog 23 #[v] w (MapPost w.heap.size l.length (l.foldl putF []) w) := by
  obtain ⟨a, cap, rfl, hc1, hc2, hat⟩ := hrow.files
  clear hrow
  unfold maxLen at hc2
  have HM0 := Lib.hid (MapF.made w)
  have HB0 := Lib.hid ((Below.refl w.heap.size w).alloc (Nat.le_refl _) (.map #[] 0))
  have hmm := @run_makeMap Tryz.prog
  go_enter Tryz.func23, Tryz.ntmps23
  go_wp2_with fail
  clear hmm
  go_loopw [9] (fun i wr => ∃ k : Nat, k ≤ l.length ∧ i = .int .i64 k ∧ Hid (MapF wr w.heap.size k ((l.take k).foldl putF [])) ∧ Hid (Below w.heap.size w wr)) (fun i _ => l.length - (intOf i).toNat)
  case atStart => exact ⟨0, Nat.zero_le _, rfl, HM0, HB0⟩
  case round =>
    clear HM0 HB0
    obtain ⟨k, hk, rfl, HN, HB⟩ := hrel
    have hbs := HB.out.size
    by_cases hlt : k < l.length
    · obtain ⟨g, o, rfl, hg, hcell1, hcell2⟩ := hat k hlt
      have hc1' : wr.cell? ⟨g, o + k * 2, none⟩ = some (.string ⟨(l[k]).1.toArray⟩) := by rw [HB.out.cell (p := ⟨g, o + k * 2, none⟩) hg]; exact hcell1
      have hc2' : wr.cell? ⟨g, o + k * 2 + 1, none⟩ = some (.string ⟨(l[k]).2.toArray⟩) := by rw [HB.out.cell (p := ⟨g, o + k * 2 + 1, none⟩) hg]; exact hcell2
      have HXL := Lib.hid (hx l[k] (List.getElem_mem hlt))
      have HT := Lib.hid (fold_next hlt [])
      generalize (l.take k).foldl putF [] = acc at HN HT
      clear hcell1 hcell2 hat hx
      generalize l[k].1 = x at hc1' HT HXL
      generalize l[k].2 = y at hc2' HT HXL
      have HBA := Lib.hid (HB.out.alloc hbs (.cells #[.string ⟨x.toArray⟩, .string ⟨y.toArray⟩] 44))
      have HNA := Lib.hid (HN.out.alloc (.cells #[.string ⟨x.toArray⟩, .string ⟨y.toArray⟩] 44))
      go_wp2_with (at_mapUpdate; refine wpPutF _ rfl _ _ _ rfl w.heap.size k acc rfl HNA.out (by omega) x y rfl rfl HXL.out.1 HXL.out.2 ?_; intro w2 hm2 hg2; have HN2 := Lib.hid hm2; have HB2 := Lib.hid (HBA.out.grown hg2 HBA.out.size (fun j hj => by cases hj; exact Nat.le_refl _)); clear hm2 hg2)
      rw [← HT.out] at HN2
      go_roundw
      case rel => exact ⟨k + 1, by omega, by go_num, HN2, HB2⟩
      case measure => simp [intOf]; omega
    · obtain rfl : k = l.length := by omega
      have HN1 : Hid (MapF wr w.heap.size l.length (l.foldl putF [])) := by
        have := HN.out
        rw [List.take_of_length_le (Nat.le_refl _)] at this
        exact this
      clear HN hat hx
      go_wp2_with fail
      go_ret
      exact ⟨rfl, HN1.out, HB.out⟩

set_option maxHeartbeats 1000000 in
theorem clone_any (s : List UInt8) (w : World) (hs : s.length ≤ 1000) : Calls Tryz.prog 56 #[.string ⟨s.toArray⟩] w fun e w' => e = .returned (.string ⟨s.toArray⟩) ∧ Below w.heap.size w w' := by
  have HC := Lib.hid (Tryz.stringslite_Clone ⟨s.toArray⟩ w (by simp [ByteArray.size]; omega))
  clear hs
  go_enter Tryz.func56, Tryz.ntmps56
  go_wp2_with fail
  refine HC.out.mono ?_
  rintro e w1 ⟨rfl, hb1⟩
  go_wp2_with fail
  go_ret
  exact ⟨rfl, hb1⟩

theorem bodyF_len {l : List FileT} (hx : ∀ f ∈ l, f.2.length ≤ 1000) (n : List UInt8) : (bodyF l n).length ≤ 1000 := by
  unfold bodyF
  split
  · rename_i f hf
    exact hx f (List.mem_of_find?_eq_some hf)
  · simp

end Go.Proofs.YtgcaplbeahjbmaaGreatDoor

/- Walks: whether files are the same, as the drawn laws ask it. -/
namespace Go.Proofs.YtgcaplbeahjbmaaGreatDoor
open Go.RowKit Pth

end Go.Proofs.YtgcaplbeahjbmaaGreatDoor

/- Walks: the laws' helpers on stores: their size, copies of them, whether they are the same. -/
namespace Go.Proofs.YtgcaplbeahjbmaaGreatDoor
open Go.RowKit Pth

def SizedS (s : StoreT) (n : Nat) : Prop := s.files.length + s.staged.length + s.gone.length ≤ n ∧ (∀ f ∈ s.files, f.1.length ≤ n ∧ f.2.length ≤ n) ∧ (∀ f ∈ s.staged, f.1.length ≤ n ∧ f.2.length ≤ n) ∧ ∀ x ∈ s.gone, x.length ≤ n

set_option maxRecDepth 20000 in
set_option maxHeartbeats 2000000 in
theorem szStore_any (s : StoreT) (left : Nat) (v : Value) (w : World) (hst : StoreV w v s) (hx : Fits s) (hl : left ≤ 2000000) :
    Calls Tryz.prog 5 #[v, .int .i64 (left : Int)] w fun e w' => ∃ r : Int, e = .returned (.int .i64 r) ∧ (0 ≤ r → SizedS s left) ∧ Below w.heap.size w w' := by
  obtain ⟨vf, vs, vg, rfl, h1, h2, h3⟩ := hst
  have H1 := Lib.hid h1
  have H2 := Lib.hid h2
  have H3 := Lib.hid h3
  obtain ⟨af, cf, rfl, hf1, hf2, _⟩ := h1.files
  obtain ⟨a2, cs, rfl, hs1, hs2, _⟩ := h2.files
  obtain ⟨ag, cg, rfl, hg1, hg2, _⟩ := h3.texts
  clear h1 h2 h3
  obtain ⟨hx1, hx2, hx3⟩ := hx
  have HX1 := Lib.hid hx1
  have HX2 := Lib.hid hx2
  have HX3 := Lib.hid hx3
  clear hx1 hx2 hx3
  unfold maxLen at hf2 hs2 hg2
  obtain ⟨wa, hwa⟩ : ∃ wa, wa = w.alloc (.cells #[.slice af s.files.length cf, .slice a2 s.staged.length cs, .slice ag s.gone.length cg] 25) := ⟨_, rfl⟩
  have c1 : wa.cell? ⟨w.heap.size, 1, none⟩ = some (.slice a2 s.staged.length cs) := by rw [hwa]; simp
  have c2 : wa.cell? ⟨w.heap.size, 2, none⟩ = some (.slice ag s.gone.length cg) := by rw [hwa]; simp
  have HA : Hid (Below w.heap.size w wa) := by rw [hwa]; exact (Below.refl w.heap.size w).alloc (Nat.le_refl _) _
  have hsz : wa.heap.size = w.heap.size + 1 := by rw [hwa]; simp
  have HWA := Lib.hid hwa
  clear hwa
  go_enter Tryz.func5, Tryz.ntmps5
  go_wp2_with fail
  rw [← HWA.out]
  refine (szFileS_any s.files left _ wa (H1.out.below HA.out) HX1.out hl).mono ?_
  rintro e w1 ⟨r1, rfl, hr1, hb1⟩
  have HB1 := Lib.hid hb1
  have HR1 := Lib.hid hr1
  clear hb1 hr1
  have d1 : w1.cell? ⟨w.heap.size, 1, none⟩ = some (.slice a2 s.staged.length cs) := (HB1.out.cell (p := ⟨w.heap.size, 1, none⟩) (by show w.heap.size < wa.heap.size; omega)).trans c1
  have d2 : w1.cell? ⟨w.heap.size, 2, none⟩ = some (.slice ag s.gone.length cg) := (HB1.out.cell (p := ⟨w.heap.size, 2, none⟩) (by show w.heap.size < wa.heap.size; omega)).trans c2
  by_cases p1 : 0 ≤ r1
  · obtain ⟨n1, rfl⟩ : ∃ n : Nat, r1 = n := ⟨r1.toNat, by omega⟩
    obtain ⟨q1, Q1⟩ := HR1.out p1
    have HQ1 := Lib.hid Q1
    have t1 : decide ((n1 : Int) < 0) = false := decide_eq_false (by omega)
    clear Q1 HR1
    go_wp2_with fail
    refine (szFileS_any s.staged n1 _ w1 (H2.out.below (HA.out.trans (HB1.out.mono HA.out.size))) HX2.out (by omega)).mono ?_
    rintro e w2 ⟨r2, rfl, hr2, hb2⟩
    have HB2 := Lib.hid (HB1.out.trans (hb2.mono HB1.out.size))
    have HR2 := Lib.hid hr2
    have f2 : w2.cell? ⟨w.heap.size, 2, none⟩ = some (.slice ag s.gone.length cg) := (HB2.out.cell (p := ⟨w.heap.size, 2, none⟩) (by show w.heap.size < wa.heap.size; omega)).trans c2
    clear hb2 hr2
    by_cases p2 : 0 ≤ r2
    · obtain ⟨n2, rfl⟩ : ∃ n : Nat, r2 = n := ⟨r2.toNat, by omega⟩
      obtain ⟨q2, Q2⟩ := HR2.out p2
      have HQ2 := Lib.hid Q2
      have t2 : decide ((n2 : Int) < 0) = false := decide_eq_false (by omega)
      clear Q2 HR2
      go_wp2_with fail
      refine (szStringS_any s.gone n2 _ w2 (H3.out.below (HA.out.trans (HB2.out.mono HA.out.size))) HX3.out (by omega)).mono ?_
      rintro e w3 ⟨r3, rfl, hr3, rfl⟩
      have HR3 := Lib.hid hr3
      clear hr3
      by_cases p3 : 0 ≤ r3
      · have t3 : decide (r3 < 0) = false := decide_eq_false (by omega)
        go_wp2_with fail
        go_ret
        refine ⟨r3, rfl, fun _ => ⟨?_, HQ1.out, fun f hf => ?_, fun x hx => ?_⟩, HA.out.trans (HB2.out.mono HA.out.size)⟩
        · have := (HR3.out p3).1; omega
        · have := HQ2.out f hf; omega
        · have := (HR3.out p3).2 x hx; omega
      · have t3 : decide (r3 < 0) = true := decide_eq_true (by omega)
        go_wp2_with fail
        go_ret
        exact ⟨-1, rfl, fun h => by omega, HA.out.trans (HB2.out.mono HA.out.size)⟩
    · have t2 : decide (r2 < 0) = true := decide_eq_true (by omega)
      go_wp2_with fail
      go_ret
      exact ⟨-1, rfl, fun h => by omega, HA.out.trans (HB2.out.mono HA.out.size)⟩
  · have t1 : decide (r1 < 0) = true := decide_eq_true (by omega)
    go_wp2_with fail
    go_ret
    exact ⟨-1, rfl, fun h => by omega, HA.out.trans (HB1.out.mono HA.out.size)⟩

end Go.Proofs.YtgcaplbeahjbmaaGreatDoor

/- Walks: the laws' copies of stores, and whether they are the same. -/
namespace Go.Proofs.YtgcaplbeahjbmaaGreatDoor
open Go.RowKit Pth

/-- A store whose three lists are memory of the call's own, no two of them the same. -/
def StoreO (B : Nat) (w : World) (v : Value) (s : StoreT) : Prop := ∃ vf vs vg, v = .agg #[vf, vs, vg] ∧ w.ownsRow B 44 2 vf s.files.length (FC s.files) ∧ w.ownsRow B 44 2 vs s.staged.length (FC s.staged) ∧ w.ownsRow B 9 1 vg s.gone.length (S s.gone) ∧ ∀ k, vf.ownBlock = some k → vs.ownBlock ≠ some k
theorem StoreO.view {B : Nat} {w : World} {v : Value} {s : StoreT} (h : StoreO B w v s) : StoreV w v s := by
  obtain ⟨vf, vs, vg, hv, h1, h2, h3, _⟩ := h
  exact ⟨vf, vs, vg, hv, RowF.of_own h1, RowF.of_own h2, RowV.of_own h3⟩
theorem StoreO.below {B : Nat} {w w' : World} {v : Value} {s : StoreT} (h : StoreO B w v s) (hb : Below w.heap.size w w') : StoreO B w' v s := by
  obtain ⟨vf, vs, vg, hv, h1, h2, h3, h4⟩ := h
  exact ⟨vf, vs, vg, hv, own_belowG h1 hb, own_belowG h2 hb, own_belowG h3 hb, h4⟩
theorem StoreO.base {B B' : Nat} {w : World} {v : Value} {s : StoreT} (h : StoreO B w v s) (hB : B' ≤ B) : StoreO B' w v s := by
  obtain ⟨vf, vs, vg, hv, h1, h2, h3, h4⟩ := h
  exact ⟨vf, vs, vg, hv, own_baseG h1 hB, own_baseG h2 hB, own_baseG h3 hB, h4⟩
/-- Lists of other types lie in other blocks. -/
theorem own_types {w : World} {B B' e e' n n' z z' : Nat} {v v' : Value} {xs xs' : List Value} (h : w.ownsRow B e z v n xs) (h' : w.ownsRow B' e' z' v' n' xs') (hne : e ≠ e') : ∀ k, v.ownBlock = some k → v'.ownBlock ≠ some k := by
  intro k hk hk'
  rcases h.2 with ⟨hv, _⟩ | ⟨g, cap, cur, hv, _, hg, _⟩
  · rw [hv] at hk; simp [Value.ownBlock] at hk
  · rcases h'.2 with ⟨hv', _⟩ | ⟨g', cap', cur', hv', _, hg', _⟩
    · rw [hv'] at hk'; simp [Value.ownBlock] at hk'
    · rw [hv] at hk; rw [hv'] at hk'
      simp only [Value.ownBlock, Option.some.injEq] at hk hk'
      subst hk
      subst hk'
      rw [hg] at hg'
      simp at hg'
      exact hne hg'.2

/-- A block of three cells. -/
def Blk3 (w : World) (b t : Nat) (x y z : Value) : Prop := w.heap[b]? = some (.cells #[x, y, z] t (0, 0))
theorem Blk3.cells {w : World} {b t : Nat} {x y z : Value} (h : Blk3 w b t x y z) : w.cell? ⟨b, 0, none⟩ = some x ∧ w.cell? ⟨b, 1, none⟩ = some y ∧ w.cell? ⟨b, 2, none⟩ = some z := by
  refine ⟨?_, ?_, ?_⟩ <;> rw [cell_of_row w b _ _ t (0, 0) h] <;> rfl
theorem Blk3.soft {w : World} {b t : Nat} {x y z : Value} (h : Blk3 w b t x y z) (j : Nat) : w.frozen? ⟨b, j, none⟩ = false := frozen_of_row w b j _ t h
theorem Blk3.set0 {w : World} {b t : Nat} {x y z : Value} (h : Blk3 w b t x y z) (u : Value) : Blk3 (w.setCell ⟨b, 0, none⟩ u) b t u y z := heap_setCell_same w b 0 _ t u h
theorem Blk3.set1 {w : World} {b t : Nat} {x y z : Value} (h : Blk3 w b t x y z) (u : Value) : Blk3 (w.setCell ⟨b, 1, none⟩ u) b t x u z := heap_setCell_same w b 1 _ t u h
theorem Blk3.set2 {w : World} {b t : Nat} {x y z : Value} (h : Blk3 w b t x y z) (u : Value) : Blk3 (w.setCell ⟨b, 2, none⟩ u) b t x y u := heap_setCell_same w b 2 _ t u h
theorem Blk3.below {w w' : World} {B b t : Nat} {x y z : Value} (h : Blk3 w b t x y z) (hb : Below B w w') (hlt : b < B) : Blk3 w' b t x y z := (hb.block b hlt).trans h
theorem Blk3.new {w : World} {t : Nat} {x y z : Value} : Blk3 (w.alloc (.cells #[x, y, z] t)) w.heap.size t x y z := heap_alloc_new w _
theorem Blk3.old {w : World} {b t : Nat} {x y z : Value} (h : Blk3 w b t x y z) (o : Obj) : Blk3 (w.alloc o) b t x y z := (Below.heap_alloc w o b (lt_of_block h)).trans h
theorem own_set {w : World} {B e n z : Nat} {v : Value} {xs : List Value} (h : w.ownsRow B e z v n xs) {p : Addr} (hp : p.block < B) (u : Value) : (w.setCell p u).ownsRow B e z v n xs := by
  refine ⟨h.1, ?_⟩
  rcases h.2 with h0 | ⟨g, cap, cur, hv, hg, hh, r⟩
  · exact .inl h0
  · exact .inr ⟨g, cap, cur, hv, hg, (Below.heap_setCell w p u g (by omega)).trans hh, r⟩
/-- A list made later lies in another block. -/
theorem own_later {w w' : World} {B B' e e' n n' z z' : Nat} {v v' : Value} {xs xs' : List Value} (h : w.ownsRow B e z v n xs) (h' : w'.ownsRow B' e' z' v' n' xs') (hs : w.heap.size ≤ B') : ∀ k, v.ownBlock = some k → v'.ownBlock ≠ some k := by
  intro k hk hk'
  have h1 := (h.lt k hk).2
  have h2 := (h'.lt k hk').1
  omega

set_option maxRecDepth 20000 in
set_option maxHeartbeats 2000000 in
theorem toStore_any (s : StoreT) (v : Value) (w : World) (hst : StoreV w v s) (hl1 : s.files.length ≤ 2000000) (hl2 : s.staged.length ≤ 2000000) (hl3 : s.gone.length ≤ 2000000) :
    Calls Tryz.prog 7 #[v] w fun e w' => ∃ v', e = .returned v' ∧ StoreO w.heap.size w' v' s ∧ Below w.heap.size w w' := by
  obtain ⟨vf, vs, vg, rfl, h1, h2, h3⟩ := hst
  have H1 := Lib.hid h1
  have H2 := Lib.hid h2
  have H3 := Lib.hid h3
  obtain ⟨af, cf, rfl, hf1, hf2, _⟩ := h1.files
  obtain ⟨a2, cs, rfl, hs1, hs2, _⟩ := h2.files
  obtain ⟨ag, cg, rfl, hg1, hg2, _⟩ := h3.texts
  clear h1 h2 h3
  unfold maxLen at hf2 hs2 hg2
  obtain ⟨wa, hwa⟩ : ∃ wa, wa = ((w.alloc (.cells #[.slice af s.files.length cf, .slice a2 s.staged.length cs, .slice ag s.gone.length cg] 25)).alloc (.cells #[.slice none 0 0, .slice none 0 0, .slice none 0 0] 29)).alloc (.cells #[.slice none 0 0, .slice none 0 0, .slice none 0 0] 29) := ⟨_, rfl⟩
  have hsz : wa.heap.size = w.heap.size + 3 := by rw [hwa]; simp
  have P0 : Hid (Blk3 wa w.heap.size 25 (.slice af s.files.length cf) (.slice a2 s.staged.length cs) (.slice ag s.gone.length cg)) := by rw [hwa]; exact (Blk3.new.old _).old _
  have O0 : Hid (Blk3 wa (w.heap.size + 1 + 1) 29 (.slice none 0 0) (.slice none 0 0) (.slice none 0 0)) := by
    rw [hwa]
    have := Blk3.new (w := (w.alloc (.cells #[.slice af s.files.length cf, .slice a2 s.staged.length cs, .slice ag s.gone.length cg] 25)).alloc (.cells #[.slice none 0 0, .slice none 0 0, .slice none 0 0] 29)) (t := 29) (x := .slice none 0 0) (y := .slice none 0 0) (z := .slice none 0 0)
    simpa [Hid] using this
  have R0 : Hid (Blk3 wa (w.heap.size + 1) 29 (.slice none 0 0) (.slice none 0 0) (.slice none 0 0)) := by
    rw [hwa]
    have := Blk3.new (w := w.alloc (.cells #[.slice af s.files.length cf, .slice a2 s.staged.length cs, .slice ag s.gone.length cg] 25)) (t := 29) (x := .slice none 0 0) (y := .slice none 0 0) (z := .slice none 0 0)
    rw [show (w.alloc (.cells #[.slice af s.files.length cf, .slice a2 s.staged.length cs, .slice ag s.gone.length cg] 25)).heap.size = w.heap.size + 1 by simp] at this
    exact this.old _
  have HA : Hid (Below w.heap.size w wa) := by rw [hwa]; exact (((Below.refl w.heap.size w).alloc (Nat.le_refl _) _).alloc (by simp) _).alloc (by simp; omega) _
  have HWA := Lib.hid hwa
  clear hwa
  go_enter Tryz.func7, Tryz.ntmps7
  go_wp2_with fail
  rw [← HWA.out]
  refine (toFileS_any s.files _ wa (H1.out.below HA.out) hl1).mono ?_
  rintro e w1 ⟨v1, rfl, hn1, hb1⟩
  obtain ⟨b1, d1, rfl⟩ := own_sliceG hn1
  have HN1 := Lib.hid (own_set hn1 (p := ⟨w.heap.size + 1 + 1, 0, none⟩) (by show w.heap.size + 1 + 1 < _; omega) (.slice b1 s.files.length d1))
  have P1 := P0.out.below hb1 (by omega)
  have O1 := O0.out.below hb1 (by omega)
  have HA1 := Lib.hid (HA.out.trans (hb1.mono HA.out.size))
  have HX1 := Lib.hid (HA1.out.setCell (p := ⟨w.heap.size + 1 + 1, 0, none⟩) (by show w.heap.size ≤ w.heap.size + 1 + 1; omega) (.slice b1 s.files.length d1))
  have o0 := O1.cells.1
  have f0 := O1.soft 0
  have hs1 : wa.heap.size ≤ (w1.setCell ⟨w.heap.size + 1 + 1, 0, none⟩ (.slice b1 s.files.length d1)).heap.size := by have := hb1.size; simp; omega
  have P2 := Lib.hid (show Blk3 (w1.setCell ⟨w.heap.size + 1 + 1, 0, none⟩ (.slice b1 s.files.length d1)) w.heap.size _ _ _ _ from (Below.heap_setCell w1 ⟨w.heap.size + 1 + 1, 0, none⟩ (.slice b1 s.files.length d1) w.heap.size (by show w.heap.size ≠ w.heap.size + 1 + 1; omega)).trans P1)
  have O2 := Lib.hid (O1.set0 (.slice b1 s.files.length d1))
  have p1 := P2.out.cells.2.1
  have R2 := Lib.hid (show Blk3 (w1.setCell ⟨w.heap.size + 1 + 1, 0, none⟩ (.slice b1 s.files.length d1)) (w.heap.size + 1) _ _ _ _ from (Below.heap_setCell w1 ⟨w.heap.size + 1 + 1, 0, none⟩ (.slice b1 s.files.length d1) (w.heap.size + 1) (by show w.heap.size + 1 ≠ w.heap.size + 1 + 1; omega)).trans (R0.out.below hb1 (by omega)))
  clear hn1 hb1 P1 O1
  go_wp2_with fail
  clear o0 f0
  generalize w1.setCell ⟨w.heap.size + 1 + 1, 0, none⟩ (.slice b1 s.files.length d1) = x1 at *
  refine (toFileS_any s.staged _ x1 (H2.out.below HX1.out) hl2).mono ?_
  rintro e w2 ⟨v2, rfl, hn2, hb2⟩
  obtain ⟨b2, d2, rfl⟩ := own_sliceG hn2
  have HD2 := Lib.hid (own_later HN1.out hn2 (Nat.le_refl _))
  have HN2 := Lib.hid (own_set hn2 (p := ⟨w.heap.size + 1 + 1, 1, none⟩) (by show w.heap.size + 1 + 1 < _; omega) (.slice b2 s.staged.length d2))
  have HM2 := Lib.hid (own_set (own_belowG HN1.out hb2) (p := ⟨w.heap.size + 1 + 1, 1, none⟩) (by show w.heap.size + 1 + 1 < _; omega) (.slice b2 s.staged.length d2))
  have P3 := P2.out.below hb2 (by omega)
  have O3 := O2.out.below hb2 (by omega)
  have HA2 := Lib.hid (HX1.out.trans (hb2.mono HX1.out.size))
  have HX2 := Lib.hid (HA2.out.setCell (p := ⟨w.heap.size + 1 + 1, 1, none⟩) (by show w.heap.size ≤ w.heap.size + 1 + 1; omega) (.slice b2 s.staged.length d2))
  have o1 := O3.cells.2.1
  have f1 := O3.soft 1
  have hs2 : x1.heap.size ≤ (w2.setCell ⟨w.heap.size + 1 + 1, 1, none⟩ (.slice b2 s.staged.length d2)).heap.size := by have := hb2.size; simp; omega
  have P4 := Lib.hid (show Blk3 (w2.setCell ⟨w.heap.size + 1 + 1, 1, none⟩ (.slice b2 s.staged.length d2)) w.heap.size _ _ _ _ from (Below.heap_setCell w2 ⟨w.heap.size + 1 + 1, 1, none⟩ (.slice b2 s.staged.length d2) w.heap.size (by show w.heap.size ≠ w.heap.size + 1 + 1; omega)).trans P3)
  have O4 := Lib.hid (O3.set1 (.slice b2 s.staged.length d2))
  have p2 := P4.out.cells.2.2
  have R4 := Lib.hid (show Blk3 (w2.setCell ⟨w.heap.size + 1 + 1, 1, none⟩ (.slice b2 s.staged.length d2)) (w.heap.size + 1) _ _ _ _ from (Below.heap_setCell w2 ⟨w.heap.size + 1 + 1, 1, none⟩ (.slice b2 s.staged.length d2) (w.heap.size + 1) (by show w.heap.size + 1 ≠ w.heap.size + 1 + 1; omega)).trans (R2.out.below hb2 (by omega)))
  clear hn2 hb2 P3 O3 p1
  go_wp2_with fail
  clear o1 f1
  generalize w2.setCell ⟨w.heap.size + 1 + 1, 1, none⟩ (.slice b2 s.staged.length d2) = x2 at *
  refine (toStringS_any s.gone _ x2 (H3.out.below HX2.out) hl3).mono ?_
  rintro e w3 ⟨v3, rfl, hn3, hb3⟩
  obtain ⟨b3, d3, rfl⟩ := own_sliceG hn3
  have HN3 := Lib.hid (own_set hn3 (p := ⟨w.heap.size + 1 + 1, 2, none⟩) (by show w.heap.size + 1 + 1 < _; omega) (.slice b3 s.gone.length d3))
  have HM3 := Lib.hid (own_set (own_belowG HM2.out hb3) (p := ⟨w.heap.size + 1 + 1, 2, none⟩) (by show w.heap.size + 1 + 1 < _; omega) (.slice b3 s.gone.length d3))
  have HM4 := Lib.hid (own_set (own_belowG HN2.out hb3) (p := ⟨w.heap.size + 1 + 1, 2, none⟩) (by show w.heap.size + 1 + 1 < _; omega) (.slice b3 s.gone.length d3))
  have O5 := O4.out.below hb3 (by omega)
  have HA3 := Lib.hid (HX2.out.trans (hb3.mono HX2.out.size))
  have HX3 := Lib.hid (HA3.out.setCell (p := ⟨w.heap.size + 1 + 1, 2, none⟩) (by show w.heap.size ≤ w.heap.size + 1 + 1; omega) (.slice b3 s.gone.length d3))
  have o2 := O5.cells.2.2
  have f2 := O5.soft 2
  have O6 := Lib.hid (O5.set2 (.slice b3 s.gone.length d3))
  have r0 := O6.out.cells.1
  have r1 := O6.out.cells.2.1
  have r2 := O6.out.cells.2.2
  have R6 := Lib.hid (show Blk3 (w3.setCell ⟨w.heap.size + 1 + 1, 2, none⟩ (.slice b3 s.gone.length d3)) (w.heap.size + 1) _ _ _ _ from (Below.heap_setCell w3 ⟨w.heap.size + 1 + 1, 2, none⟩ (.slice b3 s.gone.length d3) (w.heap.size + 1) (by show w.heap.size + 1 ≠ w.heap.size + 1 + 1; omega)).trans (R4.out.below hb3 (by omega)))
  obtain ⟨k0, k1, k2⟩ := R6.out.cells
  have z0 := R6.out.soft 0
  have z1 := R6.out.soft 1
  have z2 := R6.out.soft 2
  clear hn3 hb3 O5 p2
  go_wp2_with fail
  have Z := ((R6.out.set0 (.slice b1 s.files.length d1)).set1 (.slice b2 s.staged.length d2)).set2 (.slice b3 s.gone.length d3)
  refine bodyPost_ret (results_cell rfl rfl (load_store Z.cells.1 Z.cells.2.1 Z.cells.2.2)) rfl ?_
  have e1 : w.heap.size ≤ wa.heap.size := by omega
  have e2 : w.heap.size ≤ x1.heap.size := by omega
  have e3 : w.heap.size ≤ x2.heap.size := by omega
  have q1 : w.heap.size + 1 < wa.heap.size := by omega
  have q2 : w.heap.size + 1 < x1.heap.size := by omega
  have q3 : w.heap.size + 1 < x2.heap.size := by omega
  refine ⟨_, rfl, ⟨_, _, _, rfl, own_baseG (own_set (own_set (own_set HM3.out (p := ⟨w.heap.size + 1, 0, none⟩) q1 _) (p := ⟨w.heap.size + 1, 1, none⟩) q1 _) (p := ⟨w.heap.size + 1, 2, none⟩) q1 _) e1, own_baseG (own_set (own_set (own_set HM4.out (p := ⟨w.heap.size + 1, 0, none⟩) q2 _) (p := ⟨w.heap.size + 1, 1, none⟩) q2 _) (p := ⟨w.heap.size + 1, 2, none⟩) q2 _) e2, own_baseG (own_set (own_set (own_set HN3.out (p := ⟨w.heap.size + 1, 0, none⟩) q3 _) (p := ⟨w.heap.size + 1, 1, none⟩) q3 _) (p := ⟨w.heap.size + 1, 2, none⟩) q3 _) e3, HD2.out⟩, ?_⟩
  exact ((HX3.out.setCell (p := ⟨w.heap.size + 1, 0, none⟩) (Nat.le_succ _) _).setCell (p := ⟨w.heap.size + 1, 1, none⟩) (Nat.le_succ _) _).setCell (p := ⟨w.heap.size + 1, 2, none⟩) (Nat.le_succ _) _

end Go.Proofs.YtgcaplbeahjbmaaGreatDoor

/- Walks: the program's files as they would be taken. -/
namespace Go.Proofs.YtgcaplbeahjbmaaGreatDoor
open Go.RowKit Go.Maps Pth

/-- A map of files is handed back, in a new block. -/
def MapNew (l : List FileT) (w : World) (e : Ending) (w' : World) : Prop := ∃ b n, e = .returned (.map (some b)) ∧ w.heap.size ≤ b ∧ n ≤ 5000 ∧ MapF w' b n l ∧ Below w.heap.size w w'

set_option maxRecDepth 20000 in
set_option maxHeartbeats 4000000 in
theorem bodiesTaken_any (s : StoreT) (v : Value) (w : World) (hst : StoreV w v s) (hx : Fits s) (hr : RiseF s.files) (hl1 : s.files.length ≤ 1000) (hl2 : s.staged.length ≤ 1000) :
    Calls Tryz.prog 43 #[v] w (MapNew (takenF s) w) := by
  obtain ⟨vf, vs, vg, rfl, h1, h2, h3⟩ := hst
  have H1 := Lib.hid h1
  obtain ⟨af, cf, rfl, hf1, hf2, _⟩ := h1.files
  obtain ⟨a2, cs, rfl, hs1, hs2, hat2⟩ := h2.files
  obtain ⟨ag, cg, rfl, hg1, hg2, hat3⟩ := h3.texts
  clear h1 h2 h3
  unfold maxLen at hf2 hs2 hg2
  obtain ⟨hx1, hx2, hx3⟩ := hx
  have HX2 := Lib.hid hx2
  have HX3 := Lib.hid hx3
  obtain ⟨wa, hwa⟩ : ∃ wa, wa = w.alloc (.cells #[.slice af s.files.length cf, .slice a2 s.staged.length cs, .slice ag s.gone.length cg] 29) := ⟨_, rfl⟩
  have hsz : wa.heap.size = w.heap.size + 1 := by rw [hwa]; simp
  have P0 : Hid (Blk3 wa w.heap.size 29 (.slice af s.files.length cf) (.slice a2 s.staged.length cs) (.slice ag s.gone.length cg)) := by rw [hwa]; exact Blk3.new
  have HA : Hid (Below w.heap.size w wa) := by rw [hwa]; exact (Below.refl w.heap.size w).alloc (Nat.le_refl _) _
  have HF := Lib.hid (bodiesOf_any s.files (.slice af s.files.length cf) wa (H1.out.below HA.out) hx1 hl1)
  have e0 : s.files.foldl putF [] = s.files := by
    have := fill_is hr s.files.length
    rwa [List.take_of_length_le (Nat.le_refl _)] at this
  rw [e0] at HF
  have HT : Hid (takenF s = s.gone.foldl dropF (s.staged.foldl putF s.files)) := rfl
  rw [HT.out]
  clear HT hx1 hx2 hx3 e0 hr
  obtain ⟨c0, c1, c2⟩ := P0.out.cells
  have HWA := Lib.hid hwa
  clear hwa
  go_enter Tryz.func43, Tryz.ntmps43
  go_wp2_with fail
  rw [← HWA.out]
  refine HF.out.mono ?_
  rintro e w1 ⟨rfl, hm1, hb1⟩
  have HM1 := Lib.hid hm1
  have HB1 := Lib.hid (HA.out.trans (hb1.mono HA.out.size))
  have hlt0 : w.heap.size < wa.heap.size := by omega
  have P1 := Lib.hid (P0.out.below hb1 hlt0)
  obtain ⟨d0, d1, d2⟩ := P1.out.cells
  clear hm1 hb1 HF P0 HWA c0 c1 c2
  generalize hbm : wa.heap.size = bm at HM1
  have hbm1 : w.heap.size < bm := by omega
  clear HA hsz hlt0 hbm
  go_wp2_with fail
  go_loopw [14] (fun i wr => ∃ k : Nat, k ≤ s.staged.length ∧ i = .int .i64 k ∧ Hid (MapF wr bm (s.files.length + k) ((s.staged.take k).foldl putF s.files)) ∧ Hid (Below w.heap.size w wr) ∧ Hid (Blk3 wr w.heap.size 29 (.slice af s.files.length cf) (.slice a2 s.staged.length cs) (.slice ag s.gone.length cg))) (fun i _ => s.staged.length - (intOf i).toNat)
  case atStart => exact ⟨0, Nat.zero_le _, rfl, HM1, HB1, P1⟩
  case round =>
    clear HM1 HB1 P1 d0 d1 d2
    obtain ⟨k, hk, rfl, HN, HB, HP⟩ := hrel
    have hbs := HB.out.size
    by_cases hlt : k < s.staged.length
    · obtain ⟨g, o, rfl, hg, hcell1, hcell2⟩ := hat2 k hlt
      have hc1' : wr.cell? ⟨g, o + k * 2, none⟩ = some (.string ⟨(s.staged[k]).1.toArray⟩) := by rw [HB.out.cell (p := ⟨g, o + k * 2, none⟩) hg]; exact hcell1
      have hc2' : wr.cell? ⟨g, o + k * 2 + 1, none⟩ = some (.string ⟨(s.staged[k]).2.toArray⟩) := by rw [HB.out.cell (p := ⟨g, o + k * 2 + 1, none⟩) hg]; exact hcell2
      have HXL := Lib.hid (HX2.out s.staged[k] (List.getElem_mem hlt))
      have HT := Lib.hid (fold_next hlt s.files)
      generalize (s.staged.take k).foldl putF s.files = acc at HN HT
      clear hcell1 hcell2 hat2 hat3 HX2 HX3
      generalize s.staged[k].1 = x at hc1' HT HXL
      generalize s.staged[k].2 = y at hc2' HT HXL
      have HBA := Lib.hid (HB.out.alloc hbs (.cells #[.string ⟨x.toArray⟩, .string ⟨y.toArray⟩] 44))
      have HNA := Lib.hid (HN.out.alloc (.cells #[.string ⟨x.toArray⟩, .string ⟨y.toArray⟩] 44))
      have HPA := Lib.hid (HP.out.old (.cells #[.string ⟨x.toArray⟩, .string ⟨y.toArray⟩] 44))
      go_wp2_with (at_mapUpdate; refine wpPutF _ rfl _ _ _ rfl bm (s.files.length + k) acc rfl HNA.out (by omega) x y rfl rfl HXL.out.1 HXL.out.2 ?_; intro w2 hm2 hg2; have HN2 := Lib.hid hm2; have HB2 := Lib.hid (HBA.out.grown hg2 HBA.out.size (fun j hj => by cases hj; omega)); have HP2 := Lib.hid ((hg2.block w.heap.size (lt_of_block HPA.out) (by simp; omega)).trans HPA.out); clear hm2 hg2)
      rw [← HT.out] at HN2
      go_roundw
      case rel => exact ⟨k + 1, by omega, by go_num, HN2, HB2, HP2⟩
      case measure => simp [intOf]; omega
    · obtain rfl : k = s.staged.length := by omega
      have HN1 : Hid (MapF wr bm (s.files.length + s.staged.length) (s.staged.foldl putF s.files)) := by
        have := HN.out
        rw [List.take_of_length_le (Nat.le_refl _)] at this
        exact this
      obtain ⟨d0, d1, d2⟩ := HP.out.cells
      clear HN hat2 HX2
      generalize hac : s.staged.foldl putF s.files = acc0 at HN1
      have HAC := Lib.hid hac
      clear hac
      go_wp2_with fail
      go_loopw [27] (fun i wr => ∃ k : Nat, k ≤ s.gone.length ∧ i = .int .i64 k ∧ Hid (MapF wr bm (s.files.length + s.staged.length) ((s.gone.take k).foldl dropF acc0)) ∧ Hid (Below w.heap.size w wr)) (fun i _ => s.gone.length - (intOf i).toNat)
      case atStart => exact ⟨0, Nat.zero_le _, rfl, HN1, HB⟩
      case round =>
        clear HN1 HB HP d0 d1 d2 hbs
        obtain ⟨k, hk, rfl, HN, HB⟩ := hrel
        have hbs := HB.out.size
        by_cases hlt : k < s.gone.length
        · obtain ⟨g, o, rfl, hg, hcell1⟩ := hat3 k hlt
          have hc1' : wr.cell? ⟨g, o + k, none⟩ = some (.string ⟨(s.gone[k]).toArray⟩) := by rw [HB.out.cell (p := ⟨g, o + k, none⟩) hg]; exact hcell1
          have HXL := Lib.hid (HX3.out s.gone[k] (List.getElem_mem hlt))
          have HT := Lib.hid (fold_nextN hlt acc0)
          generalize (s.gone.take k).foldl dropF acc0 = acc at HN HT
          clear hcell1 hat3 HX3
          generalize s.gone[k] = x at hc1' HT HXL
          go_wp2_with (at_delete; refine wpDelF _ rfl _ _ rfl bm (s.files.length + s.staged.length) acc rfl HN.out x rfl HXL.out ?_; intro w2 hm2 hg2; have HN2 := Lib.hid hm2; have HB2 := Lib.hid (HB.out.grown hg2 HB.out.size (fun j hj => by cases hj; omega)); clear hm2 hg2)
          rw [← HT.out] at HN2
          go_roundw
          case rel => exact ⟨k + 1, by omega, by go_num, HN2, HB2⟩
          case measure => simp [intOf]; omega
        · obtain rfl : k = s.gone.length := by omega
          have HN2 : Hid (MapF wr bm (s.files.length + s.staged.length) (s.gone.foldl dropF acc0)) := by
            have := HN.out
            rw [List.take_of_length_le (Nat.le_refl _)] at this
            exact this
          clear HN hat3 HX3
          go_wp2_with fail
          go_ret
          exact ⟨bm, s.files.length + s.staged.length, rfl, by omega, by omega, by rw [HAC.out]; exact HN2.out, HB.out⟩

end Go.Proofs.YtgcaplbeahjbmaaGreatDoor
