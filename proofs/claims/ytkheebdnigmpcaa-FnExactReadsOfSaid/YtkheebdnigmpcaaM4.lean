/- Texts of one claim, joined in their order. -/
import Derived.Test.YtkheebdnigmpcaaM3
import Derived.Test.YtkheebdnigmpcaaM2

/- Walks: what the program's recipes read; their texts. -/
namespace Go.Proofs.Ytkheebdnigmpcaa
open Go.RowKit Pth

theorem own_deeds {w : World} {B : Nat} {v : Value} {r : List OpT} (h : w.ownsRow B 66 1 v r.length (DC r)) : RowV w v (DC r) := RowV.of_own h
theorem known_all {r : List OpT} {ins : Int} (h : goodR r ins = true) : ∀ o ∈ r, knownB o = true := fun o ho => known_ok (List.all_eq_true.1 (goodR_iff.1 h).2.2.2 o ho)

set_option maxHeartbeats 1000000 in
theorem implReads_any (r : List OpT) (v : Value) (w : World) (hrow : RowO w v r) :
    Calls Try.prog 13 #[v] w (IntsOk (readsA r) (goodR r 10) w) := by
  have HC := Lib.hid (deedsOf_any r 10 v w hrow)
  clear hrow
  rcases hG : goodR r 10 with _ | _
  · rw [hG] at HC
    have HT : Hid (readsA r = []) := by rw [readsA, hG]; rfl
    clear hG
    go_enter Try.func13, Try.ntmps13
    go_wp2_with fail
    refine HC.out.mono ?_
    rintro e w1 ⟨v1, rfl, _, hb1⟩
    have HB1 := Lib.hid hb1
    clear hb1 HC
    go_wp2_with fail
    go_ret2
    exact ⟨_, rfl, by rw [HT.out]; exact none_ownI _ _ _, HB1.out⟩
  · rw [hG] at HC
    have HT : Hid (readsA r = readsL r) := by rw [readsA, hG]; rfl
    have h8 := (goodR_iff.1 hG).2.2.1
    have HK := Lib.hid (known_all hG)
    clear hG
    go_enter Try.func13, Try.ntmps13
    go_wp2_with fail
    refine HC.out.mono ?_
    rintro e w1 ⟨v1, rfl, hown1, hb1⟩
    have HC2 := Lib.hid (inputsRead_any r v1 w1 (own_deeds hown1) h8 HK.out)
    have HB1 := Lib.hid hb1
    clear hb1 HC hown1
    go_wp2_with fail
    refine HC2.out.mono ?_
    rintro e w2 ⟨v2, rfl, hown2, hb2⟩
    have HN2 := Lib.hid (own_base hown2 HB1.out.size)
    have HB2 := Lib.hid (HB1.out.trans (hb2.mono HB1.out.size))
    clear hown2 hb2 HC2
    go_wp2_with fail
    go_ret2
    exact ⟨_, rfl, by rw [HT.out]; exact HN2.out, HB2.out⟩

/-- The builder. -/
def BuildsT (B : Nat) (acc : List UInt8) (w : World) : Prop := Lib.IsBuilder 58 5 B B (Lib.byteCells acc) w
theorem builds_alloc {B : Nat} {acc : List UInt8} {w : World} (h : BuildsT B acc w) (o : Obj) : BuildsT B acc (w.alloc o) := by
  have one : ∀ p, Lib.BuilderAt 58 5 B B p (Lib.byteCells acc) w → Lib.BuilderAt 58 5 B B p (Lib.byteCells acc) (w.alloc o) := by
    rintro p ⟨hB, v, hb, hown, hne⟩
    exact ⟨hB, v, (Lib.alloc_old w o B (lt_of_block hb)).trans hb, hown.alloc _, hne⟩
  rcases h with h | h
  · exact .inl (one _ h)
  · exact .inr (one _ h)
theorem builds_fresh (w : World) : BuildsT w.heap.size [] (w.alloc (.cells #[.pointer none, .slice none 0 0] 58)) := Lib.fresh_isBuilder 58 5 w
def PutPost (B : Nat) (acc : List UInt8) (v : Value) (w : World) (e : Ending) (w' : World) : Prop := e = .returned v ∧ BuildsT B acc w' ∧ Below B w w' ∧ Kept B w w'
theorem put_byte {B : Nat} {acc : List UInt8} {w : World} (x : Int) (h0 : 0 ≤ x) (h1 : x ≤ 255) (h : BuildsT B acc w) (hB : B ≤ w.heap.size) (hl : acc.length ≤ 2000000) :
    Calls Try.prog 31 #[.pointer (some ⟨B, 0, none⟩), .int .u8 x] w (PutPost B (acc ++ [byteI x]) .nilIface w) := by
  refine (writeByte_any B B _ x w h (by rw [Lib.byteCells_length]; omega) hB).mono ?_
  rintro e w' ⟨rfl, hA, hb, hk⟩
  refine ⟨rfl, .inr ?_, hb, hk⟩
  rw [Lib.byteCells_append]
  have e : Lib.byteCells [byteI x] = [.int .u8 x] := by
    have := byteI_int h0 h1
    simp [Lib.byteCells, this]
  rw [e]
  exact hA
theorem put_text {B : Nat} {acc : List UInt8} {w : World} (p : List UInt8) (h : BuildsT B acc w) (hB : B ≤ w.heap.size) (hl : acc.length + p.length ≤ 3000000) :
    Calls Try.prog 32 #[.pointer (some ⟨B, 0, none⟩), .string ⟨p.toArray⟩] w (PutPost B (acc ++ p) (.tuple #[.int .i64 (p.length : Int), .nilIface]) w) := by
  have hz : (ByteArray.mk p.toArray).size = p.length := by simp [ByteArray.size]
  refine (writeString_any B B _ ⟨p.toArray⟩ w h (by rw [Lib.byteCells_length, hz]; omega) hB).mono ?_
  rintro e w' ⟨rfl, hA, hb, hk⟩
  refine ⟨by rw [hz], .inr ?_, hb, hk⟩
  rw [Lib.byteCells_append]
  exact hA
theorem implGood_b {r : List OpT} {ins : Int} {b : Bool} (h : goodR r ins = b) (v : Value) (w : World) (hrow : RowO w v r) : Calls Try.prog 10 #[v, .int .i64 ins] w (BPost b w) := by
  have := implGood_any r ins v w hrow; rwa [h] at this
/-- The op's block. -/
def OpBlk (c : Nat) (o : OpT) (w : World) : Prop := w.heap[c]? = some (.cells #[.int .i64 o.1, .int .i64 o.2.1, .string ⟨o.2.2.toArray⟩] 45 (0, 0))
theorem OpBlk.cells {c : Nat} {o : OpT} {w : World} (h : OpBlk c o w) : w.cell? ⟨c, 0, none⟩ = some (.int .i64 o.1) ∧ w.cell? ⟨c, 1, none⟩ = some (.int .i64 o.2.1) ∧ w.cell? ⟨c, 2, none⟩ = some (.string ⟨o.2.2.toArray⟩) := by
  unfold OpBlk at h
  exact ⟨by rw [Lib.cell_of_heap h]; rfl, by rw [Lib.cell_of_heap h]; rfl, by rw [Lib.cell_of_heap h]; rfl⟩
theorem OpBlk.kept {B c : Nat} {o : OpT} {w w' : World} (h : OpBlk c o w) (hne : c ≠ B) (hk : Kept B w w') : OpBlk c o w' := hk c _ _ _ (by decide) hne h

set_option maxRecDepth 20000 in
set_option maxHeartbeats 2000000 in
theorem implText_any (r : List OpT) (v : Value) (w : World) (hrow : RowO w v r) :
    Calls Try.prog 21 #[v] w (TextOk (textA r) (goodR r 10) w) := by
  rcases hG : goodR r 10 with _ | _
  · have HC := Lib.hid (implGood_b hG v w hrow)
    have HT : Hid (textA r = []) := by rw [textA, hG]; rfl
    clear hG hrow
    go_enter Try.func21, Try.ntmps21
    go_wp2_with fail
    refine HC.out.mono ?_
    rintro e w1 ⟨rfl, hb1⟩
    have HB1 := Lib.hid hb1
    clear hb1 HC
    go_wp2_with fail
    go_ret2
    exact ⟨by rw [HT.out] <;> rfl, HB1.out⟩
  · have HC := Lib.hid (implGood_b hG v w hrow)
    have HT : Hid (textA r = textR r) := by rw [textA, hG]; rfl
    have HSM := Lib.hid (good_small hG)
    have h8 := (goodR_iff.1 hG).2.2.1
    obtain ⟨a, cap, rfl, hc1, hc2, hat⟩ := hrow.ops
    clear hG hrow
    unfold maxLen at hc2
    go_enter Try.func21, Try.ntmps21
    go_wp2_with fail
    refine HC.out.mono ?_
    rintro e w1 ⟨rfl, hb1⟩
    have HB0 := Lib.hid hb1
    have hw1 := hb1.size
    have HF := Lib.hid (builds_fresh w1)
    have HBF := Lib.hid ((Below.refl w1.heap.size w1).alloc (Nat.le_refl _) (.cells #[.pointer none, .slice none 0 0] 58))
    clear hb1 HC
    go_wp2_with fail
    go_loopw [12] (fun i wr => ∃ k : Nat, k ≤ r.length ∧ i = .int .i64 k ∧ Hid (BuildsT w1.heap.size (textR (r.take k)) wr) ∧ Hid (Below w1.heap.size w1 wr) ∧ w1.heap.size < wr.heap.size) (fun i _ => r.length - (intOf i).toNat)
    case atStart => exact ⟨0, Nat.zero_le _, rfl, HF, HBF, by simp⟩
    case round =>
      clear HF HBF
      obtain ⟨k, hk, rfl, HF, HB, hgt⟩ := hrel
      have hbs := HB.out.size
      have hfl := textR_len (r := r.take k) (fun o ho => HSM.out o (List.mem_of_mem_take ho))
      have htl : (r.take k).length ≤ 8 := by rw [List.length_take]; omega
      by_cases hlt : k < r.length
      · obtain ⟨g, o, rfl, hg, hcell1, hcell2, hcell3⟩ := hat k hlt
        have HB1 := Lib.hid (HB0.out.trans (HB.out.mono hw1))
        have s1 := (HB1.out.cell (p := ⟨g, o + k * 3, none⟩) hg).trans hcell1
        have s2 := (HB1.out.cell (p := ⟨g, o + k * 3 + 1, none⟩) hg).trans hcell2
        have s3 := (HB1.out.cell (p := ⟨g, o + k * 3 + 2, none⟩) hg).trans hcell3
        have HE := Lib.hid (text_next hlt)
        have hsm := HSM.out r[k] (List.getElem_mem hlt)
        clear hcell1 hcell2 hcell3 hat HB1
        generalize textR (r.take k) = acc at HE hfl HF
        generalize r[k] = x at s1 s2 s3 HE hsm
        obtain ⟨x1, x2, x3⟩ := x
        simp only [Small1] at s1 s2 s3 HE hsm
        obtain ⟨⟨ha1, ha2⟩, ⟨hb1, hb2⟩, hl3⟩ := hsm
        unfold text1 at HE
        simp only at HE
        have hal : acc.length ≤ 200 := by omega
        obtain ⟨wa, hwa⟩ : ∃ wa, wa = wr.alloc (.cells #[.int .i64 x1, .int .i64 x2, .string ⟨x3.toArray⟩] 45) := ⟨_, rfl⟩
        have HBA : Hid (Below w1.heap.size w1 wa) := by rw [hwa]; exact HB.out.alloc hbs _
        have HFA : Hid (BuildsT w1.heap.size acc wa) := by rw [hwa]; exact builds_alloc HF.out _
        have HOA : Hid (OpBlk wr.heap.size (x1, x2, x3) wa) := by rw [hwa]; exact heap_alloc_new wr _
        have hga : w1.heap.size < wa.heap.size := by rw [hwa]; simp; omega
        have hne : wr.heap.size ≠ w1.heap.size := by omega
        have HNE := Lib.hid hne
        have HC1 := Lib.hid (put_byte x1 (by omega) (by omega) HFA.out (by omega) (by omega))
        have HWA := Lib.hid hwa
        clear hwa HF HB hfl htl hne
        go_wp2_with fail
        rw [← HWA.out]
        refine HC1.out.mono ?_
        rintro e w2 ⟨rfl, hf2, hb2, hk2⟩
        have HB2 := Lib.hid (HBA.out.trans hb2)
        have HO2 := Lib.hid (HOA.out.kept HNE.out hk2)
        have hg2 : w1.heap.size < w2.heap.size := Nat.lt_of_lt_of_le hga hb2.size
        have HC2 := Lib.hid (put_byte x2 (by omega) (by omega) hf2 (by omega) (by simp; omega))
        clear hf2 hb2 hk2 HC1 HBA HFA HOA HWA
        obtain ⟨c0, c1, c2⟩ := HO2.out.cells
        simp only at c0 c1 c2
        go_wp2_with fail
        refine HC2.out.mono ?_
        rintro e w3 ⟨rfl, hf3, hb3, hk3⟩
        have HB3 := Lib.hid (HB2.out.trans hb3)
        have HO3 := Lib.hid (HO2.out.kept HNE.out hk3)
        have hg3 : w1.heap.size < w3.heap.size := Nat.lt_of_lt_of_le hg2 hb3.size
        have HC3 := Lib.hid (put_byte (x3.length : Int) (by omega) (by omega) hf3 (by omega) (by simp; omega))
        clear hf3 hb3 hk3 HC2 HB2 HO2 c0 c1 c2
        obtain ⟨c0, c1, c2⟩ := HO3.out.cells
        simp only at c0 c1 c2
        go_wp2_with fail
        refine HC3.out.mono ?_
        rintro e w4 ⟨rfl, hf4, hb4, hk4⟩
        have HB4 := Lib.hid (HB3.out.trans hb4)
        have HO4 := Lib.hid (HO3.out.kept HNE.out hk4)
        have hg4 : w1.heap.size < w4.heap.size := Nat.lt_of_lt_of_le hg3 hb4.size
        have HC4 := Lib.hid (put_text x3 hf4 (by omega) (by simp; omega))
        clear hf4 hb4 hk4 HC3 HB3 HO3 c0 c1 c2
        obtain ⟨c0, c1, c2⟩ := HO4.out.cells
        simp only at c0 c1 c2
        go_wp2_with fail
        refine HC4.out.mono ?_
        rintro e w5 ⟨rfl, hf5, hb5, hk5⟩
        have HB5 := Lib.hid (HB4.out.trans hb5)
        have hg5 : w1.heap.size < w5.heap.size := Nat.lt_of_lt_of_le hg4 hb5.size
        have HF5 : Hid (BuildsT w1.heap.size (acc ++ ([byteI x1, byteI x2, byteI (x3.length : Int)] ++ x3)) w5) := by
          have e : acc ++ ([byteI x1, byteI x2, byteI (x3.length : Int)] ++ x3) = acc ++ [byteI x1] ++ [byteI x2] ++ [byteI (x3.length : Int)] ++ x3 := by simp
          rw [e]; exact hf5
        clear hf5 hb5 hk5 HC4 HB4 HO4 c0 c1 c2
        go_wp2_with fail
        go_roundw
        case rel => exact ⟨k + 1, by omega, by go_num, by rw [HE.out]; exact HF5.out, HB5, hg5⟩
        case measure => simp [intOf]; omega
      · have HE : Hid (textR (r.take k) = textA r) := by rw [HT.out, List.take_of_length_le (by omega)]; rfl
        rw [HE.out] at HF
        have HCS := Lib.hid (Try.Builder_String_any w1.heap.size w1.heap.size (textA r) wr HF.out hbs)
        clear hat HE
        go_wp2_with fail
        refine HCS.out.mono ?_
        rintro e w2 ⟨rfl, hb2⟩
        have HB2 := Lib.hid (HB0.out.trans ((HB.out.trans hb2).mono hw1))
        clear hb2 HCS
        go_wp2_with fail
        go_ret2
        exact ⟨rfl, HB2.out⟩

end Go.Proofs.Ytkheebdnigmpcaa

/- Walks: the laws' helpers on lists of ops: how much they hold, copies, whether they are the same. -/
namespace Go.Proofs.Ytkheebdnigmpcaa
open Go.RowKit Pth

def noOp : OpT := (0, 0, [])
/-- Ops are handed back, in memory of the call's own. -/
def OpsPost (l : List OpT) (w : World) (e : Ending) (w' : World) : Prop :=
  ∃ v, e = .returned v ∧ w'.ownsRow w.heap.size 45 3 v l.length (OC l) ∧ Below w.heap.size w w'
theorem OC_zero (n : Nat) : OC (List.replicate n noOp) = (madeCells #[.int .i64 0, .int .i64 0, .string ByteArray.empty] (n * 3)).toList := by
  apply List.ext_getElem?
  intro j
  by_cases hj : j < n * 3
  · have hd : j / 3 < n := by omega
    obtain ⟨q0, q1, q2⟩ := OC_at (l := List.replicate n noOp) (k := j / 3) (by simpa using hd)
    have hm : j % 3 = 0 ∨ j % 3 = 1 ∨ j % 3 = 2 := by omega
    rcases hm with h | h | h
    · rw [show j = j / 3 * 3 by omega, q0]
      simp [madeCells, noOp, hd]
    · rw [show j = j / 3 * 3 + 1 by omega, q1]
      have e : (j / 3 * 3 + 1) % 3 = 1 := by omega
      have e2 : j / 3 * 3 + 1 < n * 3 := by omega
      simp [madeCells, noOp, e, e2]
    · rw [show j = j / 3 * 3 + 2 by omega, q2]
      have e : (j / 3 * 3 + 2) % 3 = 2 := by omega
      have e2 : j / 3 * 3 + 2 < n * 3 := by omega
      simp [madeCells, noOp, e, e2]; rfl
  · rw [List.getElem?_eq_none (by rw [OC_len]; simp; omega)]
    simp [madeCells, hj]
theorem make_rowO (n : Nat) (w : World) (hn : n ≤ 2000000) :
    ∃ w', (Instr.makeSlice 25 (.int .i64 (n : Int)) (.int .i64 (n : Int))).run Try.prog w = .ok (.slice (some ⟨w.heap.size, 0, none⟩) n n) w' ∧
      w'.ownsRow w.heap.size 45 3 (.slice (some ⟨w.heap.size, 0, none⟩) n n) n (OC (List.replicate n noOp)) ∧ Below w.heap.size w w' := by
  obtain ⟨i0, hi, hz0, hz1, hz2⟩ := info_parts elemO.info
  obtain ⟨w', h1, h2, h3⟩ := run_makeSlice_full (P := Try.prog) w w.heap.size _ _ i0 _ 3 elemO.under hi hz0 hz1 .i64 .i64 n (by omega) (by rw [hz2]; exact Nat.le_trans (Nat.mul_le_mul elemO.small hn) (by decide)) (by unfold maxLen; omega) (Nat.le_refl _)
  rw [OC_zero]
  exact ⟨w', h1, h2, (Below.refl _ w).grown h3 (Nat.le_refl _) (fun k hk => by cases hk)⟩
theorem set_three (a : List OpT) (k : Nat) (ha : a.length = k) (p : OpT) (rest : List OpT) (x : OpT) :
    (((OC a ++ OC (p :: rest)).set (k * 3) (.int .i64 x.1)).set (k * 3 + 1) (.int .i64 x.2.1)).set (k * 3 + 2) (.string ⟨x.2.2.toArray⟩) = OC (a ++ [x]) ++ OC rest := by
  have hl : (OC a).length = k * 3 := by rw [OC_len, ha]
  rw [List.set_append_right _ _ (by omega), hl, Nat.sub_self, List.set_append_right _ _ (by omega), hl, show k * 3 + 1 - k * 3 = 1 by omega, List.set_append_right _ _ (by omega), hl, show k * 3 + 2 - k * 3 = 2 by omega, OC_append]
  simp [OC, opC]
theorem get_three (a : List OpT) (k : Nat) (ha : a.length = k) (p : OpT) (rest : List OpT) :
    (OC a ++ OC (p :: rest))[k * 3]? = some (.int .i64 p.1) ∧ (OC a ++ OC (p :: rest))[k * 3 + 1]? = some (.int .i64 p.2.1) ∧ (OC a ++ OC (p :: rest))[k * 3 + 2]? = some (.string ⟨p.2.2.toArray⟩) := by
  have hl : (OC a).length = k * 3 := by rw [OC_len, ha]
  rw [List.getElem?_append_right (by omega), hl, Nat.sub_self, List.getElem?_append_right (by omega), hl, show k * 3 + 1 - k * 3 = 1 by omega, List.getElem?_append_right (by omega), hl, show k * 3 + 2 - k * 3 = 2 by omega]
  exact ⟨rfl, rfl, rfl⟩

set_option maxRecDepth 20000 in
set_option maxHeartbeats 1000000 in
theorem szOpS_any (l : List OpT) (left : Nat) (v : Value) (w : World) (hrow : RowO w v l) (hx : ∀ f ∈ l, f.2.2.length ≤ maxLen) (hl : left ≤ 2000000) :
    Calls Try.prog 7 #[v, .int .i64 (left : Int)] w fun e w' => ∃ r : Int, e = .returned (.int .i64 r) ∧ r ≤ left ∧ (0 ≤ r → r + l.length ≤ left ∧ ∀ f ∈ l, f.2.2.length ≤ left) ∧ Below w.heap.size w w' := by
  obtain ⟨a, cap, rfl, hc1, hc2, hat⟩ := hrow.ops
  clear hrow
  unfold maxLen at hc2
  by_cases hlen : l.length ≤ left
  · have hlen1 : decide ((left : Int) - (l.length : Int) < 0) = false := by simp; omega
    go_enter Try.func7, Try.ntmps7
    go_wp2_with fail
    go_loopw [1, 5] (fun q i wr => ∃ (k r : Nat), k ≤ l.length ∧ r + l.length ≤ left ∧ q = .int .i64 r ∧ i = .int .i64 k ∧ Hid (∀ f ∈ l.take k, f.2.2.length ≤ left) ∧ Hid (Below w.heap.size w wr)) (fun _ i _ => l.length - (intOf i).toNat)
    case atStart => exact ⟨0, left - l.length, Nat.zero_le _, by omega, by go_num, rfl, by simp [Hid], Below.refl _ _⟩
    case round =>
      obtain ⟨k, r, hk, hr1, rfl, rfl, HO, HB⟩ := hrel
      by_cases hlt : k < l.length
      · obtain ⟨g, o, rfl, hg, hcell1, hcell2, hcell3⟩ := hat k hlt
        have s1 := (HB.out.cell (p := ⟨g, o + k * 3, none⟩) hg).trans hcell1
        have s2 := (HB.out.cell (p := ⟨g, o + k * 3 + 1, none⟩) hg).trans hcell2
        have s3 := (HB.out.cell (p := ⟨g, o + k * 3 + 2, none⟩) hg).trans hcell3
        have hxl := hx l[k] (List.getElem_mem hlt)
        have HC := Lib.hid (szOp_any l[k] r wr hxl (by omega))
        have HS : Hid (l[k].2.2.length ≤ left → ∀ f ∈ l.take (k + 1), f.2.2.length ≤ left) := by
          intro h1 f hf
          rw [List.take_succ_eq_append_getElem hlt, List.mem_append, List.mem_singleton] at hf
          rcases hf with h | h
          · exact HO.out f h
          · rw [h]; exact h1
        clear hcell1 hcell2 hcell3 hat HO hx hxl
        generalize l[k] = x at s1 s2 s3 HC HS
        obtain ⟨x1, x2, x3⟩ := x
        unfold opV at HC
        simp only at s1 s2 s3 HC HS
        go_wp2_with fail
        refine HC.out.mono ?_
        rintro e w1 ⟨r1, rfl, hle, hif, hb1⟩
        have HB1 := Lib.hid (HB.out.trans (hb1.mono HB.out.size))
        clear hb1 HC
        by_cases h0 : 0 ≤ r1
        · obtain ⟨r2, rfl⟩ : ∃ r2 : Nat, r1 = r2 := ⟨r1.toNat, by omega⟩
          have hd : decide ((r2 : Int) < 0) = false := decide_eq_false (by omega)
          have HS2 := Lib.hid (HS.out (by have := (hif h0); omega))
          clear HS hif
          go_wp2_with fail
          go_roundw
          case rel => exact ⟨k + 1, r2, by omega, by omega, rfl, by go_num, HS2, HB1⟩
          case measure => simp [intOf]; omega
        · have hd : decide (r1 < 0) = true := decide_eq_true (by omega)
          clear HS hif
          go_wp2_with fail
          go_ret
          exact ⟨-1, rfl, by omega, fun h => by omega, HB1.out⟩
      · have HS : Hid (∀ f ∈ l, f.2.2.length ≤ left) := by have := HO.out; rw [List.take_of_length_le (by omega)] at this; exact this
        clear hat HO hx
        go_wp2_with fail
        go_ret
        exact ⟨r, rfl, by omega, fun _ => ⟨by omega, HS.out⟩, HB.out⟩
  · have hlen1 : decide ((left : Int) - (l.length : Int) < 0) = true := by simp; omega
    clear hat hx
    go_enter Try.func7, Try.ntmps7
    go_wp2_with fail
    go_ret
    exact ⟨-1, rfl, by omega, fun h => by omega, Below.refl _ _⟩

set_option maxRecDepth 20000 in
set_option maxHeartbeats 1000000 in
theorem toOpS_any (l : List OpT) (v : Value) (w : World) (hrow : RowO w v l) (hl : l.length ≤ 2000000) :
    Calls Try.prog 9 #[v] w (OpsPost l w) := by
  obtain ⟨a, cap, rfl, hc1, hc2, hat⟩ := hrow.ops
  clear hrow
  unfold maxLen at hc2
  obtain ⟨w0, hmk, hown0, hb0⟩ := make_rowO l.length w hl
  have HN0 := Lib.hid hown0
  have HB0 := Lib.hid hb0
  clear hown0 hb0
  go_enter Try.func9, Try.ntmps9
  go_wp2_with fail
  clear hmk
  go_loopw [4] (fun i wr => ∃ k : Nat, k ≤ l.length ∧ i = .int .i64 k ∧ Hid (wr.ownsRow w.heap.size 45 3 (.slice (some ⟨w.heap.size, 0, none⟩) l.length l.length) l.length (OC (l.take k) ++ OC (List.replicate (l.length - k) noOp))) ∧ Hid (Below w.heap.size w wr)) (fun i _ => l.length - (intOf i).toNat)
  case atStart => exact ⟨0, Nat.zero_le _, rfl, HN0, HB0⟩
  case round =>
    clear HN0 HB0
    obtain ⟨k, hk, rfl, HN, HB⟩ := hrel
    have hbs := HB.out.size
    by_cases hlt : k < l.length
    · obtain ⟨g, o, rfl, hg, hcell1, hcell2, hcell3⟩ := hat k hlt
      have s1 := (HB.out.cell (p := ⟨g, o + k * 3, none⟩) hg).trans hcell1
      have s2 := (HB.out.cell (p := ⟨g, o + k * 3 + 1, none⟩) hg).trans hcell2
      have s3 := (HB.out.cell (p := ⟨g, o + k * 3 + 2, none⟩) hg).trans hcell3
      have HC := Lib.hid (fun W => toOp_any l[k] W)
      have ht : (l.take k).length = k := by rw [List.length_take]; omega
      have er : List.replicate (l.length - k) noOp = noOp :: List.replicate (l.length - (k + 1)) noOp := by rw [show l.length - k = (l.length - (k + 1)) + 1 by omega, List.replicate_succ]
      rw [er] at HN
      have HE := Lib.hid (set_three (l.take k) k ht noOp (List.replicate (l.length - (k + 1)) noOp) l[k])
      have HE2 := Lib.hid (get_three (l.take k) k ht noOp (List.replicate (l.length - (k + 1)) noOp))
      have HT : Hid (l.take k ++ [l[k]] = l.take (k + 1)) := (List.take_succ_eq_append_getElem hlt).symm
      rw [HT.out] at HE
      clear hcell1 hcell2 hcell3 hat HT er ht
      generalize l[k] = x at s1 s2 s3 HC HE
      obtain ⟨x1, x2, x3⟩ := x
      unfold opV at HC
      simp only at s1 s2 s3 HC HE
      go_wp2_with fail
      refine (HC.out _).mono ?_
      rintro e w1 ⟨rfl, hb1⟩
      have HN1 := Lib.hid (own_belowG HN.out hb1)
      have HB1 := Lib.hid (HB.out.trans (hb1.mono HB.out.size))
      have hfz := HN1.out.frozenAt (k * 3)
      have hfz2 := HN1.out.frozenAt (k * 3 + 1)
      have hfz3 := HN1.out.frozenAt (k * 3 + 2)
      have hcz : w1.cell? ⟨w.heap.size, k * 3, none⟩ = some (.int .i64 0) := by rw [HN1.out.cellAt (k * 3) (by omega), HE2.out.1]; rfl
      have hcz2 : w1.cell? ⟨w.heap.size, k * 3 + 1, none⟩ = some (.int .i64 0) := by rw [HN1.out.cellAt (k * 3 + 1) (by omega), HE2.out.2.1]; rfl
      have hcz3 : w1.cell? ⟨w.heap.size, k * 3 + 2, none⟩ = some (.string ByteArray.empty) := by rw [HN1.out.cellAt (k * 3 + 2) (by omega), HE2.out.2.2]; rfl
      have hst := HN1.out.stored (k * 3) (.int .i64 x1)
      have hst2 := hst.1.stored (k * 3 + 1) (.int .i64 x2)
      have hst3 := hst2.1.stored (k * 3 + 2) (.string ⟨x3.toArray⟩)
      rw [HE.out] at hst3
      have HN2 := Lib.hid hst3.1
      have HB2 := Lib.hid (((HB1.out.trans (only_below hst.2 (Nat.le_refl _) HB1.out.size)).trans (only_below hst2.2 (Nat.le_refl _) (Nat.le_trans HB1.out.size hst.2.size))).trans (only_below hst3.2 (Nat.le_refl _) (Nat.le_trans (Nat.le_trans HB1.out.size hst.2.size) hst2.2.size)))
      clear hst hst2 hst3 HN HB HC HE HE2 HN1 HB1 hb1
      go_wp2_with fail
      go_roundw
      case rel => exact ⟨k + 1, by omega, by go_num, HN2, HB2⟩
      case measure => simp [intOf]; omega
    · have HN1 : Hid (wr.ownsRow w.heap.size 45 3 (.slice (some ⟨w.heap.size, 0, none⟩) l.length l.length) l.length (OC l)) := by
        have := HN.out
        rw [List.take_of_length_le (by omega), show l.length - k = 0 by omega] at this
        simpa [OC, Hid] using this
      clear HN hat
      go_wp2_with fail
      go_ret
      exact ⟨_, rfl, HN1.out, HB.out⟩

set_option maxRecDepth 20000 in
set_option maxHeartbeats 2000000 in
theorem eqOpS_any (l m : List OpT) (v u : Value) (w : World) (hr1 : RowO w v l) (hr2 : RowO w u m) (hl : l.length ≤ 2000000) :
    Calls Try.prog 11 #[v, u] w fun e w' => e = .returned (.bool (decide (l = m))) ∧ Below w.heap.size w w' := by
  obtain ⟨a, cap, rfl, hc1, hc2, hat⟩ := hr1.ops
  obtain ⟨a2, cap2, rfl, hc3, hc4, hat2⟩ := hr2.ops
  clear hr1 hr2
  unfold maxLen at hc2 hc4
  by_cases hlen : l.length = m.length
  · have hlen1 : ((l.length : Int) != (m.length : Int)) = false := by simp [hlen]
    have hle1 : l.length ≤ m.length := by omega
    have hle2 : m.length ≤ l.length := by omega
    clear hlen
    go_enter Try.func11, Try.ntmps11
    go_wp2_with fail
    go_loopw [5] (fun i wr => ∃ k : Nat, k ≤ l.length ∧ i = .int .i64 k ∧ Hid (l.take k = m.take k) ∧ Hid (Below w.heap.size w wr)) (fun i _ => l.length - (intOf i).toNat)
    case atStart => exact ⟨0, Nat.zero_le _, rfl, rfl, Below.refl _ _⟩
    case round =>
      obtain ⟨k, hk, rfl, HO, HB⟩ := hrel
      by_cases hlt : k < l.length
      · obtain ⟨g, o, rfl, hg, hcell1, hcell2, hcell3⟩ := hat k hlt
        obtain ⟨g2, o2, rfl, hg2, hcell4, hcell5, hcell6⟩ := hat2 k (by omega)
        have s1 := (HB.out.cell (p := ⟨g, o + k * 3, none⟩) hg).trans hcell1
        have s2 := (HB.out.cell (p := ⟨g, o + k * 3 + 1, none⟩) hg).trans hcell2
        have s3 := (HB.out.cell (p := ⟨g, o + k * 3 + 2, none⟩) hg).trans hcell3
        have s4 := (HB.out.cell (p := ⟨g2, o2 + k * 3, none⟩) hg2).trans hcell4
        have s5 := (HB.out.cell (p := ⟨g2, o2 + k * 3 + 1, none⟩) hg2).trans hcell5
        have s6 := (HB.out.cell (p := ⟨g2, o2 + k * 3 + 2, none⟩) hg2).trans hcell6
        have hi1 : (k : Int) < (l.length : Int) := by omega
        have hi2 : (k : Int) < (m.length : Int) := by omega
        have hbs := HB.out.size
        have hgw : g < wr.heap.size := by omega
        have hgw2 : g2 < wr.heap.size := by omega
        clear hcell1 hcell2 hcell3 hcell4 hcell5 hcell6 hat hat2
        obtain ⟨b, hbE⟩ : ∃ b, decide (l[k] = m[k]) = b := ⟨_, rfl⟩
        have HC := Lib.hid (fun W => eqOp_b hbE W)
        have HS : Hid (if b then l.take (k + 1) = m.take (k + 1) else decide (l = m) = false) := by
          unfold Hid
          subst hbE
          by_cases he : l[k] = m[k]
          · simp only [he, decide_true, if_true]; exact same_next HO.out hlt (by omega) he
          · simp only [he, decide_false]; exact decide_eq_false (same_not hlt (by omega) he)
        clear HO hbE
        generalize l[k] = x at s1 s2 s3 HC
        generalize m[k] = y at s4 s5 s6 HC
        obtain ⟨x1, x2, x3⟩ := x
        obtain ⟨y1, y2, y3⟩ := y
        unfold opV at HC
        simp only at s1 s2 s3 s4 s5 s6 HC
        go_wp2_with fail
        go_region_held3 (fun w' => w'.cell? ⟨g, o + k * 3, none⟩ = some (.int .i64 x1) ∧ w'.cell? ⟨g, o + k * 3 + 1, none⟩ = some (.int .i64 x2) ∧ w'.cell? ⟨g, o + k * 3 + 2, none⟩ = some (.string ⟨x3.toArray⟩) ∧ w'.cell? ⟨g2, o2 + k * 3, none⟩ = some (.int .i64 y1) ∧ w'.cell? ⟨g2, o2 + k * 3 + 1, none⟩ = some (.int .i64 y2) ∧ w'.cell? ⟨g2, o2 + k * 3 + 2, none⟩ = some (.string ⟨y3.toArray⟩)) (first | exact ⟨s1, s2, s3, s4, s5, s6⟩ | exact ks)
          (first | (go_at_call 27; refine (HC.out _).mono ?_; rintro e w5 ⟨rfl, hb5⟩; have ks := And.intro ((hb5.cell (p := ⟨g, o + k * 3, none⟩) hgw).trans s1) (And.intro ((hb5.cell (p := ⟨g, o + k * 3 + 1, none⟩) hgw).trans s2) (And.intro ((hb5.cell (p := ⟨g, o + k * 3 + 2, none⟩) hgw).trans s3) (And.intro ((hb5.cell (p := ⟨g2, o2 + k * 3, none⟩) hgw2).trans s4) (And.intro ((hb5.cell (p := ⟨g2, o2 + k * 3 + 1, none⟩) hgw2).trans s5) ((hb5.cell (p := ⟨g2, o2 + k * 3 + 2, none⟩) hgw2).trans s6)))))))
        have HB5 := Lib.hid ((Below.drew HB.out).trans (hb5.mono HB.out.size))
        clear hb5 ks
        rcases b with _ | _
        · go_wp2_with fail
          go_ret
          exact ⟨ret_bool (by have := HS.out; simpa using this.symm), HB5.out⟩
        · go_wp2_with fail
          go_roundw
          case rel => exact ⟨k + 1, by omega, by go_num, HS.out, HB5⟩
          case measure => simp [intOf]; omega
      · have HS : Hid (decide (l = m) = true) := decide_eq_true (same_all HO.out (by omega) (by omega))
        clear HO hat hat2
        go_wp2_with fail
        go_ret
        exact ⟨ret_bool HS.out.symm, HB.out⟩
  · have hlen1 : ((l.length : Int) != (m.length : Int)) = true := by simp; omega
    have HS : Hid (decide (l = m) = false) := decide_eq_false (fun h => hlen (by rw [h]))
    clear hat hat2
    go_enter Try.func11, Try.ntmps11
    go_wp2_with fail
    go_ret
    exact ⟨ret_bool HS.out.symm, Below.refl _ _⟩

end Go.Proofs.Ytkheebdnigmpcaa

/- Walks: the laws that good recipes, digests and texts are told alike. -/
namespace Go.Proofs.Ytkheebdnigmpcaa
open Go.RowKit Pth

/-- The law says yes, and nothing that lay there has turned. -/
def YesP (w : World) (e : Ending) (w' : World) : Prop := e = .returned (.bool true) ∧ Below w.heap.size w w'
theorem bth {w w1 w2 : World} (h : Below w.heap.size w w1) (k : Below w1.heap.size w1 w2) : Below w.heap.size w w2 := h.trans (k.mono h.size)

set_option maxRecDepth 20000 in
set_option maxHeartbeats 2000000 in
theorem exactGood_any (l : List OpT) (ins : Int) (v : Value) (w : World) (hrow : RowO w v l) (hx : ∀ f ∈ l, f.2.2.length ≤ maxLen) :
    Calls Try.prog 3 #[v, .int .i64 ins] w (YesP w) := by
  have HS := Lib.hid (szOpS_any l 1048576 v w hrow hx (by omega))
  have HR := Lib.hid hrow
  have HX := Lib.hid hx
  clear hrow hx
  go_enter Try.func3, Try.ntmps3
  go_wp2_with fail
  refine HS.out.mono ?_
  rintro e w1 ⟨r, rfl, _, hr, hb1⟩
  by_cases h0 : r < 0
  · have HB1 := Lib.hid hb1
    clear hr hb1
    go_wp2_with fail
    go_ret
    exact ⟨rfl, HB1.out⟩
  · have hl : l.length ≤ 2000000 := by have := (hr (by omega)).1; omega
    have HB1 := Lib.hid hb1
    clear hr hb1 HS
    go_wp2_with fail
    refine (toOpS_any l v w1 (HR.out.below HB1.out) hl).mono ?_
    rintro e w2 ⟨v2, rfl, hown2, hb2⟩
    have HC := Lib.hid (specGood_any l ins v2 w2 (RowO.of_own hown2) HX.out)
    have HB2 := Lib.hid (bth HB1.out hb2)
    clear hown2 hb2 HB1
    generalize hG : goodR l ins = G at HC
    have HG := Lib.hid hG
    clear hG
    go_wp2_with fail
    refine HC.out.mono ?_
    rintro e w3 ⟨rfl, hb3⟩
    have HB3 := Lib.hid (bth HB2.out hb3)
    clear hb3 HB2 HC
    go_wp2_with fail
    refine (toOpS_any l v w3 (HR.out.below HB3.out) hl).mono ?_
    rintro e w4 ⟨v4, rfl, hown4, hb4⟩
    have HC := Lib.hid (implGood_any l ins v4 w4 (RowO.of_own hown4))
    have HB4 := Lib.hid (bth HB3.out hb4)
    have HO4 := Lib.hid (RowO.of_own hown4)
    rw [HG.out] at HC
    clear hown4 hb4 HB3
    go_wp2_with fail
    refine HC.out.mono ?_
    rintro e w5 ⟨rfl, hb5⟩
    have HB5 := Lib.hid (bth HB4.out hb5)
    have HO5 := Lib.hid (HO4.out.below hb5)
    clear hb5 HB4 HO4 HC
    have hne : (G != G) = false := by cases G <;> rfl
    go_wp2_with fail
    refine (toOpS_any l v w5 (HR.out.below HB5.out) hl).mono ?_
    rintro e w6 ⟨v6, rfl, hown6, hb6⟩
    have HC := Lib.hid (eqOpS_any l l v4 v6 w6 (HO5.out.below hb6) (RowO.of_own hown6) hl)
    have HB6 := Lib.hid (bth HB5.out hb6)
    rw [decide_eq_true (rfl : l = l)] at HC
    clear hown6 hb6 HB5 HO5
    go_wp2_with fail
    refine HC.out.mono ?_
    rintro e w7 ⟨rfl, hb7⟩
    have HB7 := Lib.hid (bth HB6.out hb7)
    clear hb7 HB6 HC
    go_wp2_with fail
    go_ret
    exact ⟨rfl, HB7.out⟩

set_option maxRecDepth 20000 in
set_option maxHeartbeats 2000000 in
theorem exactText_any (l : List OpT) (v : Value) (w : World) (hrow : RowO w v l) (hx : ∀ f ∈ l, f.2.2.length ≤ maxLen) :
    Calls Try.prog 6 #[v] w (YesP w) := by
  have HS := Lib.hid (szOpS_any l 1048576 v w hrow hx (by omega))
  have HR := Lib.hid hrow
  have HX := Lib.hid hx
  clear hrow hx
  go_enter Try.func6, Try.ntmps6
  go_wp2_with fail
  refine HS.out.mono ?_
  rintro e w1 ⟨r, rfl, _, hr, hb1⟩
  by_cases h0 : r < 0
  · have HB1 := Lib.hid hb1
    clear hr hb1
    go_wp2_with fail
    go_ret
    exact ⟨rfl, HB1.out⟩
  · have hl : l.length ≤ 2000000 := by have := (hr (by omega)).1; omega
    have HB1 := Lib.hid hb1
    clear hr hb1 HS
    go_wp2_with fail
    refine (toOpS_any l v w1 (HR.out.below HB1.out) hl).mono ?_
    rintro e w2 ⟨v2, rfl, hown2, hb2⟩
    have HC := Lib.hid (specText_any l v2 w2 (RowO.of_own hown2) HX.out)
    have HB2 := Lib.hid (bth HB1.out hb2)
    clear hown2 hb2 HB1
    generalize hG : goodR l 10 = G at HC
    generalize hT : textA l = T at HC
    have HG := Lib.hid hG
    have HT := Lib.hid hT
    clear hG hT
    go_wp2_with fail
    refine HC.out.mono ?_
    rintro e w3 ⟨rfl, hb3⟩
    have HB3 := Lib.hid (bth HB2.out hb3)
    clear hb3 HB2 HC
    go_wp2_with fail
    refine (toOpS_any l v w3 (HR.out.below HB3.out) hl).mono ?_
    rintro e w4 ⟨v4, rfl, hown4, hb4⟩
    have HC := Lib.hid (implText_any l v4 w4 (RowO.of_own hown4))
    have HB4 := Lib.hid (bth HB3.out hb4)
    have HO4 := Lib.hid (RowO.of_own hown4)
    rw [HG.out, HT.out] at HC
    clear hown4 hb4 HB3
    go_wp2_with fail
    refine HC.out.mono ?_
    rintro e w5 ⟨rfl, hb5⟩
    have HB5 := Lib.hid (bth HB4.out hb5)
    have HO5 := Lib.hid (HO4.out.below hb5)
    clear hb5 HB4 HO4 HC
    have hne : (G != G) = false := by cases G <;> rfl
    have hnt : (T != T) = false := by simp
    go_wp2_with fail
    refine (toOpS_any l v w5 (HR.out.below HB5.out) hl).mono ?_
    rintro e w6 ⟨v6, rfl, hown6, hb6⟩
    have HC := Lib.hid (eqOpS_any l l v4 v6 w6 (HO5.out.below hb6) (RowO.of_own hown6) hl)
    have HB6 := Lib.hid (bth HB5.out hb6)
    rw [decide_eq_true (rfl : l = l)] at HC
    clear hown6 hb6 HB5 HO5
    go_wp2_with fail
    refine HC.out.mono ?_
    rintro e w7 ⟨rfl, hb7⟩
    have HB7 := Lib.hid (bth HB6.out hb7)
    clear hb7 HB6 HC
    go_wp2_with fail
    go_ret
    exact ⟨rfl, HB7.out⟩

set_option maxHeartbeats 1000000 in
theorem exactDigest_any (s : ByteArray) (w : World) (hs : s.size ≤ maxLen) :
    Calls Try.prog 5 #[.string s] w (YesP w) := by
  have HC1 := Lib.hid (specDigest_any s w hs)
  have HC2 := Lib.hid (implDigest_any s w hs)
  unfold maxLen at hs
  generalize digA s.data.toList = D at HC1 HC2
  generalize decide (s.size ≤ 100) = B at HC1 HC2
  have hne : (B != B) = false := by cases B <;> rfl
  by_cases hbig : 1048576 < s.size
  · have hd : decide ((s.size : Int) > 1048576) = true := decide_eq_true (by omega)
    go_enter Try.func5, Try.ntmps5
    go_wp2_with fail
    go_ret
    exact ⟨rfl, Below.refl _ _⟩
  · have hd : decide ((s.size : Int) > 1048576) = false := decide_eq_false (by omega)
    go_enter Try.func5, Try.ntmps5
    go_wp2_with fail
    refine HC1.out.mono ?_
    rintro e w1 ⟨rfl, rfl⟩
    go_wp2_with fail
    refine HC2.out.mono ?_
    rintro e w1 ⟨rfl, rfl⟩
    go_wp2_with fail
    go_ret
    exact ⟨rfl, Below.refl _ _⟩

end Go.Proofs.Ytkheebdnigmpcaa

/- Walks: the laws' marks in ops; the law that what is read is told alike. -/
namespace Go.Proofs.Ytkheebdnigmpcaa
open Go.RowKit Pth

/-- The ops that are marks, from k on. -/
def marksO (k : Nat) (n : Nat) : List OpT := (List.range n).map (fun (i : Nat) => (((k + i * 3 : Nat) : Int), ((k + i * 3 + 1 : Nat) : Int), markT (k + i * 3 + 2)))
theorem marksO_len (k n : Nat) : (marksO k n).length = n := by simp [marksO]
theorem marksO_snoc (k n : Nat) : marksO k (n + 1) = marksO k n ++ [(((k + n * 3 : Nat) : Int), ((k + n * 3 + 1 : Nat) : Int), markT (k + n * 3 + 2))] := by simp [marksO, List.range_succ]
theorem set_kindO (a : List OpT) (k : Nat) (ha : a.length = k) (x p q : Int) (t : List UInt8) (rest : List OpT) :
    (OC a ++ OC ((p, q, t) :: rest)).set (k * 3) (.int .i64 x) = OC a ++ OC ((x, q, t) :: rest) := by
  have hl : (OC a).length = k * 3 := by rw [OC_len, ha]
  rw [List.set_append_right _ _ (by omega), hl, Nat.sub_self]
  rfl
theorem set_numO (a : List OpT) (k : Nat) (ha : a.length = k) (x p q : Int) (t : List UInt8) (rest : List OpT) :
    (OC a ++ OC ((p, q, t) :: rest)).set (k * 3 + 1) (.int .i64 x) = OC a ++ OC ((p, x, t) :: rest) := by
  have hl : (OC a).length = k * 3 := by rw [OC_len, ha]
  rw [List.set_append_right _ _ (by omega), hl, show k * 3 + 1 - k * 3 = 1 by omega]
  rfl
theorem set_textO (a : List OpT) (k : Nat) (ha : a.length = k) (p q : Int) (x t : List UInt8) (rest : List OpT) :
    (OC a ++ OC ((p, q, t) :: rest)).set (k * 3 + 2) (.string ⟨x.toArray⟩) = OC (a ++ [(p, q, x)]) ++ OC rest := by
  have hl : (OC a).length = k * 3 := by rw [OC_len, ha]
  rw [List.set_append_right _ _ (by omega), hl, show k * 3 + 2 - k * 3 = 2 by omega, OC_append]
  simp [OC, opC]
theorem mark_l (j : Nat) (i : Int) (h : (j : Int) = i) (hk1 : j ≤ 8000000) (h1 : 1 ≤ j) (w : World) : Calls Try.prog 30 #[.int .i64 i] w fun e w' => e = .returned (.string ⟨(markT j).toArray⟩) ∧ Below w.heap.size w w' := by
  subst h
  exact markText_any j w hk1 h1

/-- The ops hold the marks, and nothing but their own block has turned. -/
def MarkedO (v : Value) (k : Nat) (n : Nat) (w : World) (e : Ending) (w' : World) : Prop :=
  e = .returned (.int .i64 ((k : Int) + (n : Int) * 3)) ∧ w.grownBy w' v.ownBlock

set_option maxRecDepth 20000 in
set_option maxHeartbeats 1000000 in
theorem markOpS_any (l : List OpT) (k : Nat) (B : Nat) (v : Value) (w : World) (hown : w.ownsRow B 45 3 v l.length (OC l)) (hl : l.length ≤ 1100000) (hk : k ≤ 4000000) (hk1 : 1 ≤ k) :
    Calls Try.prog 15 #[v, .int .i64 (k : Int)] w (MarkedO v k l.length w) := by
  have HW := Lib.hid hown
  obtain ⟨a, cap, rfl⟩ := own_sliceG hown
  clear hown
  go_enter Try.func15, Try.ntmps15
  go_wp2_with fail
  go_loopw [1, 5] (fun q i wr => ∃ j : Nat, j ≤ l.length ∧ q = .int .i64 ((k : Int) + (j : Int) * 3) ∧ i = .int .i64 j ∧ wr.ownsRow B 45 3 (.slice a l.length cap) l.length (OC (marksO k j) ++ OC (l.drop j)) ∧ w.grownBy wr (Value.slice a l.length cap).ownBlock) (fun _ i _ => l.length - (intOf i).toNat)
  case atStart => exact ⟨0, Nat.zero_le _, by simp, rfl, HW.out, grown_refl _ _⟩
  case round =>
    clear HW
    obtain ⟨j, hj, rfl, rfl, hown, hg⟩ := hrel
    by_cases hlt : j < l.length
    · obtain ⟨g, c2, hv⟩ : ∃ g c2, (Value.slice a l.length cap) = .slice (some ⟨g, 0, none⟩) l.length c2 := by
        rcases hown.2 with ⟨_, h0⟩ | ⟨g, c2, cur, hv, _⟩
        · omega
        · exact ⟨g, c2, hv⟩
      injection hv with hv1 hv2 hv3
      subst hv1
      have hc4 : l.length ≤ cap := by
        rcases hown.2 with ⟨_, h0⟩ | ⟨g, c2, cur, hv, _, _, h5, _⟩
        · omega
        · injection hv with _ _ hv3; omega
      have HC := Lib.hid (fun W => mark_l (k + j * 3 + 2) ((k : Int) + (j : Int) * 3 + 1 + 1) (by omega) (by omega) (by omega) W)
      rw [List.drop_eq_getElem_cons hlt, show l[j] = (l[j].1, l[j].2.1, l[j].2.2) from rfl] at hown
      have HE := Lib.hid (marksO_snoc k j)
      rw [show (((k + j * 3 : Nat) : Int)) = (k : Int) + (j : Int) * 3 by omega, show (((k + j * 3 + 1 : Nat) : Int)) = (k : Int) + (j : Int) * 3 + 1 by omega] at HE
      have ha := marksO_len k j
      have HG := Lib.hid hg
      have hfz := hown.frozenAt (j * 3)
      have hcz : wr.cell? ⟨g, j * 3, none⟩ = some (.int .i64 l[j].1) := by rw [hown.cellAt (j * 3) (by omega), (get_three (marksO k j) j ha _ _).1]
      have hst := hown.stored (j * 3) (.int .i64 ((k : Int) + (j : Int) * 3))
      rw [set_kindO (marksO k j) j ha] at hst
      have hfz1 := hst.1.frozenAt (j * 3 + 1)
      have hcz1 : (wr.setCell ⟨g, j * 3, none⟩ (.int .i64 ((k : Int) + (j : Int) * 3))).cell? ⟨g, j * 3 + 1, none⟩ = some (.int .i64 l[j].2.1) := by rw [hst.1.cellAt (j * 3 + 1) (by omega), (get_three (marksO k j) j ha _ _).2.1]
      have hst1 := hst.1.stored (j * 3 + 1) (.int .i64 ((k : Int) + (j : Int) * 3 + 1))
      rw [set_numO (marksO k j) j ha] at hst1
      have HN := Lib.hid hst1.1
      have HG1 := Lib.hid (grown_trans (grown_trans HG.out hst.2) hst1.2)
      clear hown hg hv2 hv3 hst hst1 HG
      generalize l[j].1 = p at hcz
      generalize l[j].2.1 = q at hcz1
      generalize l[j].2.2 = t at HN
      generalize markT (k + j * 3 + 2) = x at HC HE
      go_wp2_with fail
      generalize (wr.setCell ⟨g, j * 3, none⟩ (.int .i64 ((k : Int) + (j : Int) * 3))).setCell ⟨g, j * 3 + 1, none⟩ (.int .i64 ((k : Int) + (j : Int) * 3 + 1)) = w2 at HN HG1
      refine (HC.out _).mono ?_
      rintro e w3 ⟨rfl, hb3⟩
      have HN3 := Lib.hid (own_belowG HN.out hb3)
      have hfz2 := HN3.out.frozenAt (j * 3 + 2)
      have hcz2 : w3.cell? ⟨g, j * 3 + 2, none⟩ = some (.string ⟨t.toArray⟩) := by rw [HN3.out.cellAt (j * 3 + 2) (by omega), (get_three (marksO k j) j ha _ _).2.2]
      have hst := HN3.out.stored (j * 3 + 2) (.string ⟨x.toArray⟩)
      rw [set_textO (marksO k j) j ha, ← HE.out] at hst
      have HN4 := Lib.hid hst.1
      have HG4 := Lib.hid (grown_trans (grown_trans HG1.out (below_grown hb3)) hst.2)
      clear hst hb3 HN HN3 HG1 hcz hfz hcz1 hfz1 ha
      go_wp2_with fail
      go_roundw
      case rel => exact ⟨j + 1, by omega, by go_num, by go_num, HN4.out, HG4.out⟩
      case measure => simp [intOf]; omega
    · obtain rfl : j = l.length := by omega
      have HG := Lib.hid hg
      clear hown hg
      go_wp2_with fail
      go_ret
      exact ⟨rfl, HG.out⟩

/-- A list that another list's block is no part of. -/
theorem own_beside {w w' : World} {B1 e n : Nat} {v u : Value} {xs : List Value} (h : w.ownsRow B1 e 1 v n xs) (hg : w.grownBy w' u.ownBlock) (hu : ∀ k, u.ownBlock = some k → k < B1) : w'.ownsRow B1 e 1 v n xs := by
  refine h.kept hg ?_
  rcases hv : v.ownBlock with _ | k
  · exact .inl rfl
  · refine .inr (fun e => ?_)
    have h1 := (h.lt k hv).1
    have h2 := hu k e.symm
    omega
theorem reads_short (r : List OpT) : (readsA r).length ≤ 8 := by
  unfold readsA
  split
  · rename_i h
    have h8 := (goodR_iff.1 h).2.2.1
    have := fold_len r []
    simp only [List.length_nil] at this
    show (r.foldl read1 []).length ≤ 8
    omega
  · simp

set_option maxRecDepth 20000 in
set_option maxHeartbeats 8000000 in
theorem exactReads_any (l : List OpT) (v : Value) (w : World) (hrow : RowO w v l) (hx : ∀ f ∈ l, f.2.2.length ≤ maxLen) :
    Calls Try.prog 4 #[v] w (YesP w) := by
  have HS := Lib.hid (szOpS_any l 1048576 v w hrow hx (by omega))
  have HR := Lib.hid hrow
  have HSP := Lib.hid (fun u W hr => specReads_any l u W hr hx)
  have HIH := Lib.hid (fun u W hr => implReads_any l u W hr)
  have hL0 := reads_short l
  have hL : (readsA l).length ≤ 2000000 := by omega
  clear hrow hx hL0
  generalize readsA l = R at HSP HIH hL
  generalize goodR l 10 = ok at HSP HIH
  have hne : (ok != ok) = false := by cases ok <;> rfl
  go_enter Try.func4, Try.ntmps4
  go_wp2_with fail
  refine HS.out.mono ?_
  rintro e w0 ⟨r, rfl, _, hr, hb0⟩
  by_cases h0 : r < 0
  · have HB1 := Lib.hid hb0
    clear hr hb0
    go_wp2_with fail
    go_ret
    exact ⟨rfl, HB1.out⟩
  have hl2 : l.length ≤ 1100000 := by have := (hr (by omega)).1; omega
  have hl3 : l.length ≤ 2000000 := by omega
  have HB0 := Lib.hid hb0
  clear hr hb0 HS
  go_wp2_with fail
  refine (toOpS_any l _ w0 (HR.out.below HB0.out) hl3).mono ?_
  rintro e w1 ⟨v1, rfl, hown1, hb1⟩
  have HC1 := Lib.hid (HSP.out v1 w1 (RowO.of_own hown1))
  have HB1 := Lib.hid (HB0.out.trans (hb1.mono HB0.out.size))
  clear hown1 hb1 HB0
  go_wp2_with fail
  refine HC1.out.mono ?_
  rintro e w2 ⟨v2, rfl, hown2, hb2⟩
  have HB2 := Lib.hid (HB1.out.trans (hb2.mono HB1.out.size))
  have HW := Lib.hid hown2
  clear hown2 hb2 HC1
  go_wp2_with fail
  refine (toOpS_any l _ w2 (HR.out.below HB2.out) hl3).mono ?_
  rintro e w3 ⟨v3, rfl, hown3, hb3⟩
  have HX := Lib.hid hown3
  have HS3 := Lib.hid hb3
  have HB3 := Lib.hid (HB2.out.trans (hb3.mono HB2.out.size))
  clear hown3 hb3
  go_wp2_with fail
  refine (HIH.out v3 w3 (RowO.of_own HX.out)).mono ?_
  rintro e w4 ⟨v4, rfl, hown4, hb4⟩
  have HG := Lib.hid hown4
  have H34 := Lib.hid hb4
  have HS4 := Lib.hid (HS3.out.trans (hb4.mono HS3.out.size))
  have HB4 := Lib.hid (HB3.out.trans (hb4.mono HB3.out.size))
  clear hown4 hb4
  go_wp2_with fail
  refine (eqIntS_any R R v4 v2 w4 (RowV.of_own HG.out) (RowV.of_own (own_below HW.out HS4.out)) hL).mono ?_
  rw [decide_eq_true (rfl : R = R)]
  rintro e w5 ⟨rfl, hb5⟩
  have H45 := Lib.hid hb5
  have HS5 := Lib.hid (HS4.out.trans (hb5.mono HS4.out.size))
  have HB5 := Lib.hid (HB4.out.trans (hb5.mono HB4.out.size))
  clear hb5
  go_wp2_with fail
  refine (toOpS_any l _ w5 (HR.out.below HB5.out) hl3).mono ?_
  rintro e w6 ⟨v6, rfl, hown6, hb6⟩
  have H46 := Lib.hid (H45.out.trans (hb6.mono H45.out.size))
  have HS6 := Lib.hid (HS5.out.trans (hb6.mono HS5.out.size))
  have HB6 := Lib.hid (HB5.out.trans (hb6.mono HB5.out.size))
  have HY := Lib.hid hown6
  clear hown6 hb6
  go_wp2_with fail
  refine (eqOpS_any l l v3 v6 w6 (RowO.of_own (own_belowG (own_belowG HX.out H34.out) H46.out)) (RowO.of_own HY.out) hl3).mono ?_
  rw [decide_eq_true (rfl : l = l)]
  rintro e w7 ⟨rfl, hb7⟩
  have H47 := Lib.hid (H46.out.trans (hb7.mono H46.out.size))
  have HS7 := Lib.hid (HS6.out.trans (hb7.mono HS6.out.size))
  have HB7 := Lib.hid (HB6.out.trans (hb7.mono HB6.out.size))
  clear hb7 HY
  go_wp2_with fail
  have HX7 := Lib.hid (own_belowG (own_belowG HX.out H34.out) H47.out)
  refine (markOpS_any l 1 w2.heap.size v3 w7 HX7.out hl2 (by omega) (by omega)).mono ?_
  rintro e w8 ⟨rfl, hg8⟩
  have HS8 := Lib.hid (HS7.out.trans (below_ownG HX7.out hg8 HS7.out.size))
  have HB8 := Lib.hid (HB7.out.trans ((below_ownG HX7.out hg8 HS7.out.size).mono HB2.out.size))
  have HG8 := Lib.hid (own_beside (own_below HG.out H47.out) hg8 (fun k hk => (HX.out.lt k hk).2))
  have hs8 : w3.heap.size ≤ w8.heap.size := Nat.le_trans H34.out.size (Nat.le_trans H47.out.size hg8.size)
  clear hg8 HX7
  have hk0 : decide ((1 : Int) + (l.length : Int) * 3 < 0) = false := decide_eq_false (by omega)
  go_wp2_with fail
  refine (eqIntS_any R R v4 v2 w8 (RowV.of_own HG8.out) (RowV.of_own (own_below HW.out HS8.out)) hL).mono ?_
  rw [decide_eq_true (rfl : R = R)]
  rintro e w9 ⟨rfl, hb9⟩
  have HG9 := Lib.hid (own_below HG8.out hb9)
  have HS9 := Lib.hid (HS8.out.trans (hb9.mono HS8.out.size))
  have HB9 := Lib.hid (HB8.out.trans (hb9.mono HB8.out.size))
  have hs9 : w3.heap.size ≤ w9.heap.size := Nat.le_trans hs8 hb9.size
  clear hb9 HG8
  go_wp2_with fail
  refine (markIntS_any R 1 w3.heap.size v4 w9 HG9.out hL (by omega)).mono ?_
  rintro e w10 ⟨rfl, hown10, hg10⟩
  have hS := below_own (own_base HG9.out HS3.out.size) hg10 HS9.out.size
  have HS10 := Lib.hid (HS9.out.trans hS)
  have HB10 := Lib.hid (HB9.out.trans (hS.mono HB2.out.size))
  have HM := Lib.hid hown10
  clear hown10 hg10 hS HG9
  go_wp2_with fail
  refine (heldIntS_any 1 R.length v4 w10 (RowV.of_own HM.out) hL (by omega)).mono ?_
  rintro e w11 ⟨rfl, hb11⟩
  have HM11 := Lib.hid hb11
  have HS11 := Lib.hid (HS10.out.trans (hb11.mono HS10.out.size))
  have HB11 := Lib.hid (HB10.out.trans (hb11.mono HB10.out.size))
  clear hb11
  go_wp2_with fail
  refine (toOpS_any l _ w11 (HR.out.below HB11.out) hl3).mono ?_
  rintro e w12 ⟨v12, rfl, hown12, hb12⟩
  have HX12 := Lib.hid hown12
  have HM12 := Lib.hid (HM11.out.trans (hb12.mono HM11.out.size))
  have HS12 := Lib.hid (HS11.out.trans (hb12.mono HS11.out.size))
  have HB12 := Lib.hid (HB11.out.trans (hb12.mono HB11.out.size))
  clear hown12 hb12
  go_wp2_with fail
  refine (HIH.out v12 w12 (RowO.of_own HX12.out)).mono ?_
  rintro e w13 ⟨v13, rfl, hown13, hb13⟩
  have HH := Lib.hid hown13
  have HM13 := Lib.hid (HM12.out.trans (hb13.mono HM12.out.size))
  have HS13 := Lib.hid (HS12.out.trans (hb13.mono HS12.out.size))
  have HB13 := Lib.hid (HB12.out.trans (hb13.mono HB12.out.size))
  clear hown13 hb13
  go_wp2_with fail
  refine (eqIntS_any R R v13 v2 w13 (RowV.of_own HH.out) (RowV.of_own (own_below HW.out HS13.out)) hL).mono ?_
  rw [decide_eq_true (rfl : R = R)]
  rintro e w14 ⟨rfl, hb14⟩
  have HM14 := Lib.hid (HM13.out.trans (hb14.mono HM13.out.size))
  have HB14 := Lib.hid (HB13.out.trans (hb14.mono HB13.out.size))
  clear hb14
  go_wp2_with fail
  refine (heldIntS_any 1 R.length v4 w14 (RowV.of_own (own_below HM.out HM14.out)) hL (by omega)).mono ?_
  rintro e w15 ⟨rfl, hb15⟩
  have HB15 := Lib.hid (HB14.out.trans (hb15.mono HB14.out.size))
  clear hb15
  go_wp2_with fail
  go_ret
  exact ⟨rfl, HB15.out⟩
end Go.Proofs.Ytkheebdnigmpcaa
