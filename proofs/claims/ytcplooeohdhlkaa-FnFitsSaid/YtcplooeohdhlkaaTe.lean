/- The program's lists of paths and places; places read off marks and set. -/
import Derived.Test.YtcplooeohdhlkaaTd
import Derived.Test.YtcplooeohdhlkaaPj
namespace Go.Proofs.Ytcplooeohdhlkaa
open Go.RowKit Pth

theorem isPath_l (x : List UInt8) (w : World) (hx : x.length ≤ maxLen) : Calls Try.prog 49 #[.string ⟨x.toArray⟩] w (BoolPost (pathL x) w) :=
  isPath_any ⟨x.toArray⟩ w (by simpa [ByteArray.size] using hx)
theorem all_next {l : List (List UInt8)} {k : Nat} (hk : k < l.length) (h0 : (l.take k).all pathL = true) (h : pathL l[k] = true) : (l.take (k + 1)).all pathL = true := take_ok hk h0 h

set_option maxHeartbeats 2000000 in
theorem arePaths_any (l : List (List UInt8)) (v : Value) (w : World) (hrow : RowV w v (S l)) (hx : ∀ x ∈ l, x.length ≤ 2000000) :
    Calls Try.prog 62 #[v] w (BoolPost (l.all pathL) w) := by
  obtain ⟨a, cap, rfl, hc1, hc2, hat⟩ := hrow.texts
  clear hrow
  unfold maxLen at hc2
  go_enter Try.func62, Try.ntmps62
  go_wp2_with fail
  go_loopw [7] (fun i wr => ∃ k : Nat, k ≤ l.length ∧ i = .int .i64 k ∧ Hid (Below w.heap.size w wr) ∧ Hid ((l.take k).all pathL = true)) (fun i _ => l.length - (intOf i).toNat)
  case atStart => exact ⟨0, Nat.zero_le _, rfl, Below.refl _ _, by simp [Hid]⟩
  case round =>
    obtain ⟨k, hk, rfl, HB, HO⟩ := hrel
    by_cases hlt : k < l.length
    · obtain ⟨g, o, rfl, hg, hcell0⟩ := hat k hlt
      have hcell : wr.cell? ⟨g, o + k, none⟩ = some (.string ⟨(l[k]).toArray⟩) := by rw [HB.out.cell (p := ⟨g, o + k, none⟩) hg]; exact hcell0
      have hxl := hx l[k] (List.getElem_mem hlt)
      have D := isPath_l l[k] wr (by unfold maxLen; omega)
      clear hcell0 hat hx
      rcases h2 : pathL l[k] with _ | _
      · have HT := Lib.hid (take_bad hlt h2)
        rw [h2] at D
        have HD := Lib.hid D
        generalize l[k] = x at hcell hxl HD
        clear HO h2 D
        go_wp2_with fail
        refine HD.out.mono ?_
        rintro e w2 ⟨rfl, hb2⟩
        have HB2 := Lib.hid (HB.out.trans (hb2.mono HB.out.size))
        clear hb2
        go_wp2_with fail
        go_ret
        exact ⟨ret_bool HT.out.symm, HB2.out⟩
      · have HT := Lib.hid (take_ok hlt HO.out h2)
        rw [h2] at D
        have HD := Lib.hid D
        generalize l[k] = x at hcell hxl HD
        clear HO h2 D
        go_wp2_with fail
        refine HD.out.mono ?_
        rintro e w2 ⟨rfl, hb2⟩
        have HB2 := Lib.hid (HB.out.trans (hb2.mono HB.out.size))
        clear hb2
        go_wp2_with fail
        go_roundw
        case rel => exact ⟨k + 1, by omega, by go_num, HB2, HT⟩
        case measure => simp [intOf]; omega
    · have HE : Hid (l.all pathL = true) := by have := HO.out; rw [List.take_of_length_le (by omega)] at this; exact this
      clear HO hat hx
      go_wp2_with fail
      go_ret
      exact ⟨ret_bool HE.out.symm, HB.out⟩

/-- Where the next place may be at least. -/
def Least (l : List Int) (k : Nat) (m : Int) : Prop := (k = 0 ∧ m = 0) ∨ ∃ h : k - 1 < l.length, 0 < k ∧ m = l[k - 1] + 1

set_option maxHeartbeats 2000000 in
theorem arePlaces_any (p : ByteArray) (l : List Int) (v : Value) (w : World) (hrow : RowV w v (I l)) (hp : p.size ≤ 100) :
    Calls Try.prog 56 #[.string p, v] w fun e w' => e = .returned (.bool (riseB 0 p.size l)) ∧ w = w' := by
  obtain ⟨a, cap, rfl, hc1, hc2, hat⟩ := hrow.ints
  clear hrow
  unfold maxLen at hc2
  go_enter Try.func56, Try.ntmps56
  go_wp2_with fail
  go_loop [5, 10] (fun q i => ∃ (k : Nat) (m : Int), k ≤ l.length ∧ q = .int .i64 m ∧ i = .int .i64 k ∧ 0 ≤ m ∧ m ≤ 200 ∧ Hid (Least l k m) ∧ Hid (Rise (l.take k) ∧ Within 0 p.size (l.take k))) (fun _ i => l.length - (intOf i).toNat)
  case atStart => exact ⟨0, 0, Nat.zero_le _, rfl, rfl, by omega, by omega, .inl ⟨rfl, rfl⟩, by simp [Rise, Hid, Within]⟩
  case round =>
    obtain ⟨k, m, hk, rfl, rfl, hm0, hm1, HL, HO⟩ := hrel
    by_cases hlt : k < l.length
    · obtain ⟨g, o, rfl, hg, hcell⟩ := hat k hlt
      clear hat
      by_cases hx : l[k] < m
      · have HR : Hid (riseB 0 p.size l = false) := by
          rcases HL.out with ⟨h1, h2⟩ | ⟨h1, h2, h3⟩
          · exact rise_out hlt (by omega)
          · exact rise_fall hlt h2 (by omega)
        have hx1 : decide (l[k] < m) = true := by simpa using hx
        generalize l[k] = x at hcell hx hx1
        clear HL HO
        go_wp2_with fail
        go_ret
        exact ⟨ret_bool HR.out.symm, rfl⟩
      · have hx1 : decide (l[k] < m) = false := by simpa using hx
        by_cases hy : (p.size : Int) < l[k]
        · have HR : Hid (riseB 0 p.size l = false) := rise_out hlt (by omega)
          have hy1 : decide ((p.size : Int) < l[k]) = true := by simpa using hy
          generalize l[k] = x at hcell hx hx1 hy hy1
          clear HL HO
          go_wp2_with fail
          go_ret
          exact ⟨ret_bool HR.out.symm, rfl⟩
        · have HR : Hid (Rise (l.take (k + 1)) ∧ Within 0 p.size (l.take (k + 1))) := by
            refine rise_next hlt HO.out (by omega) (by omega) (fun h0 => ?_)
            rcases HL.out with ⟨h1, h2⟩ | ⟨h1, h2, h3⟩
            · omega
            · omega
          have HL2 : Hid (Least l (k + 1) (l[k] + 1)) := .inr ⟨by simpa using hlt, by omega, rfl⟩
          have hy1 : decide ((p.size : Int) < l[k]) = false := by simpa using hy
          generalize l[k] = x at hcell hx hx1 hy hy1 HL2
          clear HL HO
          go_wp2_with fail
          go_round
          case rel => exact ⟨k + 1, x + 1, by omega, by go_num, by go_num, by omega, by omega, HL2, HR⟩
          case measure => simp [intOf]; omega
    · have HR : Hid (riseB 0 p.size l = true) := by have := HO.out; rw [List.take_of_length_le (by omega)] at this; exact riseB_iff.2 this
      clear HO hat HL
      go_wp2_with fail
      go_ret
      exact ⟨ret_bool HR.out.symm, rfl⟩

set_option maxHeartbeats 2000000 in
theorem marksAt_any (l : List Int) (v : Value) (w : World) (hrow : RowV w v (I l)) (hw : Within 0 20 l) :
    Calls Try.prog 59 #[v] w (MarksPost l w) := by
  obtain ⟨a, cap, rfl, hc1, hc2, hat⟩ := hrow.ints
  have HW := Lib.hid hw
  clear hrow hw
  unfold maxLen at hc2
  go_enter Try.func59, Try.ntmps59
  go_wp2_with (first
    | (refine wpAllocM rfl rfl ?_; have hh := HM2; intro g1 w1 He1 HM1 HB1 HZ1; clear hh)
    | (refine wpAllocM rfl rfl ?_; intro g2 w2 He2 HM2 HB2 HZ2))
  have HT0 : Hid (Two w g1 g2 [] w1) := ⟨HM1.out, HM2.out.below HB1.out, by have := He1.out; have := HZ2.out; omega, by have := He1.out; have := HZ2.out; have := He2.out; omega, by have := He2.out; omega, HB2.out.trans (HB1.out.mono HB2.out.size)⟩
  clear He1 HM1 HB1 HZ1 He2 HM2 HB2 HZ2
  go_loopw [8] (fun i wr => ∃ (k : Nat) (out : List Int), k ≤ l.length ∧ i = .int .i64 k ∧ Hid (Two w g1 g2 out wr) ∧ Hid (∀ x, x ∈ out ↔ x ∈ l.take k)) (fun i _ => l.length - (intOf i).toNat)
  case atStart => exact ⟨0, [], Nat.zero_le _, rfl, HT0, by simp [Hid]⟩
  case round =>
    clear HT0
    obtain ⟨k, out, hk, rfl, HT, HO⟩ := hrel
    by_cases hlt : k < l.length
    · obtain ⟨g, o, rfl, hg, hcell0⟩ := hat k hlt
      have hcell : wr.cell? ⟨g, o + k, none⟩ = some (.int .i64 l[k]) := by rw [HT.out.below.cell (p := ⟨g, o + k, none⟩) hg]; exact hcell0
      have hwk := HW.out l[k] (List.getElem_mem hlt)
      obtain ⟨n, hn⟩ : ∃ n : Nat, l[k] = (n : Int) := ⟨l[k].toNat, by omega⟩
      have HN : Hid (∀ x, x ∈ putL out (n : Int) ↔ x ∈ l.take (k + 1)) := by
        intro x
        rw [mem_put, HO.out x, List.take_succ_eq_append_getElem hlt, List.mem_append, List.mem_singleton, hn]
        exact Or.comm
      rw [hn] at hcell hwk
      have hc0 := HT.out.one.cell n (by omega)
      have hz0 := HT.out.one.frozen n
      have HT2 := Lib.hid (HT.out.put n)
      clear hcell0 hat hn HO
      go_wp2_with fail
      go_roundw
      case rel => exact ⟨k + 1, _, by omega, by go_num, HT2, HN⟩
      case measure => simp [intOf]; omega
    · have HE : Hid (mkA out = mkA l) := by
        have := HO.out
        rw [List.take_of_length_le (by omega)] at this
        exact mkA_ext (fun n _ => this n)
      clear HO hat
      go_wp2_with (first
        | refine wpLoadM rfl _ rfl rfl HT.out.one ?_
        | (refine wpStoreM rfl _ _ rfl rfl rfl HT.out.two ?_; intro w3 h3 hg3; have HR := Lib.hid h3; have HG := Lib.hid hg3; clear h3 hg3))
      refine bodyPost_ret (results_marks rfl rfl HR.out) rfl ?_
      exact ⟨by rw [HE.out], HT.out.out HG.out⟩

theorem run_indexM (l : List Int) (k : Nat) (hk : k < 21) (W : World) : (Instr.index 61 (.agg (mkA l)) (.int .i64 (k : Int))).run Try.prog W = .ok (.bool (hasL l (k : Int))) W := by
  have h := mkA_at l k hk
  have hk2 : (k : Int) < 21 := by omega
  generalize mkA l = c at h
  unfold Instr.index
  simp [asIntOf, run_underlying Try.underlying61, part, Try.isAgg4, Try.sizeOf4, h, hk2, Result.andThen]
  intro h'
  omega
/-- One mark out of marks by value. -/
theorem wpIndexM {ops : Array Oper} {rest : List Oper} {o : Oper} {a : Act} {Q : Exit → Act → World → Prop} {w : World} (hgd : o.guard = none) (x y : Operand)
    (ho : o.op = .index 61 x y) {l : List Int} {n : Nat} (hx : a.eval x = .agg (mkA l)) (hy : a.eval y = .int .i64 (n : Int)) (hn : n < 21) {b : Bool} (hb : hasL l (n : Int) = b)
    (k : wpList Try.prog ops Q rest (a.put o.dst (.bool b)) w) : wpList Try.prog ops Q (o :: rest) a w := by
  subst hb
  refine wpList_plain hgd fun K hK => ?_
  unfold Oper.wp execOp
  simp only [ho, hx, hy, Sem.run_bind, Sem.run_pure, Result.andThen, run_indexM l n hn w]
  exact hK _ _ k

theorem below_nil {l : List Int} (hw : Within 0 20 l) : l.filter (fun x => decide (x < ((0 : Nat) : Int))) = [] := by
  rw [List.filter_eq_nil_iff]
  intro x hx
  have := (hw x hx).1
  simp; omega
theorem below_no {l : List Int} {k : Nat} (h : hasL l (k : Int) = false) : l.filter (fun x => decide (x < (k : Int))) = l.filter (fun x => decide (x < ((k + 1 : Nat) : Int))) := by
  apply List.filter_congr
  intro x hx
  have : x ≠ (k : Int) := by rintro rfl; simp [hasL, hx] at h
  rw [Bool.eq_iff_iff, decide_eq_true_iff, decide_eq_true_iff]
  omega
theorem below_yes {l : List Int} {k : Nat} (hr : Rise l) (h : hasL l (k : Int) = true) : l.filter (fun x => decide (x < (k : Int))) ++ [(k : Int)] = l.filter (fun x => decide (x < ((k + 1 : Nat) : Int))) := by
  have hk : (k : Int) ∈ l := by simpa [hasL] using h
  apply rise_ext
  · unfold Rise
    rw [List.pairwise_append]
    refine ⟨List.Pairwise.filter _ hr, by simp, fun x hx y hy => ?_⟩
    rw [List.mem_singleton] at hy
    rw [List.mem_filter] at hx
    have := hx.2
    simp at this
    omega
  · exact List.Pairwise.filter _ hr
  · intro x
    simp only [List.mem_append, List.mem_filter, List.mem_singleton, decide_eq_true_iff]
    constructor
    · rintro (⟨h1, h2⟩ | rfl)
      · exact ⟨h1, by omega⟩
      · exact ⟨hk, by omega⟩
    · rintro ⟨h1, h2⟩
      by_cases e : x = (k : Int)
      · exact .inr e
      · exact .inl ⟨h1, by omega⟩
theorem below_all {l : List Int} (hw : Within 0 20 l) : l.filter (fun x => decide (x < ((21 : Nat) : Int))) = l := by
  rw [List.filter_eq_self]
  intro x hx
  have := (hw x hx).2
  simp; omega

set_option maxHeartbeats 2000000 in
theorem placesIn_any (l : List Int) (w : World) (hr : Rise l) (hw : Within 0 20 l) :
    Calls Try.prog 54 #[.agg (mkA l)] w (IntsPost w.heap.size l w) := by
  have HRI := Lib.hid hr
  have HW := Lib.hid hw
  clear hr hw
  go_enter Try.func54, Try.ntmps54
  go_wp2_with (first
    | (refine wpBoxM rfl _ rfl rfl ?_; intro g1 w1 He1 HM1 HB1 HZ1)
    | refine wpLoadM rfl _ rfl rfl HM1.out ?_)
  clear He1 HM1 HZ1
  go_loopw [3, 7] (fun u i wr => ∃ (k : Nat) (acc : List Int), k ≤ 21 ∧ acc.length ≤ k ∧ i = .int .i64 k ∧ Hid (wr.ownsRow w.heap.size 3 1 u acc.length (I acc)) ∧ Hid (Below w.heap.size w wr) ∧ Hid (acc = l.filter (fun x => decide (x < (k : Int))))) (fun _ i _ => 21 - (intOf i).toNat)
  case atStart => exact ⟨0, [], by omega, by simp, rfl, World.ownsRow_nil _ _ _ _, HB1, (below_nil HW.out).symm⟩
  case round =>
    clear HB1
    obtain ⟨k, acc, hk, hal, rfl, HN, HB, HO⟩ := hrel
    by_cases hlt : k < 21
    · rcases h1 : hasL l (k : Int) with _ | _
      · have HO2 := Lib.hid (HO.out.trans (below_no h1))
        clear HO
        go_wp2_with (refine wpIndexM rfl _ _ rfl rfl rfl hlt h1 ?_)
        go_roundw
        case rel => exact ⟨k + 1, acc, by omega, by omega, by go_num, HN, HB, HO2⟩
        case measure => simp [intOf]; omega
      · have HO2 : Hid (acc ++ [(k : Int)] = l.filter (fun x => decide (x < ((k + 1 : Nat) : Int)))) := by rw [HO.out]; exact below_yes HRI.out h1
        clear HO
        go_wp2_with (first
          | refine wpIndexM rfl _ _ rfl rfl rfl hlt h1 ?_
          | (at_builtin; refine wpAppOne elemI rfl _ _ rfl w.heap.size _ (I acc) rfl (by rw [I_len]; exact HN.out) _ rfl rfl rfl (by rw [I_len]; omega) HB.out.size ?_; intro v3 w3 hown3 hg3; have HN3 := Lib.hid (put_second hown3); have HB3 := Lib.hid (HB.out.trans (below_own HN.out hg3 HB.out.size)); clear hown3 hg3))
        go_roundw
        case rel => exact ⟨k + 1, acc ++ [(k : Int)], by omega, by simp; omega, by go_num, by rw [← I_len]; exact HN3, HB3, HO2⟩
        case measure => simp [intOf]; omega
    · obtain rfl : k = 21 := by omega
      have HE : Hid (acc = l) := HO.out.trans (below_all HW.out)
      clear HO
      go_wp2_with fail
      go_ret
      exact ⟨_, rfl, by rw [← HE.out]; exact HN.out, HB.out⟩

end Go.Proofs.Ytcplooeohdhlkaa
