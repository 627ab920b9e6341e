/- Marks: places of a pattern as an array of bools; the program's functions on them. -/
import Derived.Test.YtcplooeohdhlkaaPf
import Derived.Deep.WholeRow
import Derived.Laws.RangeAny
namespace Go.Proofs.Ytcplooeohdhlkaa
open Go.RowKit Pth

/-- The marks of a list of places. -/
def mkA (l : List Int) : Array Value := ((List.range 21).map fun (k : Nat) => Value.bool (hasL l (k : Int))).toArray
theorem mkA_size (l : List Int) : (mkA l).size = 21 := by simp [mkA]
theorem mkA_at (l : List Int) (k : Nat) (hk : k < 21) : (mkA l)[k]? = some (.bool (hasL l (k : Int))) := by simp [mkA, hk]
theorem mkA_ext {a b : List Int} (h : ∀ k : Nat, k < 21 → ((k : Int) ∈ a ↔ (k : Int) ∈ b)) : mkA a = mkA b := by
  unfold mkA
  congr 1
  apply List.map_congr_left
  intro k hk
  rw [List.mem_range] at hk
  simp only [hasL, h k hk]
theorem mkA_put (l : List Int) (n : Nat) : (mkA l).setIfInBounds n (.bool true) = mkA (putL l n) := by
  apply Array.ext_getElem?
  intro i
  rw [Array.getElem?_setIfInBounds]
  by_cases hi : i < 21
  · rw [mkA_at _ i hi]
    by_cases h : n = i
    · subst h
      have e : (n : Int) ∈ putL l (n : Int) := mem_put.2 (.inl rfl)
      rw [if_pos rfl, if_pos (by rw [mkA_size]; exact hi), mkA_at _ n hi, hasL, decide_eq_true e]
    · rw [if_neg h, mkA_at _ i hi]
      have e : ((i : Int) ∈ putL l (n : Int)) ↔ (i : Int) ∈ l := by
        rw [mem_put]
        constructor
        · rintro (h' | h')
          · omega
          · exact h'
        · exact .inr
      simp only [hasL, e]
  · have h1 : (mkA l)[i]? = none := by rw [Array.getElem?_eq_none]; rw [mkA_size]; omega
    have h2 : (mkA (putL l n))[i]? = none := by rw [Array.getElem?_eq_none]; rw [mkA_size]; omega
    rw [h1, h2]
    split
    · split
      · rename_i _ h3; rw [mkA_size] at h3; omega
      · rfl
    · rfl
theorem mkA_one (l : List Int) : (mkA l).all (·.oneCell') = true := by
  rw [Array.all_eq_true]
  intro i hi
  have : (mkA l)[i] = .bool (hasL l (i : Int)) := by
    have := mkA_at l i (by rw [mkA_size] at hi; exact hi)
    rw [Array.getElem?_eq_getElem hi] at this
    exact Option.some.inj this
  rw [this]; rfl
theorem mkA_zero : #[Value.bool false, .bool false, .bool false, .bool false, .bool false, .bool false, .bool false, .bool false, .bool false, .bool false, .bool false, .bool false, .bool false, .bool false, .bool false, .bool false, .bool false, .bool false, .bool false, .bool false, .bool false] = mkA [] := by rfl

theorem sz61 (l : List Int) : (Try.prog.info? 61).map (·.size) = some (mkA l).size := by rw [mkA_size]; kernel_rfl

/-- A block holds marks. -/
def MarksAt (w : World) (b : Nat) (l : List Int) : Prop := w.heap[b]? = some (.cells (mkA l) 61)
theorem MarksAt.cell {w : World} {b : Nat} {l : List Int} (h : MarksAt w b l) (k : Nat) (hk : k < 21) : w.cell? ⟨b, k, none⟩ = some (.bool (hasL l (k : Int))) := by
  rw [cell_of_row w b k _ _ (0, 0) h, mkA_at l k hk]
theorem MarksAt.frozen {w : World} {b : Nat} {l : List Int} (h : MarksAt w b l) (k : Nat) : w.frozen? ⟨b, k, none⟩ = false := Lib.frozen_of_heap h k
theorem MarksAt.below {w w' : World} {b : Nat} {l : List Int} (h : MarksAt w b l) (hb : Below w.heap.size w w') : MarksAt w' b l :=
  (hb.block b (lt_of_block h)).trans h
theorem MarksAt.put {w : World} {b : Nat} {l : List Int} (h : MarksAt w b l) (n : Nat) : MarksAt (w.setCell ⟨b, n, none⟩ (.bool true)) b (putL l n) := by
  unfold MarksAt
  rw [heap_setCell_same w b n _ _ _ h, mkA_put]
theorem mkA_same (l : List Int) (n : Nat) : (mkA l).setIfInBounds n (.bool (hasL l (n : Int))) = mkA l := by
  apply Array.ext_getElem?
  intro i
  rw [Array.getElem?_setIfInBounds]
  split
  · rename_i h
    subst h
    split
    · rename_i h2
      rw [mkA_size] at h2
      rw [mkA_at l n h2]
    · rename_i h2
      rw [Array.getElem?_eq_none]
      omega
  · rfl
theorem MarksAt.same {w : World} {b : Nat} {l : List Int} (h : MarksAt w b l) (n : Nat) : MarksAt (w.setCell ⟨b, n, none⟩ (.bool (hasL l (n : Int)))) b l := by
  unfold MarksAt
  rw [heap_setCell_same w b n _ _ _ h, mkA_same]
theorem MarksAt.beside {w : World} {b b' : Nat} {l : List Int} (h : MarksAt w b l) (hne : b ≠ b') (n : Nat) (u : Value) : MarksAt (w.setCell ⟨b', n, none⟩ u) b l :=
  (Below.heap_setCell w ⟨b', n, none⟩ u b hne).trans h
theorem MarksAt.load {w : World} {b : Nat} {l : List Int} (h : MarksAt w b l) : (loadVar 61 ⟨b, 0, none⟩).run Try.prog w = .ok (.agg (mkA l)) w :=
  run_loadVar_row w b _ _ _ (0, 0) _ h Try.underlying61 rfl (sz61 l)
theorem MarksAt.store {w : World} {b : Nat} {l m : List Int} (h : MarksAt w b l) : ∃ w', (storeVar 61 ⟨b, 0, none⟩ (.agg (mkA m))).run Try.prog w = .ok () w' ∧ MarksAt w' b m ∧ w.grownBy w' (some b) := by
  refine ⟨_, run_storeVar_row w b _ _ _ (mkA m) h (sz61 m) (by rw [mkA_size, mkA_size]) (mkA_one m), setRow_heap w b _ _ _ _ h, ?_⟩
  exact ⟨rfl, rfl, rfl, by simp, fun k _ hk => setRow_other w b k _ (fun e => hk (by rw [e]))⟩

theorem marks_new (w : World) (l : List Int) (o : Obj) : MarksAt ((w.alloc (.cells (mkA l) 61)).alloc o) w.heap.size l :=
  (Below.heap_alloc _ o _ (by simp)).trans (heap_alloc_last w _)
theorem marks_last (w : World) (l : List Int) : MarksAt (w.alloc (.cells (mkA l) 61)) w.heap.size l := heap_alloc_last w _
theorem marks_last2 (w : World) (l : List Int) (o : Obj) : MarksAt ((w.alloc o).alloc (.cells (mkA l) 61)) (w.heap.size + 1) l := by
  have h := heap_alloc_last (w.alloc o) (.cells (mkA l) 61)
  have e : (w.alloc o).heap.size = w.heap.size + 1 := by simp
  rw [e] at h
  exact h

/-- Marks as one value out of their block. -/
theorem wpLoadM {ops : Array Oper} {rest : List Oper} {o : Oper} {a : Act} {Q : Exit → Act → World → Prop} {w : World} (hgd : o.guard = none) (x : Operand)
    (ho : o.op = .load 61 x) {b : Nat} {l : List Int} (hx : a.eval x = .pointer (some ⟨b, 0, none⟩)) (h : MarksAt w b l)
    (k : wpList Try.prog ops Q rest (a.put o.dst (.agg (mkA l))) w) : wpList Try.prog ops Q (o :: rest) a w := by
  refine wpList_plain hgd fun K hK => ?_
  unfold Oper.wp execOp
  simp only [ho, hx, Instr.loadAt, Instr.sureAddr, Sem.run_bind, Sem.run_pure, Result.andThen, h.load]
  exact hK _ _ k
/-- Marks as one value into their block. -/
theorem wpStoreM {ops : Array Oper} {rest : List Oper} {o : Oper} {a : Act} {Q : Exit → Act → World → Prop} {w : World} (hgd : o.guard = none) (x y : Operand)
    (ho : o.op = .store 61 x y) {b : Nat} {l m : List Int} (hx : a.eval x = .pointer (some ⟨b, 0, none⟩)) (hy : a.eval y = .agg (mkA m)) (h : MarksAt w b l)
    (k : ∀ w', MarksAt w' b m → w.grownBy w' (some b) → wpList Try.prog ops Q rest (a.put o.dst undef) w') : wpList Try.prog ops Q (o :: rest) a w := by
  refine wpList_plain hgd fun K hK => ?_
  obtain ⟨w', hst, h1, h2⟩ := h.store (m := m)
  unfold Oper.wp execOp
  simp only [ho, hx, hy, Instr.storeAt, Instr.sureAddr, Sem.run_bind, Sem.run_pure, Result.andThen, hst]
  exact hK _ _ (k w' h1 h2)
/-- Marks into a new block. -/
theorem wpBoxM {ops : Array Oper} {rest : List Oper} {o : Oper} {a : Act} {Q : Exit → Act → World → Prop} {w : World} (hgd : o.guard = none) (x : Operand)
    (ho : o.op = .box 61 x) {l : List Int} (hx : a.eval x = .agg (mkA l))
    (k : ∀ g w', Hid (g = w.heap.size) → Hid (MarksAt w' g l) → Hid (Below w.heap.size w w') → Hid (w'.heap.size = g + 1) → wpList Try.prog ops Q rest (a.put o.dst (.pointer (some ⟨g, 0, none⟩))) w') : wpList Try.prog ops Q (o :: rest) a w := by
  refine wpList_plain hgd fun K hK => ?_
  have h := k w.heap.size (w.alloc (.cells (mkA l) 61)) rfl (marks_last w l) ((Below.refl _ w).alloc (Nat.le_refl _) _) (by simp [Hid])
  have hb : (Instr.box 61 (.agg (mkA l))).run Try.prog w = .ok (.pointer (some ⟨w.heap.size, 0, none⟩)) (w.alloc (.cells (mkA l) 61)) := by go_simp
  unfold Oper.wp execOp
  simp only [ho, hx, Sem.run_bind, Sem.run_pure, Result.andThen, hb]
  exact hK _ _ h
/-- A new block of no marks. -/
theorem wpAllocM {ops : Array Oper} {rest : List Oper} {o : Oper} {a : Act} {Q : Exit → Act → World → Prop} {w : World} (hgd : o.guard = none)
    (ho : o.op = .alloc 61)
    (k : ∀ g w', Hid (g = w.heap.size) → Hid (MarksAt w' g []) → Hid (Below w.heap.size w w') → Hid (w'.heap.size = g + 1) → wpList Try.prog ops Q rest (a.put o.dst (.pointer (some ⟨g, 0, none⟩))) w') : wpList Try.prog ops Q (o :: rest) a w := by
  refine wpList_plain hgd fun K hK => ?_
  have h := k w.heap.size (w.alloc (.cells (mkA []) 61)) rfl (marks_last w []) ((Below.refl _ w).alloc (Nat.le_refl _) _) (by simp [Hid])
  have hb : (Instr.alloc 61 true (.tuple #[])).run Try.prog w = .ok (.pointer (some ⟨w.heap.size, 0, none⟩)) (w.alloc (.cells (mkA []) 61)) := by rw [← mkA_zero]; go_simp
  unfold Oper.wp execOp
  simp only [ho, Sem.run_bind, Sem.run_pure, Result.andThen, hb]
  exact hK _ _ h
/-- A result that lies in a block of marks. -/
theorem results_marks {fn : Func} {p : Tmp} (h : fn.results = #[.cell p 61]) {tmps : Array Value} {w : World} {b : Nat} {l : List Int} (hp : tmps.getD p undef = .pointer (some ⟨b, 0, none⟩)) (hm : MarksAt w b l) :
    (results fn tmps).run Try.prog w = .ok (.agg (mkA l)) w := by
  have hp' : tmps[p]?.getD undef = .pointer (some ⟨b, 0, none⟩) := by simpa using hp
  simp only [results, h]
  simp [Sem.run_bind, Result.andThen, hp', asAddr, hm.load]

set_option maxHeartbeats 1000000 in
theorem passStars_any (p : ByteArray) (l : List Int) (w : World) (hp : p.size ≤ 20) :
    Calls Try.prog 77 #[.string p, .agg (mkA l)] w fun e w' => e = .returned (.agg (mkA (closeL p.data.toList l))) ∧ Below w.heap.size w w' := by
  have HZ := Lib.hid mkA_zero
  go_enter Try.func77, Try.ntmps77
  go_wp2_with fail
  go_loopw [8] (fun i wr => ∃ (cur : List Int) (k : Nat), k ≤ p.size ∧ i = .int .i64 k ∧ Hid (MarksAt wr w.heap.size cur) ∧ Hid (MarksAt wr (w.heap.size + 1) []) ∧ Hid (Below w.heap.size w wr) ∧
     Hid (closeL p.data.toList l = closeFrom (p.data.toList.drop k) k cur)) (fun i _ => p.size - (intOf i).toNat)
  case atStart => exact ⟨l, 0, Nat.zero_le _, rfl, marks_new w l _, by rw [HZ.out]; exact marks_last2 w [] _, ((Below.refl _ w).alloc (Nat.le_refl _) _).alloc (by simp) _, by unfold Hid closeL; simp⟩
  case round =>
    obtain ⟨cur, k, hk, rfl, HA, HB, HW, HO⟩ := hrel
    by_cases hlt : k < p.size
    · have hcell := HA.out.cell k (by omega)
      have HN := Lib.hid (HO.out.trans (close_next hlt cur))
      rcases h1 : hasL cur (k : Int) with _ | _
      · rw [h1] at hcell
        have HN2 : Hid (closeL p.data.toList l = closeFrom (p.data.toList.drop (k + 1)) (k + 1) cur) := by
          have := HN.out
          rwa [if_neg (fun h => absurd h.2 (by simpa [hasL] using h1))] at this
        clear HN HO h1
        go_wp2_with fail
        go_roundw
        case rel => exact ⟨cur, k + 1, by omega, by go_num, HA, HB, HW, HN2⟩
        case measure => simp [intOf]; omega
      · rw [h1] at hcell
        by_cases h42 : p[k].toNat = 42
        · have c1 : ((p[k].toNat : Int) == 42) = true := by simp [h42]
          have hcell1 := HA.out.cell (k + 1) (by omega)
          have hfz := HA.out.frozen (k + 1)
          have HA2 := Lib.hid (HA.out.put (k + 1))
          have HB2 := Lib.hid (HB.out.beside (b' := w.heap.size) (by omega) (k + 1) (.bool true))
          have HW2 := Lib.hid (HW.out.setCell (p := ⟨w.heap.size, k + 1, none⟩) (Nat.le_refl _) (.bool true))
          have HN2 : Hid (closeL p.data.toList l = closeFrom (p.data.toList.drop (k + 1)) (k + 1) (putL cur ((k + 1 : Nat) : Int))) := by
            have := HN.out
            rwa [if_pos ⟨UInt8.toNat_inj.1 h42, by simpa [hasL] using h1⟩] at this
          clear HN HO h1 h42
          generalize hasL cur ((k + 1 : Nat) : Int) = x at hcell1
          go_wp2_with fail
          go_roundw
          case rel => exact ⟨_, k + 1, by omega, by go_num, HA2, HB2, HW2, HN2⟩
          case measure => simp [intOf]; omega
        · have c1 : ((p[k].toNat : Int) == 42) = false := by simp; omega
          have HN2 : Hid (closeL p.data.toList l = closeFrom (p.data.toList.drop (k + 1)) (k + 1) cur) := by
            have := HN.out
            rwa [if_neg (fun h => absurd h.1 (fun h' : p[k] = 42 => h42 (by rw [h']; rfl)))] at this
          clear HN HO h1 h42
          go_wp2_with fail
          go_roundw
          case rel => exact ⟨cur, k + 1, by omega, by go_num, HA, HB, HW, HN2⟩
          case measure => simp [intOf]; omega
    · have HN2 : Hid (closeL p.data.toList l = cur) := by
        have := HO.out
        rwa [List.drop_of_length_le (by rw [len_eq]; omega)] at this
      clear HO
      go_wp2_with (first
        | refine wpLoadM rfl _ rfl rfl HA.out ?_
        | (refine wpStoreM rfl _ _ rfl rfl rfl HB.out ?_; intro w2 h2 hg2; have HM := Lib.hid h2; have HG := Lib.hid hg2; clear h2 hg2))
      refine bodyPost_ret (results_marks rfl rfl HM.out) rfl ?_
      exact ⟨by rw [HN2.out] <;> rfl, HW.out.grown HG.out HW.out.size (fun k hk => by injection hk with hk; omega)⟩

end Go.Proofs.Ytcplooeohdhlkaa
