/- Walks: the program's route of a path. -/
import Derived.Test.YtoahfhidekmodaaDoorXI
namespace Go.Proofs.YtoahfhidekmodaaDoor.D1
open Go.RowKit Pth

/-- c ahead of the first one. -/
def hang (c : List UInt8) : List (List UInt8) → List (List UInt8)
  | [] => [c]
  | h :: t => (c ++ h) :: t
theorem hang_nil (l : List (List UInt8)) (h : ¬ l = []) : hang [] l = l := by
  cases l with
  | nil => exact absurd rfl h
  | cons x t => rfl
theorem hang_hang (a b : List UInt8) (l : List (List UInt8)) : hang a (hang b l) = hang (a ++ b) l := by cases l <;> simp [hang]
theorem splitK_ne (k : Nat) (s : List UInt8) : ¬ Lib.splitK [47] 0 k s = [] := by
  cases k with
  | zero => simp [Lib.splitK]
  | succ k => unfold Lib.splitK; split <;> simp
theorem splitK_other (c : UInt8) (hc : ¬ c = 47) (k : Nat) (r : List UInt8) (hk : k = 0 ∨ ¬ Lib.index r [47] = -1) : Lib.splitK [47] 0 k (c :: r) = hang [c] (Lib.splitK [47] 0 k r) := by
  cases k with
  | zero => rfl
  | succ k =>
    have hi : ¬ Lib.index r [47] = -1 := hk.resolve_left (by omega)
    have hge := Lib.index_ge r [47]
    have hp : ([47] : List UInt8).isPrefixOf (c :: r) = false := by simp [List.isPrefixOf, Ne.symm hc]
    have hb : (Lib.index r [47] == -1) = false := by simpa using hi
    have hix : Lib.index (c :: r) [47] = Lib.index r [47] + 1 := by rw [Lib.index, hp, hb]; simp
    have hb2 : (Lib.index r [47] + 1 == -1) = false := by rw [beq_eq_false_iff_ne]; omega
    obtain ⟨j, hj⟩ : ∃ j : Nat, Lib.index r [47] = j := ⟨(Lib.index r [47]).toNat, by omega⟩
    unfold Lib.splitK
    rw [hix, hb, hb2, hj]
    have e1 : ((j : Int) + 1).toNat = j + 1 := by omega
    rw [e1]
    simp [hang]
theorem splitAux_eq (s : List UInt8) : ∀ cur, splitAux cur s = hang cur.reverse (Lib.splitK [47] 0 (Lib.count s [47]) s) := by
  induction s with
  | nil =>
    intro cur
    rw [Lib.count_miss (by simp [Lib.index])]
    simp [splitAux, Lib.splitK, hang]
  | cons c r ih =>
    intro cur
    rw [splitAux]
    by_cases hc : c = 47
    · subst hc
      have hix : Lib.index (47 :: r) [47] = 0 := by rw [Lib.index]; simp [List.isPrefixOf]
      rw [if_pos rfl, Lib.count_cons_eq, Nat.add_comm, Lib.splitK, hix, ih, List.reverse_nil, hang_nil _ (splitK_ne _ _)]
      simp [hang]
    · rw [if_neg hc, Lib.count_cons_ne c 47 r hc, ih, splitK_other c hc _ r, hang_hang]
      · simp
      · by_cases hi : Lib.index r [47] = -1
        · exact .inl (Lib.count_miss hi)
        · exact .inr hi
theorem split_eq (s : ByteArray) : (Lib.splitB ⟨#[47]⟩ 0 (Lib.countB s ⟨#[47]⟩) s).map (·.data.toList) = splitL s.data.toList := by
  rw [Lib.splitB_data]
  show Lib.splitK [47] 0 (Lib.count s.data.toList [47]) s.data.toList = _
  rw [splitL, splitAux_eq, List.reverse_nil, hang_nil _ (splitK_ne _ _)]
theorem split_cells (s : ByteArray) : (Lib.splitB ⟨#[47]⟩ 0 (Lib.countB s ⟨#[47]⟩) s).map Value.string = S (splitL s.data.toList) := by
  rw [← split_eq, S, List.map_map]
  rfl
theorem split_count (s : ByteArray) : Lib.countB s ⟨#[47]⟩ + 1 = (splitL s.data.toList).length := by
  rw [← split_eq, List.length_map, Lib.splitB_all ⟨#[47]⟩ (by decide) 0 _ s rfl]

theorem split_any (s : ByteArray) (m : Int) (w : World) (hs : s.size ≤ 1000) (hm : w.cell? ⟨0, 0, none⟩ = some (.int .i64 m)) :
    Calls Tryd.prog 80 #[.string s, .string ⟨#[47]⟩] w fun e w' =>
      e = .returned (.slice (some ⟨w.heap.size, 0, none⟩) (splitL s.data.toList).length (splitL s.data.toList).length) ∧ w' = w.alloc (.cells (S (splitL s.data.toList)).toArray 9) := by
  have h := Tryd.split_at s ⟨#[47]⟩ m w (by omega) hm (by decide)
  rw [split_cells, split_count] at h
  exact h

theorem prefix_eq (s : ByteArray) : Lib.hasPrefix s.data.toList [47] = rootedL s.data.toList := by
  unfold Lib.hasPrefix
  cases s.data.toList with
  | nil => rfl
  | cons c r =>
    show ((47 == c) && true) = (c == 47)
    rw [Bool.and_true, Bool.beq_comm]

theorem prefix_any (s : ByteArray) (w : World) : Calls Tryd.prog 78 #[.string s, .string ⟨#[47]⟩] w fun e w' => e = .returned (.bool (rootedL s.data.toList)) ∧ w = w' := by
  refine (Tryd.has_prefix s ⟨#[47]⟩ w).mono ?_
  rintro e w' ⟨rfl, rfl⟩
  exact ⟨ret_bool (prefix_eq s), rfl⟩

/-- The blocks that stand when the parts are taken. -/
def Base (w : World) (b : Bool) (cs : Array Value) : World :=
  (((w.alloc (.cells #[.bool false, .slice none 0 0] 92)).alloc (.cells #[.bool b, .slice none 0 0] 92)).alloc ruleObj).alloc (.cells cs 9)
theorem Base.size (w : World) (b : Bool) (cs : Array Value) : (Base w b cs).heap.size = w.heap.size + 4 := by simp [Base]
theorem Base.at0 (w : World) (b : Bool) (cs : Array Value) : (Base w b cs).heap[w.heap.size]? = some (.cells #[.bool false, .slice none 0 0] 92) := by
  unfold Base
  rw [Below.heap_alloc _ _ _ (by simp; omega), Below.heap_alloc _ _ _ (by simp; omega), Below.heap_alloc _ _ _ (by simp)]
  exact heap_alloc_new w _
theorem Base.at1 (w : World) (b : Bool) (cs : Array Value) : (Base w b cs).heap[w.heap.size + 1]? = some (.cells #[.bool b, .slice none 0 0] 92) := by
  unfold Base
  rw [Below.heap_alloc _ _ _ (by simp), Below.heap_alloc _ _ _ (by simp)]
  have := heap_alloc_new (w.alloc (.cells #[.bool false, .slice none 0 0] 92)) (.cells #[.bool b, .slice none 0 0] 92)
  simpa using this
theorem Base.at2 (w : World) (b : Bool) (cs : Array Value) : (Base w b cs).heap[w.heap.size + 2]? = some ruleObj := by
  unfold Base
  rw [Below.heap_alloc _ _ _ (by simp)]
  have := heap_alloc_new ((w.alloc (.cells #[.bool false, .slice none 0 0] 92)).alloc (.cells #[.bool b, .slice none 0 0] 92)) ruleObj
  simpa using this
theorem Base.at3 (w : World) (b : Bool) (cs : Array Value) : (Base w b cs).heap[w.heap.size + 3]? = some (.cells cs 9) := by
  unfold Base
  have := heap_alloc_new (((w.alloc (.cells #[.bool false, .slice none 0 0] 92)).alloc (.cells #[.bool b, .slice none 0 0] 92)).alloc ruleObj) (.cells cs 9)
  simpa using this
theorem Base.below (w : World) (b : Bool) (cs : Array Value) : Below w.heap.size w (Base w b cs) :=
  ((((Below.refl _ _).alloc (Nat.le_refl _) _).alloc (by simp) _).alloc (by simp; omega) _).alloc (by simp; omega) _

theorem only_row {a w : World} {g : Nat} (h : a.grownBy w (some g)) (o : Nat) (u : Value) : a.grownBy (w.setCell ⟨g, o, none⟩ u) (some g) :=
  ⟨h.os, h.tape, h.output, by simpa [World.setCell] using h.size, fun i hi hne => (Below.heap_setCell w ⟨g, o, none⟩ u i (fun e => hne (by rw [e]))).trans (h.block i hi hne)⟩

/-- A route that the call has made. -/
def NewRoute (b : Bool) (l : List (List UInt8)) (w : World) (e : Ending) (w' : World) : Prop :=
  ∃ v, e = .returned (.agg #[.bool b, v]) ∧ w'.ownsRow w.heap.size 9 1 v l.length (S l) ∧ Below w.heap.size w w'

set_option maxHeartbeats 2000000 in
theorem routeOf_any (s : ByteArray) (m : Int) (w : World) (hs : s.size ≤ 1000) (hm : w.cell? ⟨0, 0, none⟩ = some (.int .i64 m)) :
    Calls Tryd.prog 67 #[.string s] w (NewRoute (rootedL s.data.toList) (partsL s.data.toList) w) := by
  have h0 : 0 < w.heap.size := World.block_lt_of_cell? w ⟨0, 0, none⟩ hm
  have hls := split_len s
  go_enter Tryd.func67, Tryd.ntmps67
  go_wp2_with fail
  refine (prefix_any s _).mono ?_
  rintro e w' ⟨rfl, rfl⟩
  go_wp2_with fail
  refine (rules_any _).mono ?_
  rintro e w' ⟨rfl, rfl⟩
  go_wp2_with fail
  refine (split_any s m _ hs ?_).mono ?_
  · rw [World.cell?_alloc_lt _ _ _ (by simp), World.cell?_alloc_lt _ _ _ (by simp), World.cell?_alloc_lt _ _ _ h0]
    exact hm
  rintro e w' ⟨rfl, rfl⟩
  go_wp2_with fail
  have hBs := Base.size w (rootedL s.data.toList) (S (splitL s.data.toList)).toArray
  have hB1 := Base.at1 w (rootedL s.data.toList) (S (splitL s.data.toList)).toArray
  have hB2 := Base.at2 w (rootedL s.data.toList) (S (splitL s.data.toList)).toArray
  have hB3 := Base.at3 w (rootedL s.data.toList) (S (splitL s.data.toList)).toArray
  have hB0 := Base.at0 w (rootedL s.data.toList) (S (splitL s.data.toList)).toArray
  have hBb := Base.below w (rootedL s.data.toList) (S (splitL s.data.toList)).toArray
  go_loopw [14] (fun i wr => ∃ (acc : List (List UInt8)) (k : Nat) (v : Value), k ≤ (splitL s.data.toList).length ∧ acc.length ≤ k ∧ i = .int .i64 k ∧ wr.heap[w.heap.size + 1]? = some (.cells #[.bool (rootedL s.data.toList), v] 92) ∧
      wr.ownsRow (w.heap.size + 4) 9 1 v acc.length (S acc) ∧ (Base w (rootedL s.data.toList) (S (splitL s.data.toList)).toArray).grownBy wr (some (w.heap.size + 1)) ∧
      Hid (partsL s.data.toList = partsFrom (rootedL s.data.toList) acc ((splitL s.data.toList).drop k))) (fun i _ => (splitL s.data.toList).length - (intOf i).toNat)
  case atStart => exact ⟨[], 0, .slice none 0 0, Nat.zero_le _, by simp, rfl, hB1, World.ownsRow_nil _ _ _ _, only_refl _ _, rfl⟩
  case round =>
    obtain ⟨acc, k, v, hk, hal, rfl, hcr, hown, hg, HS⟩ := hrel
    have hsz := hg.size
    rw [hBs] at hsz
    obtain ⟨sv, sc, hsv⟩ := own_slice hown
    subst hsv
    have c0 : wr.cell? ⟨w.heap.size + 1, 0, none⟩ = some (.bool (rootedL s.data.toList)) := by rw [Lib.cell_of_heap hcr]; rfl
    have c1 : wr.cell? ⟨w.heap.size + 1, 1, none⟩ = some (.slice sv acc.length sc) := by rw [Lib.cell_of_heap hcr]; rfl
    by_cases hlt : k < (splitL s.data.toList).length
    · have h3 : wr.heap[w.heap.size + 1 + 1 + 1]? = some (.cells (S (splitL s.data.toList)).toArray 9) := by
        rw [hg.block (w.heap.size + 1 + 1 + 1) (by omega) (by simp; omega)]; exact hB3
      have h2 : wr.heap[w.heap.size + 1 + 1]? = some ruleObj := by
        rw [hg.block (w.heap.size + 1 + 1) (by omega) (by simp)]; exact hB2
      have hcell : wr.cell? ⟨w.heap.size + 1 + 1 + 1, k, none⟩ = some (.string ⟨((splitL s.data.toList)[k]).toArray⟩) := by
        rw [Lib.cell_of_heap h3, List.getElem?_toArray, S_at hlt]
      have HS2 : Hid (partsL s.data.toList = partsFrom (rootedL s.data.toList) (pstep (rootedL s.data.toList) acc ((splitL s.data.toList)[k])) ((splitL s.data.toList).drop (k + 1))) := parts_step hlt rfl HS.out
      have hpl : ∀ p, (pstep (rootedL s.data.toList) acc p).length ≤ acc.length + 1 := fun p => by
        unfold pstep
        repeat' split
        all_goals first | omega | (simp; done) | (simp; omega)
      generalize (splitL s.data.toList)[k] = p at hcell HS2
      have hpl' := hpl p
      clear HS hpl h3
      go_wp2_with fail
      refine (takePart_any acc p _ (w.heap.size + 4) _ _ _ hown (by omega) (by omega) h2).mono ?_
      rintro e w2 ⟨v2, rfl, hown2, hg2⟩
      obtain ⟨sv2, sc2, hsv2⟩ := own_slice hown2
      subst hsv2
      have k1 : w2.heap[w.heap.size + 1]? = some (.cells #[.bool (rootedL s.data.toList), .slice sv acc.length sc] 92) := by
        rw [hg2.block (w.heap.size + 1) (by omega) (fun e => by have := (hown.lt _ e.symm).1; omega)]; exact hcr
      have d0 : w2.cell? ⟨w.heap.size + 1, 0, none⟩ = some (.bool (rootedL s.data.toList)) := by rw [Lib.cell_of_heap k1]; rfl
      have d1 : w2.cell? ⟨w.heap.size + 1, 1, none⟩ = some (.slice sv acc.length sc) := by rw [Lib.cell_of_heap k1]; rfl
      have f0 : w2.frozen? ⟨w.heap.size + 1, 0, none⟩ = false := Lib.frozen_of_heap k1 0
      have f1 : w2.frozen? ⟨w.heap.size + 1, 1, none⟩ = false := Lib.frozen_of_heap k1 1
      go_wp2_with fail
      go_roundw
      case rel =>
        exact ⟨pstep (rootedL s.data.toList) acc p, k + 1, _, by omega, by omega, by go_num, (block_set (block_set k1)).trans rfl, stored_two hown2 k1,
          only_row (only_row (only_trans hg hg2 (fun i hi => .inr (by rw [hBs]; exact (hown.lt _ hi).1))) _ _) _ _, HS2⟩
      case measure => simp [intOf]; omega
    · have h0' : wr.heap[w.heap.size]? = some (.cells #[.bool false, .slice none 0 0] 92) := by
        rw [hg.block w.heap.size (by omega) (by simp)]; exact hB0
      have d0 : wr.cell? ⟨w.heap.size, 0, none⟩ = some (.bool false) := by rw [Lib.cell_of_heap h0']; rfl
      have d1 : wr.cell? ⟨w.heap.size, 1, none⟩ = some (.slice none 0 0) := by rw [Lib.cell_of_heap h0']; rfl
      have f0 : wr.frozen? ⟨w.heap.size, 0, none⟩ = false := Lib.frozen_of_heap h0' 0
      have f1 : wr.frozen? ⟨w.heap.size, 1, none⟩ = false := Lib.frozen_of_heap h0' 1
      have HE := Lib.hid (parts_end (k := k) (by omega) HS.out)
      have hbw : Below w.heap.size w wr := hBb.trans ⟨hg.os, hg.tape, hg.output, hg.size, fun i hi => hg.block i (by omega) (by simp; omega)⟩
      clear HS
      go_wp2_with fail
      exact bodyPost_ret (v := .agg #[.bool (rootedL s.data.toList), .slice sv acc.length sc]) (by simp [results, Tryd.results67, go_sem, d0, d1]) rfl
        ⟨_, rfl, by rw [HE.out]; exact own_base (stored_two hown h0') (by omega), (hbw.setCell (p := ⟨w.heap.size, 0, none⟩) (Nat.le_refl _) _).setCell (p := ⟨w.heap.size, 1, none⟩) (Nat.le_refl _) _⟩

end Go.Proofs.YtoahfhidekmodaaDoor.D1
