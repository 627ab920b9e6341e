/- Walks: the way from one place to another, by the program. -/
import Derived.Test.YtkdplfmfmalllaaDoorT
namespace Go.Proofs.YtkdplfmfmalllaaDoor
open Go.RowKit Pth

/-- As many ways up as parts the first has behind those alike, then the second's behind these. -/
def wayL (a b : List (List UInt8)) : List (List UInt8) := List.replicate (a.length - alikeN a b) dots ++ b.drop (alikeN a b)

theorem row_cut {w : World} {a : Option Addr} {c : Nat} {l : List (List UInt8)} (h : RowAt w (.slice a l.length c) l) (k : Nat) (hk : k ≤ l.length) (hc : l.length ≤ c) :
    RowAt w (.slice (if c = k then a else a.map (·.add (k * 1))) (l.length - k) (c - k)) (l.drop k) := by
  obtain ⟨a', c', hv, hat⟩ := h
  injection hv with h1 h2 h3
  subst h1 h3
  refine ⟨_, _, by rw [List.length_drop], fun j hj => ?_⟩
  rw [List.length_drop] at hj
  obtain ⟨g, o, ha, hg, hcell⟩ := hat (k + j) (by omega)
  have e : (⟨g, o, none⟩ : Addr).add (k * 1) = ⟨g, o + k, none⟩ := by unfold Addr.add; split <;> simp_all
  refine ⟨g, o + k, ?_, hg, ?_⟩
  · rw [if_neg (by omega), ha, Option.map_some, e]
  · rw [List.getElem_drop, Nat.add_assoc]; exact hcell

/-- A slice cut from k on. -/
theorem run_cut (a : Option Addr) (n c k : Nat) (hk : k ≤ n) (hc : n ≤ c) (W : World) :
    (Instr.slice 41 (.slice a n c) (some (.int .i64 (k : Int))) none none).run Tryd.prog W = .ok (.slice (if c = k then a else a.map (·.add (k * 1))) (n - k) (c - k)) W := by
  have h1 : (k : Int) ≤ n := by omega
  by_cases h : c = k
  · go_simp
  · go_simp

/-- The world behind the count: three blocks of the call's own. -/
def Laid3 (w : World) (o1 o2 o3 : Obj) (w5 : World) : Prop := Below (w.heap.size + 3) (((w.alloc o1).alloc o2).alloc o3) w5
theorem Laid3.size {w w5 : World} {o1 o2 o3 : Obj} (h : Laid3 w o1 o2 o3 w5) : w.heap.size + 3 ≤ w5.heap.size := by
  have := Below.size h; simp at this; omega
theorem Laid3.one {w w5 : World} {o1 o2 o3 : Obj} (h : Laid3 w o1 o2 o3 w5) : w5.heap[w.heap.size]? = some o1 := by
  rw [Below.block h _ (by omega), Below.heap_alloc _ _ _ (by simp; omega), Below.heap_alloc _ _ _ (by simp)]
  exact heap_alloc_new w o1
theorem Laid3.two {w w5 : World} {o1 o2 o3 : Obj} (h : Laid3 w o1 o2 o3 w5) : w5.heap[w.heap.size + 1]? = some o2 := by
  rw [Below.block h _ (by omega), Below.heap_alloc _ _ _ (by simp)]
  have := heap_alloc_new (w.alloc o1) o2
  simpa using this
theorem Laid3.three {w w5 : World} {o1 o2 o3 : Obj} (h : Laid3 w o1 o2 o3 w5) : w5.heap[w.heap.size + 1 + 1]? = some o3 := by
  rw [Below.block h _ (by omega)]
  have := heap_alloc_new ((w.alloc o1).alloc o2) o3
  simpa using this
theorem Laid3.below {w w5 : World} {o1 o2 o3 : Obj} (h : Laid3 w o1 o2 o3 w5) : Below w.heap.size w w5 :=
  ((((Below.refl _ _).alloc (Nat.le_refl _) o1).alloc (by simp) o2).alloc (by simp; omega) o3).trans (Below.mono h (by omega))

set_option maxHeartbeats 2000000 in
theorem wayBetween_any (a b : List (List UInt8)) (ra rb : Bool) (aa ab : Option Addr) (ca cb : Nat) (w : World) (hra : RowAt w (.slice aa a.length ca) a) (hrb : RowAt w (.slice ab b.length cb) b) (hla : a.length ≤ 1000) (hlb : b.length ≤ 1000)
    (hca : a.length ≤ ca) (hcb : b.length ≤ cb) (hma : ca ≤ maxLen) (hmb : cb ≤ maxLen) :
    Calls Tryd.prog 45 #[.agg #[.bool ra, .slice aa a.length ca], .agg #[.bool rb, .slice ab b.length cb]] w (NewRoute false (wayL a b) w) := by
  have hal := alike_le a b
  have r1 := row_alloc (row_alloc (row_alloc hra (.cells #[.bool ra, .slice aa a.length ca] 43)) (.cells #[.bool rb, .slice ab b.length cb] 43)) (.cells #[.bool false, .slice none 0 0] 43)
  have r2 := row_alloc (row_alloc (row_alloc hrb (.cells #[.bool ra, .slice aa a.length ca] 43)) (.cells #[.bool rb, .slice ab b.length cb] 43)) (.cells #[.bool false, .slice none 0 0] 43)
  have R1 := Lib.hid r1
  have R2 := Lib.hid r2
  have RB := Lib.hid hrb
  clear r1 r2 hra hrb
  unfold maxLen at hma hmb
  obtain ⟨L, HL⟩ : ∃ L, Hid (wayL a b = L) := ⟨_, rfl⟩
  rw [HL.out]
  unfold wayL at HL
  go_enter Tryd.func45, Tryd.ntmps45
  go_wp2_with fail
  refine (partsAlike_any a b _ _ _ _ _ R1.out R2.out (by omega) (by omega)).mono ?_
  rintro e w5 ⟨rfl, hb5⟩
  generalize alikeN a b = k at hal HL
  have hb5' : Laid3 w (.cells #[.bool ra, .slice aa a.length ca] 43) (.cells #[.bool rb, .slice ab b.length cb] 43) (.cells #[.bool false, .slice none 0 0] 43) w5 := hb5.mono (by simp)
  clear hb5 R1 R2
  have hz := hb5'.size
  have q0 : ∀ o, (w5.alloc o).cell? ⟨w.heap.size, 1, none⟩ = some (.slice aa a.length ca) := fun o => by rw [World.cell?_alloc_lt _ _ _ (by show w.heap.size < _; omega), Lib.cell_of_heap hb5'.one]; rfl
  obtain ⟨A1, hA1⟩ : ∃ A, Hid (A = if ca = k then aa else aa.map (·.add (k * 1))) := ⟨_, rfl⟩
  have cut1 : ∀ W, (Instr.slice 41 (.slice aa a.length ca) (some (.int .i64 (k : Int))) none none).run Tryd.prog W = .ok (.slice A1 (a.length - k) (ca - k)) W := fun W => by
    rw [hA1.out]; exact run_cut aa a.length ca k hal.1 hca W
  obtain ⟨n, HN⟩ : ∃ n, Hid (a.length - k = n) := ⟨_, rfl⟩
  have hn : n ≤ 1000 := by have := HN.out; omega
  rw [HN.out] at cut1 HL
  go_wp2_with fail
  clear cut1
  go_loopw [15] (fun i wr => ∃ (j : Nat) (v : Value), j ≤ n ∧ i = .int .i64 j ∧ wr.heap[w5.heap.size]? = some (.cells #[.bool false, v] 43) ∧ wr.ownsRow (w5.heap.size + 1) 9 1 v j (S (List.replicate j dots)) ∧
     (w5.alloc (.cells #[.bool false, .slice none 0 0] 43)).grownBy wr (some w5.heap.size)) (fun i _ => n - (intOf i).toNat)
  case atStart => exact ⟨0, .slice none 0 0, Nat.zero_le _, rfl, heap_alloc_new w5 _, World.ownsRow_nil _ _ _ _, only_refl _ _⟩
  case round =>
    obtain ⟨j, v, hj, rfl, hblk, hown, hg⟩ := hrel
    have hsz : w5.heap.size + 1 ≤ wr.heap.size := by have := hg.size; simpa using this
    obtain ⟨sv, sc, hsv⟩ := own_slice hown
    subst hsv
    have c0 : wr.cell? ⟨w5.heap.size, 0, none⟩ = some (.bool false) := by rw [Lib.cell_of_heap hblk]; rfl
    have c1 : wr.cell? ⟨w5.heap.size, 1, none⟩ = some (.slice sv j sc) := by rw [Lib.cell_of_heap hblk]; rfl
    by_cases hlt : j < n
    · have hown' : wr.ownsRow (w5.heap.size + 1) 9 1 (.slice sv j sc) (List.replicate j dots).length (S (List.replicate j dots)) := by rw [List.length_replicate]; exact hown
      go_wp2_with (at_builtin; refine wpApp rfl _ _ rfl (w5.heap.size + 1) (.slice sv j sc) (List.replicate j dots) dots rfl rfl hown' _ rfl rfl (by rw [List.length_replicate]; omega) hsz ?_)
      intro v' w2 hown2 hb2 hg2
      obtain ⟨sv', sc', hsv'⟩ := own_slice hown2
      subst hsv'
      have k1 : w2.heap[w5.heap.size]? = some (.cells #[.bool false, .slice sv j sc] 43) := by
        rw [hg2.block w5.heap.size (by omega) (fun e => by have := (hown.lt _ e.symm).1; omega)]; exact hblk
      have d1 : w2.cell? ⟨w5.heap.size, 1, none⟩ = some (.slice sv j sc) := by rw [Lib.cell_of_heap k1]; rfl
      have f1 : w2.frozen? ⟨w5.heap.size, 1, none⟩ = false := Lib.frozen_of_heap k1 1
      go_wp2_with fail
      go_roundw
      case rel =>
        refine ⟨j + 1, _, by omega, by go_num, (block_set k1).trans rfl, ?_, only_row (only_trans hg hg2 (fun i hi => .inr (by have := (hown.lt _ hi).1; simpa using this))) _ _⟩
        have := own_set (o := 1) (u := .slice sv' (List.replicate j dots ++ [dots]).length sc') hown2 k1 (by decide)
        simpa [List.replicate_succ'] using this
      case measure => simp [intOf]; omega
    · obtain rfl : j = n := by omega
      have hgb : ∀ i, i < w5.heap.size → wr.heap[i]? = w5.heap[i]? := fun i hi => by
        rw [hg.block i (by simp; omega) (by simp; omega), Below.heap_alloc _ _ _ hi]
      have b2 : wr.heap[w.heap.size + 1]? = some (.cells #[.bool rb, .slice ab b.length cb] 43) := by rw [hgb _ (by omega)]; exact hb5'.two
      have b3 : wr.heap[w.heap.size + 1 + 1]? = some (.cells #[.bool false, .slice none 0 0] 43) := by rw [hgb _ (by omega)]; exact hb5'.three
      have c2 : wr.cell? ⟨w.heap.size + 1, 1, none⟩ = some (.slice ab b.length cb) := by rw [Lib.cell_of_heap b2]; rfl
      have hbw : Below w.heap.size w wr := hb5'.below.trans ⟨hg.os, hg.tape, hg.output, Nat.le_trans (by simp) hg.size, fun i hi => by rw [hgb i (by omega)]⟩
      have hrow : RowAt wr (.slice ab b.length cb) b := row_below RB.out hbw
      have hrow2 := row_cut hrow k hal.2 hcb
      obtain ⟨A2, hA2⟩ : ∃ A, Hid (A = if cb = k then ab else ab.map (·.add (k * 1))) := ⟨_, rfl⟩
      rw [← hA2.out] at hrow2
      have cut2 : ∀ W, (Instr.slice 41 (.slice ab b.length cb) (some (.int .i64 (k : Int))) none none).run Tryd.prog W = .ok (.slice A2 (b.length - k) (cb - k)) W := fun W => by
        rw [hA2.out]; exact run_cut ab b.length cb k hal.2 hcb W
      obtain ⟨l2, hl2⟩ : ∃ l2, Hid (b.drop k = l2) := ⟨_, rfl⟩
      have hln : b.length - k = l2.length := by rw [← hl2.out, List.length_drop]
      rw [hl2.out] at hrow2 HL
      rw [hln] at hrow2 cut2
      have hl2n : l2.length ≤ 1000 := by omega
      have hown' : wr.drew.ownsRow (w5.heap.size + 1) 9 1 (.slice sv j sc) (List.replicate j dots).length (S (List.replicate j dots)) := by rw [List.length_replicate]; exact hown
      have HR : Hid (RowAt wr.drew (.slice A2 l2.length (cb - k)) l2) := hrow2
      clear hrow hrow2 hgb hln hl2
      go_wp2_with fail
      go_still_tail 6, (by kernel_rfl)
      refine wpAppRow rfl _ _ rfl (w5.heap.size + 1) (.slice sv j sc) (List.replicate j dots) l2 A2 (cb - k) rfl hown' rfl HR.out (by rw [List.length_replicate]; omega) hsz ?_
      intro v' w2 hown2 hg2
      rw [HL.out] at hown2
      obtain ⟨sv', sc', hsv'⟩ := own_slice hown2
      subst hsv'
      have hr : ∀ i, i < w5.heap.size + 1 → w2.heap[i]? = wr.heap[i]? := fun i hi => hg2.block i (by show i < wr.heap.size; omega) (fun e => by have := (hown.lt _ e.symm).1; omega)
      have k1 : w2.heap[w5.heap.size]? = some (.cells #[.bool false, .slice sv j sc] 43) := by rw [hr _ (by omega)]; exact hblk
      have k3 : w2.heap[w.heap.size + 1 + 1]? = some (.cells #[.bool false, .slice none 0 0] 43) := by rw [hr _ (by omega)]; exact b3
      have d0 : w2.cell? ⟨w5.heap.size, 0, none⟩ = some (.bool false) := by rw [Lib.cell_of_heap k1]; rfl
      have d1 : w2.cell? ⟨w5.heap.size, 1, none⟩ = some (.slice sv j sc) := by rw [Lib.cell_of_heap k1]; rfl
      have f1 : w2.frozen? ⟨w5.heap.size, 1, none⟩ = false := Lib.frozen_of_heap k1 1
      have e0 : w2.cell? ⟨w.heap.size + 1 + 1, 0, none⟩ = some (.bool false) := by rw [Lib.cell_of_heap k3]; rfl
      have e1 : w2.cell? ⟨w.heap.size + 1 + 1, 1, none⟩ = some (.slice none 0 0) := by rw [Lib.cell_of_heap k3]; rfl
      have g0 : w2.frozen? ⟨w.heap.size + 1 + 1, 0, none⟩ = false := Lib.frozen_of_heap k3 0
      have g1 : w2.frozen? ⟨w.heap.size + 1 + 1, 1, none⟩ = false := Lib.frozen_of_heap k3 1
      have hne : w5.heap.size ≠ w.heap.size + 1 + 1 := by omega
      have hne2 : w.heap.size + 1 + 1 ≠ w5.heap.size := by omega
      have hb2 : Below w.heap.size w w2 := hbw.trans ⟨hg2.os, hg2.tape, hg2.output, hg2.size, fun i hi => hr i (by omega)⟩
      clear cut2 HR RB
      go_wp2
      have k4 : ∀ u, (w2.setCell ⟨w5.heap.size, 1, none⟩ u).heap[w.heap.size + 1 + 1]? = some (.cells #[.bool false, .slice none 0 0] 43) := fun u => (Below.heap_setCell _ _ _ _ hne2).trans k3
      exact bodyPost_ret (v := .agg #[.bool false, .slice sv' L.length sc']) (by simp [results, Tryd.results45, go_sem, e0, e1, hne, hne2]) rfl
        ⟨_, rfl, own_base (stored_two (own_set hown2 k1 (by decide)) (k4 _)) (by omega),
          ((hb2.setCell (p := ⟨w5.heap.size, 1, none⟩) (by show w.heap.size ≤ w5.heap.size; omega) _).setCell (p := ⟨w.heap.size + 1 + 1, 0, none⟩) (by show w.heap.size ≤ w.heap.size + 1 + 1; omega) _).setCell (p := ⟨w.heap.size + 1 + 1, 1, none⟩) (by show w.heap.size ≤ w.heap.size + 1 + 1; omega) _⟩

end Go.Proofs.YtkdplfmfmalllaaDoor
