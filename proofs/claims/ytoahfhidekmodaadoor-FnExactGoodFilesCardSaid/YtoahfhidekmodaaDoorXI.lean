/- Walks: one part taken by the program's rules. -/
import Derived.Test.YtoahfhidekmodaaDoorXH
namespace Go.Proofs.YtoahfhidekmodaaDoor.D1
open Go.RowKit Pth

/-- Which rules did not fit, by how many were asked. -/
def Passed (p : List UInt8) : Nat → Prop
  | 0 => True
  | 1 => ¬ (p = [] ∨ p = [46])
  | _ => ¬ (p = [] ∨ p = [46]) ∧ ¬ p = dots

def routeObj (r : Bool) (v : Value) : Obj := .cells #[.bool r, v] 92
def freshObj : Obj := .cells #[.bool false, .slice none 0 0] 92

/-- The world in which the rules are asked. -/
def Asked (w : World) (r : Bool) (v : Value) (wr : World) : Prop := Below (w.heap.size + 2) ((w.alloc (routeObj r v)).alloc freshObj) wr

theorem Asked.size {w wr : World} {r : Bool} {v : Value} (h : Asked w r v wr) : w.heap.size + 2 ≤ wr.heap.size := by
  have := Below.size h; simp at this; omega
theorem Asked.grown {w wr : World} {r : Bool} {v : Value} (h : Asked w r v wr) (row : Option Nat) : w.grownBy wr row :=
  ⟨(Below.os h).trans rfl, (Below.tape h).trans rfl, (Below.output h).trans rfl, by have := Asked.size h; omega, fun k hk _ => by
    rw [Below.block h k (by omega), Below.heap_alloc _ _ _ (by simp; omega), Below.heap_alloc _ _ _ hk]⟩
theorem Asked.one {w wr : World} {r : Bool} {v : Value} (h : Asked w r v wr) : wr.heap[w.heap.size]? = some (routeObj r v) := by
  rw [Below.block h _ (by omega), Below.heap_alloc _ _ _ (by simp)]; exact heap_alloc_new w _
theorem Asked.two {w wr : World} {r : Bool} {v : Value} (h : Asked w r v wr) : wr.heap[w.heap.size + 1]? = some freshObj := by
  rw [Below.block h _ (by omega)]
  have := heap_alloc_new (w.alloc (routeObj r v)) freshObj
  simpa using this
theorem Asked.alloc {w wr : World} {r : Bool} {v : Value} (h : Asked w r v wr) (o : Obj) : Asked w r v (wr.alloc o) := Below.alloc h (Asked.size h) o

/-- The route that came out is stored as the result. -/
theorem stored_two {w2 : World} {B n b : Nat} {v u1 u2 : Value} {xs : List Value} {c2 : Array Value} (h : w2.ownsRow B 9 1 v n xs) (k1 : w2.heap[b]? = some (.cells c2 92 (0, 0))) :
    ((w2.setCell ⟨b, 0, none⟩ u1).setCell ⟨b, 1, none⟩ u2).ownsRow B 9 1 v n xs :=
  own_set (own_set h k1 (by decide)) (block_set k1) (by decide)
theorem stored_two_only {w w2 : World} {row : Option Nat} {b : Nat} {u1 u2 : Value} (h : w.grownBy w2 row) (hb : w.heap.size ≤ b) : w.grownBy ((w2.setCell ⟨b, 0, none⟩ u1).setCell ⟨b, 1, none⟩ u2) row :=
  only_set (only_set h (p := ⟨b, 0, none⟩) hb _) (p := ⟨b, 1, none⟩) hb _

theorem goesUp_any (l : List (List UInt8)) (r : Bool) (B : Nat) (v : Value) (w : World) (hown : w.ownsRow B 9 1 v l.length (S l)) (hB : B ≤ w.heap.size) (hl : l.length ≤ 10000) :
    Calls Tryd.prog 88 #[.agg #[.bool r, v]] w (RoutePost B v r (pstep r l dots) w) := by
  rcases last_of l with rfl | ⟨a, q, rfl⟩
  · cases r
    · rw [pstep_up0]; exact goesUp_up [] B v w hown hB (.inl rfl) hl
    · rw [pstep_stay0]; exact goesUp_stay [] B v w hown hB (.inl rfl) hl
  · by_cases hq : q = dots
    · subst hq
      cases r
      · rw [pstep_up]; exact goesUp_up _ B v w hown hB (.inr ⟨a, rfl⟩) hl
      · rw [pstep_stay]; exact goesUp_stay _ B v w hown hB (.inr ⟨a, rfl⟩) hl
    · rw [pstep_drop hq]
      rw [List.length_append, List.length_singleton] at hown hl
      exact goesUp_pop a q r B v w hown hB hq (by omega)

set_option maxHeartbeats 2000000 in
theorem takePart_any (l : List (List UInt8)) (p : List UInt8) (r : Bool) (B gr : Nat) (v : Value) (w : World) (hown : w.ownsRow B 9 1 v l.length (S l)) (hB : B ≤ w.heap.size) (hl : l.length ≤ 10000)
    (hr : w.heap[gr]? = some ruleObj) :
    Calls Tryd.prog 81 #[.slice (some ⟨gr, 0, none⟩) 2 2, .agg #[.bool r, v], .string ⟨p.toArray⟩] w (RoutePost B v r (pstep r l p) w) := by
  obtain ⟨sv, sc, hsv⟩ := own_slice hown
  subst hsv
  have hgr := lt_of_block hr
  go_enter Tryd.func81, Tryd.ntmps81
  go_wp2_with fail
  go_loopw [11] (fun i wr => ∃ k : Nat, k ≤ 2 ∧ i = .int .i64 k ∧ Asked w r (.slice sv l.length sc) wr ∧ wr.ownsRow B 9 1 (.slice sv l.length sc) l.length (S l) ∧ Passed p k) (fun i _ => 2 - (intOf i).toNat)
  case atStart => exact ⟨0, by omega, rfl, Below.refl _ _, (hown.alloc _).alloc _, trivial⟩
  case round =>
    obtain ⟨k, hk, rfl, hA, ho, hP⟩ := hrel
    have hsz := hA.size
    have hru : wr.heap[gr]? = some ruleObj := by rw [(hA.grown none).block gr hgr (by simp)]; exact hr
    have r0 : wr.cell? ⟨gr, 0, none⟩ = some (.func (.func 85) #[] #[]) := by rw [Lib.cell_of_heap hru]; rfl
    have r1 : wr.cell? ⟨gr, 1, none⟩ = some (.func (.func 86) #[] #[]) := by rw [Lib.cell_of_heap hru]; rfl
    have r2 : wr.cell? ⟨gr, 2, none⟩ = some (.func (.func 87) #[] #[]) := by rw [Lib.cell_of_heap hru]; rfl
    have r3 : wr.cell? ⟨gr, 3, none⟩ = some (.func (.func 88) #[] #[]) := by rw [Lib.cell_of_heap hru]; rfl
    have q0 : ∀ o, (wr.alloc o).cell? ⟨w.heap.size, 0, none⟩ = some (.bool r) := fun o => by rw [World.cell?_alloc_lt _ _ _ (by show w.heap.size < _; omega), Lib.cell_of_heap hA.one]; rfl
    have q1 : ∀ o, (wr.alloc o).cell? ⟨w.heap.size, 1, none⟩ = some (.slice sv l.length sc) := fun o => by rw [World.cell?_alloc_lt _ _ _ (by show w.heap.size < _; omega), Lib.cell_of_heap hA.one]; rfl
    rcases k with _ | _ | _ | k
    · by_cases hp : p = [] ∨ p = [46]
      · have HP := Lib.hid (pstep_skip (b := r) (acc := l) hp)
        have HQ := Lib.hid hp
        clear hp
        go_wp2_with (first | (go_at_call 85; refine (nothing_yes p _ HQ.out).mono ?_; rintro e w' ⟨rfl, rfl⟩) | (go_at_call 86; refine (stays_any l r B _ _ (ho.alloc _) (by simp; omega)).mono ?_))
        rintro e w2 ⟨v2, rfl, hown2, hg2⟩
        obtain ⟨sv2, sc2, hsv2⟩ := own_slice hown2
        subst hsv2
        have k1 : w2.heap[w.heap.size + 1]? = some (.cells #[.bool false, .slice none 0 0] 92 (0, 0)) := by
          rw [hg2.block (w.heap.size + 1) (by simp; omega) (fun e => by have := (hown.lt _ e.symm).2; omega), Below.heap_alloc _ _ _ (by omega)]
          exact hA.two
        have e0 : w2.cell? ⟨w.heap.size + 1, 0, none⟩ = some (.bool false) := by rw [Lib.cell_of_heap k1]; rfl
        have e1 : w2.cell? ⟨w.heap.size + 1, 1, none⟩ = some (.slice none 0 0) := by rw [Lib.cell_of_heap k1]; rfl
        have g0 : w2.frozen? ⟨w.heap.size + 1, 0, none⟩ = false := Lib.frozen_of_heap k1 0
        have g1 : w2.frozen? ⟨w.heap.size + 1, 1, none⟩ = false := Lib.frozen_of_heap k1 1
        go_wp2
        exact bodyPost_ret (v := .agg #[.bool r, .slice sv2 l.length sc2]) (by simp [results, Tryd.results81, go_sem, e0, e1]) rfl ⟨_, rfl, stored_two (by rw [HP.out]; exact hown2) k1, stored_two_only (only_trans ((hA.alloc _).grown _) hg2 (fun i hi => .inl hi)) (by omega)⟩
      · have HQ : Hid (Passed p 1) := hp
        have hp1 : ¬ p = [] := fun h => hp (.inl h)
        have hp2 : ¬ p = [46] := fun h => hp (.inr h)
        clear hp hP
        have HN1 := Lib.hid hp1
        have HN2 := Lib.hid hp2
        clear hp1 hp2
        go_wp2_with (go_at_call 85; refine (nothing_no p _ HN1.out HN2.out).mono ?_; rintro e w' ⟨rfl, rfl⟩)
        go_roundw
        case rel => exact ⟨1, by omega, rfl, hA.alloc _, ho.alloc _, HQ.out⟩
        case measure => simp [intOf]
    · by_cases hp : p = dots
      · subst hp
        clear hP
        have hp46 : (⟨dots.toArray⟩ : ByteArray) = ⟨#[46, 46]⟩ := rfl
        rw [hp46]
        clear hp46
        go_wp2_with (first | (go_at_call 87; refine (up_yes _).mono ?_; rintro e w' ⟨rfl, rfl⟩) | (go_at_call 88; refine (goesUp_any l r B _ _ (ho.alloc _) (by simp; omega) hl).mono ?_))
        rintro e w2 ⟨v2, rfl, hown2, hg2⟩
        obtain ⟨sv2, sc2, hsv2⟩ := own_slice hown2
        subst hsv2
        have k1 : w2.heap[w.heap.size + 1]? = some (.cells #[.bool false, .slice none 0 0] 92 (0, 0)) := by
          rw [hg2.block (w.heap.size + 1) (by simp; omega) (fun e => by have := (hown.lt _ e.symm).2; omega), Below.heap_alloc _ _ _ (by omega)]
          exact hA.two
        have e0 : w2.cell? ⟨w.heap.size + 1, 0, none⟩ = some (.bool false) := by rw [Lib.cell_of_heap k1]; rfl
        have e1 : w2.cell? ⟨w.heap.size + 1, 1, none⟩ = some (.slice none 0 0) := by rw [Lib.cell_of_heap k1]; rfl
        have g0 : w2.frozen? ⟨w.heap.size + 1, 0, none⟩ = false := Lib.frozen_of_heap k1 0
        have g1 : w2.frozen? ⟨w.heap.size + 1, 1, none⟩ = false := Lib.frozen_of_heap k1 1
        go_wp2
        exact bodyPost_ret (v := .agg #[.bool r, .slice sv2 (pstep r l dots).length sc2]) (by simp [results, Tryd.results81, go_sem, e0, e1]) rfl ⟨_, rfl, stored_two hown2 k1, stored_two_only (only_trans ((hA.alloc _).grown _) hg2 (fun i hi => .inl hi)) (by omega)⟩
      · have HQ : Hid (Passed p 2) := ⟨hP, hp⟩
        have HN1 : Hid (¬ p = [46, 46]) := hp
        clear hp hP
        go_wp2_with (go_at_call 87; refine (up_no p _ HN1.out).mono ?_; rintro e w' ⟨rfl, rfl⟩)
        go_roundw
        case rel => exact ⟨2, by omega, rfl, hA.alloc _, ho.alloc _, HQ.out⟩
        case measure => simp [intOf]
    · have HP := Lib.hid (pstep_name (b := r) (acc := l) (fun h => hP.1 (.inl h)) (fun h => hP.1 (.inr h)) hP.2)
      clear hP q0 q1
      have q0 : wr.cell? ⟨w.heap.size, 0, none⟩ = some (.bool r) := by rw [Lib.cell_of_heap hA.one]; rfl
      have q1 : wr.cell? ⟨w.heap.size, 1, none⟩ = some (.slice sv l.length sc) := by rw [Lib.cell_of_heap hA.one]; rfl
      go_wp2_with (at_builtin; refine wpApp rfl _ _ rfl B (.slice sv l.length sc) l p rfl rfl ho _ rfl (by simp) (by omega) (by omega) ?_)
      intro v' w2 hown2 hb2 hg2
      have k0 : w2.heap[w.heap.size]? = some (.cells #[.bool r, .slice sv l.length sc] 92 (0, 0)) := by
        rw [hg2.block w.heap.size (by omega) (fun e => by have := (hown.lt _ e.symm).2; omega)]; exact hA.one
      have k1 : w2.heap[w.heap.size + 1]? = some (.cells #[.bool false, .slice none 0 0] 92 (0, 0)) := by
        rw [hg2.block (w.heap.size + 1) (by omega) (fun e => by have := (hown.lt _ e.symm).2; omega)]; exact hA.two
      obtain ⟨sv', sc', hsv'⟩ := own_slice hown2
      subst hsv'
      have d0 : w2.cell? ⟨w.heap.size, 0, none⟩ = some (.bool r) := by rw [Lib.cell_of_heap k0]; rfl
      have d1 : w2.cell? ⟨w.heap.size, 1, none⟩ = some (.slice sv l.length sc) := by rw [Lib.cell_of_heap k0]; rfl
      have e0 : w2.cell? ⟨w.heap.size + 1, 0, none⟩ = some (.bool false) := by rw [Lib.cell_of_heap k1]; rfl
      have e1 : w2.cell? ⟨w.heap.size + 1, 1, none⟩ = some (.slice none 0 0) := by rw [Lib.cell_of_heap k1]; rfl
      have f1 : w2.frozen? ⟨w.heap.size, 1, none⟩ = false := Lib.frozen_of_heap k0 1
      have g0 : w2.frozen? ⟨w.heap.size + 1, 0, none⟩ = false := Lib.frozen_of_heap k1 0
      have g1 : w2.frozen? ⟨w.heap.size + 1, 1, none⟩ = false := Lib.frozen_of_heap k1 1
      go_wp2
      exact bodyPost_ret (v := .agg #[.bool r, .slice sv' (l.length + 1) sc']) (by simp [results, Tryd.results81, go_sem, e0, e1]) rfl ⟨_, rfl, by rw [HP.out]; simpa using stored_own hown2 k0 k1, stored_only (only_trans (hA.grown _) hg2 (fun i hi => .inl hi))⟩
    · omega

end Go.Proofs.YtoahfhidekmodaaDoor.D1
