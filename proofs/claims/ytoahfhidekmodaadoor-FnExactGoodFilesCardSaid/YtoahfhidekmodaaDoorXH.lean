/- Walks: the program's parts of a path, one by one. -/
import Derived.Test.YtoahfhidekmodaaDoorXG
import Derived.Laws.EntriesVeiled
namespace Go.Proofs.YtoahfhidekmodaaDoor.D1
open Go.RowKit Pth

/-- A route is handed back, its parts in memory from B on. -/
def RoutePost (B : Nat) (v0 : Value) (r : Bool) (l : List (List UInt8)) (w : World) (e : Ending) (w' : World) : Prop :=
  ∃ v, e = .returned (.agg #[.bool r, v]) ∧ w'.ownsRow B 9 1 v l.length (S l) ∧ w.grownBy w' v0.ownBlock

theorem only_alloc {a w : World} {row : Option Nat} (h : a.grownBy w row) (o : Obj) : a.grownBy (w.alloc o) row :=
  ⟨h.os, h.tape, h.output, Nat.le_trans h.size (by simp), fun i hi hne => (Below.heap_alloc w o i (Nat.lt_of_lt_of_le hi h.size)).trans (h.block i hi hne)⟩
theorem only_set {a w : World} {row : Option Nat} (h : a.grownBy w row) {p : Addr} (hp : a.heap.size ≤ p.block) (u : Value) : a.grownBy (w.setCell p u) row :=
  ⟨h.os, h.tape, h.output, by simpa [World.setCell] using h.size, fun i hi hne => (Below.heap_setCell w p u i (by omega)).trans (h.block i hi hne)⟩
theorem only_refl (w : World) (row : Option Nat) : w.grownBy w row := ⟨rfl, rfl, rfl, Nat.le_refl _, fun _ _ _ => rfl⟩
theorem only_trans {a b c : World} {row row' : Option Nat} (h : a.grownBy b row) (k : b.grownBy c row') (hr : ∀ i, row' = some i → row = some i ∨ a.heap.size ≤ i) : a.grownBy c row :=
  ⟨k.os.trans h.os, k.tape.trans h.tape, k.output.trans h.output, Nat.le_trans h.size k.size, fun i hi hne => (k.block i (Nat.lt_of_lt_of_le hi h.size) (fun e => by
    rcases hr i e.symm with h1 | h1
    · exact hne h1.symm
    · omega)).trans (h.block i hi hne)⟩

theorem nothing_yes (p : List UInt8) (w : World) (h : p = [] ∨ p = [46]) :
    Calls Tryd.prog 85 #[.string ⟨p.toArray⟩] w fun e w' => e = .returned (.bool true) ∧ w = w' := by
  rcases h with rfl | rfl
  all_goals
    go_enter Tryd.func85, Tryd.ntmps85
    go_wp2
    go_ret
    exact ⟨rfl, rfl⟩
theorem nothing_no (p : List UInt8) (w : World) (h : ¬ p = []) (h1 : ¬ p = [46]) :
    Calls Tryd.prog 85 #[.string ⟨p.toArray⟩] w fun e w' => e = .returned (.bool false) ∧ w = w' := by
  have hp4 : p.isEmpty = false := by simpa using h
  have hp5 : (p == [46]) = false := by simpa using h1
  go_enter Tryd.func85, Tryd.ntmps85
  go_wp2
  go_ret
  exact ⟨rfl, rfl⟩
theorem up_yes (w : World) :
    Calls Tryd.prog 87 #[.string ⟨#[46, 46]⟩] w fun e w' => e = .returned (.bool true) ∧ w = w' := by
  go_enter Tryd.func87, Tryd.ntmps87
  go_wp2
  go_ret
  exact ⟨rfl, rfl⟩
theorem up_no (p : List UInt8) (w : World) (h : ¬ p = [46, 46]) :
    Calls Tryd.prog 87 #[.string ⟨p.toArray⟩] w fun e w' => e = .returned (.bool false) ∧ w = w' := by
  have hp5 : (p == [46, 46]) = false := by simpa using h
  go_enter Tryd.func87, Tryd.ntmps87
  go_wp2
  go_ret
  exact ⟨by simp, rfl⟩

theorem stays_any (l : List (List UInt8)) (r : Bool) (B : Nat) (v : Value) (w : World) (hown : w.ownsRow B 9 1 v l.length (S l)) (_hB : B ≤ w.heap.size) :
    Calls Tryd.prog 86 #[.agg #[.bool r, v]] w (RoutePost B v r l w) := by
  obtain ⟨sv, sc, hsv⟩ := own_slice hown
  subst hsv
  go_enter Tryd.func86, Tryd.ntmps86
  go_wp2
  exact bodyPost_ret (v := .agg #[.bool r, .slice sv l.length sc]) (by simp [results, Tryd.results86, go_sem]) rfl ⟨_, rfl, (hown.alloc _).alloc _, only_alloc (only_alloc (only_refl _ _) _) _⟩

def ruleObj : Obj := .cells #[.func (.func 85) #[] #[], .func (.func 86) #[] #[], .func (.func 87) #[] #[], .func (.func 88) #[] #[]] 120
theorem rules_any (w : World) : Calls Tryd.prog 79 #[] w fun e w' => e = .returned (.slice (some ⟨w.heap.size, 0, none⟩) 2 2) ∧ w' = w.alloc ruleObj := by
  go_enter Tryd.func79, Tryd.ntmps79
  go_wp2
  go_ret
  exact ⟨rfl, rfl⟩

/-- What is stored into a block of another type leaves a row of texts alone. -/
theorem own_set {w : World} {B n b o : Nat} {v u : Value} {xs : List Value} {cs : Array Value} {T : TypeId} {fr : Nat × Nat} (h : w.ownsRow B 9 1 v n xs) (hb : w.heap[b]? = some (.cells cs T fr)) (hT : T ≠ 9) :
    (w.setCell ⟨b, o, none⟩ u).ownsRow B 9 1 v n xs :=
  h.kept (row := some b) ⟨rfl, rfl, rfl, by simp [World.setCell], fun k _ hk => Below.heap_setCell _ _ _ _ (fun e => hk (by simp [e]))⟩ (Or.inr (Lib.ownBlock_ne h hb hT))
theorem block_set {w : World} {b o : Nat} {u : Value} {cs : Array Value} {T : TypeId} {fr : Nat × Nat} (hb : w.heap[b]? = some (.cells cs T fr)) : (w.setCell ⟨b, o, none⟩ u).heap[b]? = some (.cells (cs.setIfInBounds o u) T fr) := by
  simp [World.setCell, Array.getElem?_modify, hb]

set_option maxHeartbeats 1000000 in
theorem goesUp_pop (a : List (List UInt8)) (q : List UInt8) (r : Bool) (B : Nat) (v : Value) (w : World) (hown : w.ownsRow B 9 1 v (a.length + 1) (S (a ++ [q]))) (_hB : B ≤ w.heap.size) (hq : ¬ q = dots) (hl : a.length ≤ 10000) :
    Calls Tryd.prog 88 #[.agg #[.bool r, v]] w (RoutePost B v r a w) := by
  obtain ⟨g, c, hsv, hg1, hg2, hc1, hc2, hlast⟩ := own_last hown
  subst hsv
  unfold maxLen at hc2
  have hq1 : ¬ q = [46, 46] := hq
  have hq2 : (q == [46, 46]) = false := by simpa using hq1
  clear hq
  have hl1 : ∀ o1 o2, ((w.alloc o1).alloc o2).cell? ⟨g, a.length, none⟩ = some (.string ⟨q.toArray⟩) := fun o1 o2 => by
    rw [World.cell?_alloc_lt _ _ _ (by simp; omega), World.cell?_alloc_lt _ _ _ hg2]; exact hlast
  go_enter Tryd.func88, Tryd.ntmps88
  go_wp2
  exact bodyPost_ret (v := .agg #[.bool r, .slice (some ⟨g, 0, none⟩) a.length c]) (by simp [results, Tryd.results88, go_sem]) rfl ⟨_, rfl, ((own_pop hown).alloc _).alloc _, only_alloc (only_alloc (only_refl _ _) _) _⟩

set_option maxHeartbeats 1000000 in
theorem goesUp_stay (l : List (List UInt8)) (B : Nat) (v : Value) (w : World) (hown : w.ownsRow B 9 1 v l.length (S l)) (_hB : B ≤ w.heap.size) (hq : l = [] ∨ ∃ a, l = a ++ [dots]) (hl : l.length ≤ 10000) :
    Calls Tryd.prog 88 #[.agg #[.bool true, v]] w (RoutePost B v true l w) := by
  rcases hq with rfl | ⟨a, rfl⟩
  · obtain ⟨sv, sc, hsv⟩ := own_slice hown
    subst hsv
    go_enter Tryd.func88, Tryd.ntmps88
    go_wp2
    exact bodyPost_ret (v := .agg #[.bool true, .slice sv 0 sc]) (by simp [results, Tryd.results88, go_sem]) rfl ⟨_, rfl, (hown.alloc _).alloc _, only_alloc (only_alloc (only_refl _ _) _) _⟩
  · have hn : (a ++ [dots]).length = a.length + 1 := by simp
    rw [hn] at hown hl
    obtain ⟨g, c, hsv, hg1, hg2, hc1, hc2, hlast⟩ := own_last hown
    subst hsv
    unfold maxLen at hc2
    unfold dots at hlast
    have hl1 : ∀ o1 o2, ((w.alloc o1).alloc o2).cell? ⟨g, a.length, none⟩ = some (.string ⟨#[46, 46]⟩) := fun o1 o2 => by
      rw [World.cell?_alloc_lt _ _ _ (by simp; omega), World.cell?_alloc_lt _ _ _ hg2]; exact hlast
    clear hn
    go_enter Tryd.func88, Tryd.ntmps88
    go_wp2
    exact bodyPost_ret (v := .agg #[.bool true, .slice (some ⟨g, 0, none⟩) (a.length + 1) c]) (by simp [results, Tryd.results88, go_sem]) rfl ⟨_, rfl, by rw [List.length_append]; exact (hown.alloc _).alloc _, only_alloc (only_alloc (only_refl _ _) _) _⟩

/-- The two blocks of a struct's argument and result, behind an append. -/
theorem two_blocks {w w2 : World} {o1 o2 : Obj} {row : Option Nat} {B : Nat} (hg : ((w.alloc o1).alloc o2).grownBy w2 row) (hr : ∀ k, row = some k → B ≤ k ∧ k < w.heap.size) :
    w2.heap[w.heap.size]? = some o1 ∧ w2.heap[w.heap.size + 1]? = some o2 := by
  constructor
  · rw [hg.block w.heap.size (by simp; omega) (fun e => by have := (hr _ e.symm).2; omega), Below.heap_alloc _ _ _ (by simp)]
    exact heap_alloc_new w o1
  · rw [hg.block (w.heap.size + 1) (by simp) (fun e => by have := (hr _ e.symm).2; omega)]
    have := heap_alloc_new (w.alloc o1) o2
    simpa using this

/-- The stores into the struct's two blocks leave the row of texts alone, and all below. -/
theorem stored_own {w2 : World} {B n m b : Nat} {v u0 u1 u2 : Value} {xs : List Value} {c1 c2 : Array Value} (h : w2.ownsRow B 9 1 v n xs) (k0 : w2.heap[b]? = some (.cells c1 92 (0, 0))) (k1 : w2.heap[b + 1]? = some (.cells c2 92 (0, 0))) :
    (((w2.setCell ⟨b, m, none⟩ u0).setCell ⟨b + 1, 0, none⟩ u1).setCell ⟨b + 1, 1, none⟩ u2).ownsRow B 9 1 v n xs := by
  have k2 : (w2.setCell ⟨b, m, none⟩ u0).heap[b + 1]? = some (.cells c2 92 (0, 0)) := (Below.heap_setCell _ _ _ _ (by simp)).trans k1
  exact own_set (own_set (own_set h k0 (by decide)) k2 (by decide)) (block_set k2) (by decide)
theorem stored_only {w w2 : World} {row : Option Nat} {m : Nat} {u0 u1 u2 : Value} (h : w.grownBy w2 row) : w.grownBy (((w2.setCell ⟨w.heap.size, m, none⟩ u0).setCell ⟨w.heap.size + 1, 0, none⟩ u1).setCell ⟨w.heap.size + 1, 1, none⟩ u2) row :=
  only_set (only_set (only_set h (p := ⟨w.heap.size, m, none⟩) (Nat.le_refl _) _) (p := ⟨w.heap.size + 1, 0, none⟩) (Nat.le_succ _) _) (p := ⟨w.heap.size + 1, 1, none⟩) (Nat.le_succ _) _

set_option maxHeartbeats 1000000 in
theorem goesUp_up (l : List (List UInt8)) (B : Nat) (v : Value) (w : World) (hown : w.ownsRow B 9 1 v l.length (S l)) (hB : B ≤ w.heap.size) (hq : l = [] ∨ ∃ a, l = a ++ [dots]) (hl : l.length ≤ 10000) :
    Calls Tryd.prog 88 #[.agg #[.bool false, v]] w (RoutePost B v false (l ++ [dots]) w) := by
  rcases hq with rfl | ⟨a, rfl⟩
  · obtain ⟨sv, sc, hsv⟩ := own_slice hown
    subst hsv
    go_enter Tryd.func88, Tryd.ntmps88
    go_wp2_with (at_builtin; refine wpApp rfl _ _ rfl B (.slice sv 0 sc) [] dots rfl rfl ((hown.alloc _).alloc _) _ rfl (by simp) (by simp) (by simp; omega) ?_)
    intro v' w2 hown2 hb2 hg2
    obtain ⟨k0, k1⟩ := two_blocks hg2 (fun k hk => hown.lt k hk)
    obtain ⟨sv', sc', hsv'⟩ := own_slice hown2
    subst hsv'
    have d0 : w2.cell? ⟨w.heap.size, 0, none⟩ = some (.bool false) := by rw [Lib.cell_of_heap k0]; rfl
    have d1 : w2.cell? ⟨w.heap.size, 1, none⟩ = some (.slice sv 0 sc) := by rw [Lib.cell_of_heap k0]; rfl
    have e0 : w2.cell? ⟨w.heap.size + 1, 0, none⟩ = some (.bool false) := by rw [Lib.cell_of_heap k1]; rfl
    have e1 : w2.cell? ⟨w.heap.size + 1, 1, none⟩ = some (.slice none 0 0) := by rw [Lib.cell_of_heap k1]; rfl
    have f1 : w2.frozen? ⟨w.heap.size, 1, none⟩ = false := Lib.frozen_of_heap k0 1
    have g0 : w2.frozen? ⟨w.heap.size + 1, 0, none⟩ = false := Lib.frozen_of_heap k1 0
    have g1 : w2.frozen? ⟨w.heap.size + 1, 1, none⟩ = false := Lib.frozen_of_heap k1 1
    go_wp2
    exact bodyPost_ret (v := .agg #[.bool false, .slice sv' (0 + 1) sc']) (by simp [results, Tryd.results88, go_sem, e0, e1]) rfl ⟨_, rfl, by simpa using stored_own hown2 k0 k1, stored_only (only_trans (only_alloc (only_alloc (only_refl _ _) _) _) hg2 (fun i hi => .inl hi))⟩
  · have hn : (a ++ [dots]).length = a.length + 1 := by simp
    have hown0 := hown
    rw [hn] at hown hl
    obtain ⟨g, c, hsv, hg1, hg2, hc1, hc2, hlast⟩ := own_last hown
    subst hsv
    unfold maxLen at hc2
    unfold dots at hlast
    have hl1 : ∀ o1 o2, ((w.alloc o1).alloc o2).cell? ⟨g, a.length, none⟩ = some (.string ⟨#[46, 46]⟩) := fun o1 o2 => by
      rw [World.cell?_alloc_lt _ _ _ (by simp; omega), World.cell?_alloc_lt _ _ _ hg2]; exact hlast
    clear hn
    go_enter Tryd.func88, Tryd.ntmps88
    go_wp2_with (at_builtin; refine wpApp rfl _ _ rfl B (.slice (some ⟨g, 0, none⟩) (a.length + 1) c) (a ++ [dots]) dots rfl rfl ((hown0.alloc _).alloc _) _ rfl (by simp) (by simp; omega) (by simp; omega) ?_)
    intro v' w2 hown2 hb2 hg2
    obtain ⟨k0, k1⟩ := two_blocks hg2 (fun k hk => hown.lt k hk)
    obtain ⟨sv', sc', hsv'⟩ := own_slice hown2
    subst hsv'
    have d0 : w2.cell? ⟨w.heap.size, 0, none⟩ = some (.bool false) := by rw [Lib.cell_of_heap k0]; rfl
    have d1 : w2.cell? ⟨w.heap.size, 1, none⟩ = some (.slice (some ⟨g, 0, none⟩) (a.length + 1) c) := by rw [Lib.cell_of_heap k0]; rfl
    have e0 : w2.cell? ⟨w.heap.size + 1, 0, none⟩ = some (.bool false) := by rw [Lib.cell_of_heap k1]; rfl
    have e1 : w2.cell? ⟨w.heap.size + 1, 1, none⟩ = some (.slice none 0 0) := by rw [Lib.cell_of_heap k1]; rfl
    have f1 : w2.frozen? ⟨w.heap.size, 1, none⟩ = false := Lib.frozen_of_heap k0 1
    have g0 : w2.frozen? ⟨w.heap.size + 1, 0, none⟩ = false := Lib.frozen_of_heap k1 0
    have g1 : w2.frozen? ⟨w.heap.size + 1, 1, none⟩ = false := Lib.frozen_of_heap k1 1
    go_wp2
    exact bodyPost_ret (v := .agg #[.bool false, .slice sv' ((a ++ [dots]).length + 1) sc']) (by simp [results, Tryd.results88, go_sem, e0, e1]) rfl ⟨_, rfl, by simpa using stored_own hown2 k0 k1, stored_only (only_trans (only_alloc (only_alloc (only_refl _ _) _) _) hg2 (fun i hi => .inl hi))⟩

end Go.Proofs.YtoahfhidekmodaaDoor.D1
