/- Texts of one claim, joined in their order. -/
import Derived.Test.YtgolhfmmlanmlaaGreatDoorM11
import Derived.Test.YtgolhfmmlanmlaaGreatDoorM6
import Derived.Test.YtgolhfmmlanmlaaGreatDoorM4

/- Walks: copies of graphs. -/
namespace Go.Proofs.YtgolhfmmlanmlaaGreatDoor
open Go.RowKit Pth

/-- Both cells of the argument are read as they were. -/
def Arg2 (w : World) (S : Nat) (x y : Value) : Prop := w.cell? ⟨S, 0, none⟩ = some x ∧ w.cell? ⟨S, 1, none⟩ = some y
theorem Arg2.alloc {w : World} {S : Nat} {x y : Value} (h : Arg2 w S x y) (o : Obj) : Arg2 (w.alloc o) S x y :=
  ⟨(World.cell?_alloc_lt _ _ _ (World.block_lt_of_cell? _ _ h.1)).trans h.1, (World.cell?_alloc_lt _ _ _ (World.block_lt_of_cell? _ _ h.2)).trans h.2⟩
theorem Arg2.below {w w' : World} {S : Nat} {x y : Value} (h : Arg2 w S x y) (hb : Below w.heap.size w w') : Arg2 w' S x y :=
  ⟨(hb.cell (World.block_lt_of_cell? _ _ h.1)).trans h.1, (hb.cell (World.block_lt_of_cell? _ _ h.2)).trans h.2⟩

theorem Arg2.set2 {w : World} {S b : Nat} {x y : Value} (h : Arg2 w S x y) (hne : b ≠ S) (u u' : Value) : Arg2 ((w.setCell ⟨b, 0, none⟩ u).setCell ⟨b, 1, none⟩ u') S x y := by
  have one : ∀ {W : World} {p q : Addr} {z v : Value}, W.cell? q = some z → p.block ≠ q.block → (W.setCell p v).cell? q = some z := by
    intro W p q z v hq hpq
    exact (World.cell?_setCell_far W p q v hpq).trans hq
  exact ⟨one (one h.1 hne) hne, one (one h.2 hne) hne⟩
theorem ka {w : World} {S : Nat} {x y : Value} (h : (w.cell? ⟨S, 0, none⟩ = some x ∧ w.cell? ⟨S, 1, none⟩ = some y)) (o : Obj) : ((w.alloc o).cell? ⟨S, 0, none⟩ = some x ∧ (w.alloc o).cell? ⟨S, 1, none⟩ = some y) := Arg2.alloc h o
theorem kst {w : World} {S b : Nat} {x y : Value} (h : (w.cell? ⟨S, 0, none⟩ = some x ∧ w.cell? ⟨S, 1, none⟩ = some y)) (hne : b ≠ S) (u u' : Value) : (((w.setCell ⟨b, 0, none⟩ u).setCell ⟨b, 1, none⟩ u').cell? ⟨S, 0, none⟩ = some x ∧ ((w.setCell ⟨b, 0, none⟩ u).setCell ⟨b, 1, none⟩ u').cell? ⟨S, 1, none⟩ = some y) := Arg2.set2 h hne u u'
theorem kb {w w' : World} {S : Nat} {x y : Value} (h : (w.cell? ⟨S, 0, none⟩ = some x ∧ w.cell? ⟨S, 1, none⟩ = some y)) (hb : Below w.heap.size w w') : (w'.cell? ⟨S, 0, none⟩ = some x ∧ w'.cell? ⟨S, 1, none⟩ = some y) := Arg2.below h hb
theorem undrew {B : Nat} {X w5 : World} (hb : Below B X.drew w5) : Below B X w5 := ⟨hb.os, hb.tape, hb.output, hb.size, hb.block⟩
/-- What a block of two cells lets one do, there and behind another new block. -/
theorem Blk2.all {w : World} {b t : Nat} {x y : Value} (h : Blk2 w b t x y) (o : Obj) : (w.cell? ⟨b, 0, none⟩ = some x ∧ w.cell? ⟨b, 1, none⟩ = some y ∧ w.frozen? ⟨b, 0, none⟩ = false ∧ w.frozen? ⟨b, 1, none⟩ = false ∧ b < w.heap.size) ∧ ((w.alloc o).cell? ⟨b, 0, none⟩ = some x ∧ (w.alloc o).cell? ⟨b, 1, none⟩ = some y ∧ (w.alloc o).frozen? ⟨b, 0, none⟩ = false ∧ (w.alloc o).frozen? ⟨b, 1, none⟩ = false) :=
  ⟨⟨h.cells.1, h.cells.2, h.soft 0, h.soft 1, lt_of_block h⟩, (h.old o).cells.1, (h.old o).cells.2, (h.old o).soft 0, (h.old o).soft 1⟩

theorem zk1 {P : Prop} {W w5 : World} {x y : Value} {t S : Nat} (hb5 : Below (W.alloc (.cells #[x, y] t)).drew.heap.size (W.alloc (.cells #[x, y] t)) w5) (hS : W.heap.size = S) (o' : Obj) (k : (w5.cell? ⟨S, 0, none⟩ = some x → w5.cell? ⟨S, 1, none⟩ = some y → w5.frozen? ⟨S, 0, none⟩ = false → w5.frozen? ⟨S, 1, none⟩ = false → S < w5.heap.size → (w5.alloc o').cell? ⟨S, 0, none⟩ = some x → (w5.alloc o').cell? ⟨S, 1, none⟩ = some y → (w5.alloc o').frozen? ⟨S, 0, none⟩ = false → (w5.alloc o').frozen? ⟨S, 1, none⟩ = false → (∀ v, (w5.setCell ⟨S, 0, none⟩ v).cell? ⟨S, 1, none⟩ = some y) → (∀ v, (w5.setCell ⟨S, 0, none⟩ v).frozen? ⟨S, 1, none⟩ = false) → (∀ v, ((w5.alloc o').setCell ⟨S, 0, none⟩ v).cell? ⟨S, 1, none⟩ = some y) → (∀ v, ((w5.alloc o').setCell ⟨S, 0, none⟩ v).frozen? ⟨S, 1, none⟩ = false) → P)) : P := by
  have z : Blk2 w5 S t x y := by subst hS; exact Blk2.new.below hb5 (by show _ < (W.alloc (.cells #[x, y] t)).heap.size; simp)
  obtain ⟨⟨y0, y1, y2, y3, y4⟩, y5, y6, y7, y8⟩ := z.all o'
  exact k y0 y1 y2 y3 y4 y5 y6 y7 y8 (fun v => (z.set0 v).cells.2) (fun v => (z.set0 v).soft 1) (fun v => ((z.old o').set0 v).cells.2) (fun v => ((z.old o').set0 v).soft 1)
theorem zk2 {P : Prop} {W w5 : World} {x y : Value} {t S : Nat} {o : Obj} (hb5 : Below ((W.alloc (.cells #[x, y] t)).alloc o).drew.heap.size ((W.alloc (.cells #[x, y] t)).alloc o) w5) (hS : W.heap.size = S) (o' : Obj) (k : (w5.cell? ⟨S, 0, none⟩ = some x → w5.cell? ⟨S, 1, none⟩ = some y → w5.frozen? ⟨S, 0, none⟩ = false → w5.frozen? ⟨S, 1, none⟩ = false → S < w5.heap.size → (w5.alloc o').cell? ⟨S, 0, none⟩ = some x → (w5.alloc o').cell? ⟨S, 1, none⟩ = some y → (w5.alloc o').frozen? ⟨S, 0, none⟩ = false → (w5.alloc o').frozen? ⟨S, 1, none⟩ = false → (∀ v, (w5.setCell ⟨S, 0, none⟩ v).cell? ⟨S, 1, none⟩ = some y) → (∀ v, (w5.setCell ⟨S, 0, none⟩ v).frozen? ⟨S, 1, none⟩ = false) → (∀ v, ((w5.alloc o').setCell ⟨S, 0, none⟩ v).cell? ⟨S, 1, none⟩ = some y) → (∀ v, ((w5.alloc o').setCell ⟨S, 0, none⟩ v).frozen? ⟨S, 1, none⟩ = false) → P)) : P := by
  have z : Blk2 w5 S t x y := by subst hS; exact (Blk2.new.old _).below hb5 (by show _ < ((W.alloc (.cells #[x, y] t)).alloc o).heap.size; simp; omega)
  obtain ⟨⟨y0, y1, y2, y3, y4⟩, y5, y6, y7, y8⟩ := z.all o'
  exact k y0 y1 y2 y3 y4 y5 y6 y7 y8 (fun v => (z.set0 v).cells.2) (fun v => (z.set0 v).soft 1) (fun v => ((z.old o').set0 v).cells.2) (fun v => ((z.old o').set0 v).soft 1)

/-- The blocks of a copy that is begun. -/
structure OwnAt (W0 : World) (csN : Array Value) (n : Nat) (l : List Int) (b g1 : Nat) (qv : Value) (wx : World) : Prop where
  hb : W0.heap.size ≤ b
  hg1 : W0.heap.size ≤ g1
  blk : Blk2 wx b 39 (.slice (some ⟨g1, 0, none⟩) n n) qv
  needs : wx.heap[g1]? = some (.cells csN 23 (0, 0))
  order : wx.ownsRow W0.heap.size 3 1 qv l.length (I l)
  below : Below W0.heap.size W0 wx
theorem ownAt1 {W0 w5 : World} {csN : Array Value} {n : Nat} {l : List Int} {qv : Value} (hu5 : Below (W0.alloc (.cells csN 23)).drew.heap.size (W0.alloc (.cells csN 23)) w5) (ho5 : w5.ownsRow (W0.alloc (.cells csN 23)).drew.heap.size 3 1 qv l.length (I l)) :
    OwnAt W0 csN n l w5.heap.size W0.heap.size qv (w5.alloc (.cells #[.slice (some ⟨W0.heap.size, 0, none⟩) n n, qv] 39)) := by
  have e : (W0.alloc (.cells csN 23)).drew.heap.size = W0.heap.size + 1 := by show (W0.alloc (.cells csN 23)).heap.size = _; simp
  rw [e] at hu5 ho5
  have s5 := hu5.size
  have s5' : W0.heap.size + 1 ≤ w5.heap.size := by simpa using s5
  have k1 : w5.heap[W0.heap.size]? = some (.cells csN 23 (0, 0)) := (hu5.block _ (by omega)).trans (heap_alloc_new W0 _)
  exact ⟨by omega, Nat.le_refl _, Blk2.new, (Below.heap_alloc w5 _ _ (by omega)).trans k1, own_base (ho5.alloc _) (by omega), ((((Below.refl W0.heap.size W0).alloc (Nat.le_refl _) _).trans (hu5.mono (by omega)))).alloc (by omega) _⟩
theorem ownAt2 {W0 w5 : World} {csN : Array Value} {n : Nat} {l : List Int} {qv : Value} (hu5 : Below ((W0.alloc (.cells csN 23)).alloc (.cells #[.slice none 0 0, .slice none 0 0] 39)).drew.heap.size ((W0.alloc (.cells csN 23)).alloc (.cells #[.slice none 0 0, .slice none 0 0] 39)) w5) (ho5 : w5.ownsRow ((W0.alloc (.cells csN 23)).alloc (.cells #[.slice none 0 0, .slice none 0 0] 39)).drew.heap.size 3 1 qv l.length (I l)) :
    OwnAt W0 csN n l (W0.heap.size + 1) W0.heap.size qv ((w5.setCell ⟨W0.heap.size + 1, 0, none⟩ (.slice (some ⟨W0.heap.size, 0, none⟩) n n)).setCell ⟨W0.heap.size + 1, 1, none⟩ qv) := by
  have e1 : (W0.alloc (.cells csN 23)).heap.size = W0.heap.size + 1 := by simp
  have e : ((W0.alloc (.cells csN 23)).alloc (.cells #[.slice none 0 0, .slice none 0 0] 39)).drew.heap.size = W0.heap.size + 2 := by show ((W0.alloc (.cells csN 23)).alloc (.cells #[.slice none 0 0, .slice none 0 0] 39)).heap.size = _; simp
  rw [e] at hu5 ho5
  have z := Blk2.new (w := W0.alloc (.cells csN 23)) (t := 39) (x := .slice none 0 0) (y := .slice none 0 0)
  rw [e1] at z
  have z5 := z.below hu5 (by omega)
  have k1 : w5.heap[W0.heap.size]? = some (.cells csN 23 (0, 0)) := (hu5.block _ (by omega)).trans ((Below.heap_alloc _ _ _ (by rw [e1]; omega)).trans (heap_alloc_new W0 _))
  refine ⟨by omega, Nat.le_refl _, (z5.set0 _).set1 _, ?_, own_base (own_setI (own_setI ho5 (p := ⟨W0.heap.size + 1, 0, none⟩) (by show W0.heap.size + 1 < _; omega) _) (p := ⟨W0.heap.size + 1, 1, none⟩) (by show W0.heap.size + 1 < _; omega) _) (by omega), ?_⟩
  · rw [Below.heap_setCell _ _ _ _ (by show W0.heap.size ≠ W0.heap.size + 1; omega), Below.heap_setCell _ _ _ _ (by show W0.heap.size ≠ W0.heap.size + 1; omega)]; exact k1
  · exact (((((Below.refl W0.heap.size W0).alloc (Nat.le_refl _) _).alloc (by omega) _).trans (hu5.mono (by omega))).setCell (p := ⟨W0.heap.size + 1, 0, none⟩) (by show W0.heap.size ≤ W0.heap.size + 1; omega) _).setCell (p := ⟨W0.heap.size + 1, 1, none⟩) (by show W0.heap.size ≤ W0.heap.size + 1; omega) _
theorem ownAt3 {W0 w5 : World} {csN : Array Value} {n : Nat} {l : List Int} {qv : Value} (hu5 : Below W0.drew.heap.size W0 w5) (ho5 : w5.ownsRow W0.drew.heap.size 3 1 qv l.length (I l)) :
    OwnAt W0 csN n l (w5.heap.size + 1) w5.heap.size qv ((w5.alloc (.cells csN 23)).alloc (.cells #[.slice (some ⟨w5.heap.size, 0, none⟩) n n, qv] 39)) := by
  have e : W0.drew.heap.size = W0.heap.size := rfl
  rw [e] at hu5 ho5
  have e1 : (w5.alloc (.cells csN 23)).heap.size = w5.heap.size + 1 := by simp
  have s5 := hu5.size
  have z := Blk2.new (w := w5.alloc (.cells csN 23)) (t := 39) (x := .slice (some ⟨w5.heap.size, 0, none⟩) n n) (y := qv)
  rw [e1] at z
  exact ⟨by omega, s5, z, (Below.heap_alloc _ _ _ (by rw [e1]; omega)).trans (heap_alloc_new w5 _), (ho5.alloc _).alloc _, (hu5.alloc s5 _).alloc (by rw [e1]; omega) _⟩
theorem ownAt4 {W0 w5 : World} {csN : Array Value} {n : Nat} {l : List Int} {qv : Value} (hu5 : Below W0.drew.heap.size W0 w5) (ho5 : w5.ownsRow W0.drew.heap.size 3 1 qv l.length (I l)) :
    OwnAt W0 csN n l w5.heap.size (w5.heap.size + 1) qv ((w5.alloc (.cells #[.slice (some ⟨w5.heap.size + 1, 0, none⟩) n n, qv] 39)).alloc (.cells csN 23)) := by
  have e : W0.drew.heap.size = W0.heap.size := rfl
  rw [e] at hu5 ho5
  have e1 : (w5.alloc (.cells #[.slice (some ⟨w5.heap.size + 1, 0, none⟩) n n, qv] 39)).heap.size = w5.heap.size + 1 := by simp
  have s5 := hu5.size
  have k1 := heap_alloc_new (w5.alloc (.cells #[.slice (some ⟨w5.heap.size + 1, 0, none⟩) n n, qv] 39)) (.cells csN 23)
  rw [e1] at k1
  exact ⟨s5, by omega, Blk2.new.old _, k1, (ho5.alloc _).alloc _, (hu5.alloc s5 _).alloc (by rw [e1]; omega) _⟩
theorem ownAt5 {W0 w5 : World} {csN : Array Value} {n : Nat} {l : List Int} {qv : Value} (hu5 : Below ((W0.alloc (.cells #[.slice none 0 0, .slice none 0 0] 39)).alloc (.cells csN 23)).drew.heap.size ((W0.alloc (.cells #[.slice none 0 0, .slice none 0 0] 39)).alloc (.cells csN 23)) w5) (ho5 : w5.ownsRow ((W0.alloc (.cells #[.slice none 0 0, .slice none 0 0] 39)).alloc (.cells csN 23)).drew.heap.size 3 1 qv l.length (I l)) :
    OwnAt W0 csN n l W0.heap.size (W0.heap.size + 1) qv ((w5.setCell ⟨W0.heap.size, 0, none⟩ (.slice (some ⟨W0.heap.size + 1, 0, none⟩) n n)).setCell ⟨W0.heap.size, 1, none⟩ qv) := by
  have e1 : (W0.alloc (.cells #[.slice none 0 0, .slice none 0 0] 39)).heap.size = W0.heap.size + 1 := by simp
  have e : ((W0.alloc (.cells #[.slice none 0 0, .slice none 0 0] 39)).alloc (.cells csN 23)).drew.heap.size = W0.heap.size + 2 := by show ((W0.alloc (.cells #[.slice none 0 0, .slice none 0 0] 39)).alloc (.cells csN 23)).heap.size = _; simp
  rw [e] at hu5 ho5
  have z5 := ((Blk2.new (w := W0) (t := 39) (x := .slice none 0 0) (y := .slice none 0 0)).old (.cells csN 23)).below hu5 (by omega)
  have k0 := heap_alloc_new (W0.alloc (.cells #[.slice none 0 0, .slice none 0 0] 39)) (.cells csN 23)
  rw [e1] at k0
  have k1 := (hu5.block (W0.heap.size + 1) (by omega)).trans k0
  refine ⟨Nat.le_refl _, by omega, (z5.set0 _).set1 _, ?_, own_base (own_setI (own_setI ho5 (p := ⟨W0.heap.size, 0, none⟩) (by show W0.heap.size < _; omega) _) (p := ⟨W0.heap.size, 1, none⟩) (by show W0.heap.size < _; omega) _) (by omega), ?_⟩
  · rw [Below.heap_setCell _ _ _ _ (by show W0.heap.size + 1 ≠ W0.heap.size; omega), Below.heap_setCell _ _ _ _ (by show W0.heap.size + 1 ≠ W0.heap.size; omega)]; exact k1
  · exact (((((Below.refl W0.heap.size W0).alloc (Nat.le_refl _) _).alloc (by omega) _).trans (hu5.mono (by omega))).setCell (p := ⟨W0.heap.size, 0, none⟩) (Nat.le_refl _) _).setCell (p := ⟨W0.heap.size, 1, none⟩) (Nat.le_refl _) _
theorem ownAt6 {W0 w5 : World} {csN : Array Value} {n : Nat} {l : List Int} {qv : Value} (hu5 : Below (W0.alloc (.cells #[.slice none 0 0, .slice none 0 0] 39)).drew.heap.size (W0.alloc (.cells #[.slice none 0 0, .slice none 0 0] 39)) w5) (ho5 : w5.ownsRow (W0.alloc (.cells #[.slice none 0 0, .slice none 0 0] 39)).drew.heap.size 3 1 qv l.length (I l)) :
    OwnAt W0 csN n l W0.heap.size w5.heap.size qv (((w5.setCell ⟨W0.heap.size, 0, none⟩ (.slice (some ⟨w5.heap.size, 0, none⟩) n n)).setCell ⟨W0.heap.size, 1, none⟩ qv).alloc (.cells csN 23)) := by
  have e : (W0.alloc (.cells #[.slice none 0 0, .slice none 0 0] 39)).drew.heap.size = W0.heap.size + 1 := by show (W0.alloc (.cells #[.slice none 0 0, .slice none 0 0] 39)).heap.size = _; simp
  rw [e] at hu5 ho5
  have s5' : W0.heap.size + 1 ≤ w5.heap.size := by have := hu5.size; simpa using this
  have z5 := (Blk2.new (w := W0) (t := 39) (x := .slice none 0 0) (y := .slice none 0 0)).below hu5 (by omega)
  have k1 := heap_alloc_new ((w5.setCell ⟨W0.heap.size, 0, none⟩ (.slice (some ⟨w5.heap.size, 0, none⟩) n n)).setCell ⟨W0.heap.size, 1, none⟩ qv) (.cells csN 23)
  have e3 : ((w5.setCell ⟨W0.heap.size, 0, none⟩ (.slice (some ⟨w5.heap.size, 0, none⟩) n n)).setCell ⟨W0.heap.size, 1, none⟩ qv).heap.size = w5.heap.size := by simp
  rw [e3] at k1
  refine ⟨Nat.le_refl _, by omega, ((z5.set0 _).set1 _).old _, k1, own_base ((own_setI (own_setI ho5 (p := ⟨W0.heap.size, 0, none⟩) (by show W0.heap.size < _; omega) _) (p := ⟨W0.heap.size, 1, none⟩) (by show W0.heap.size < _; omega) _).alloc _) (by omega), ?_⟩
  exact ((((((Below.refl W0.heap.size W0).alloc (Nat.le_refl _) _).trans (hu5.mono (by omega))).setCell (p := ⟨W0.heap.size, 0, none⟩) (Nat.le_refl _) _).setCell (p := ⟨W0.heap.size, 1, none⟩) (Nat.le_refl _) _)).alloc (by rw [e3]; omega) _

end Go.Proofs.YtgolhfmmlanmlaaGreatDoor

/- Walks: the reference's copies of graphs. -/
namespace Go.Proofs.YtgolhfmmlanmlaaGreatDoor
open Go.RowKit Pth

/-- An append whose run is known. -/
theorem wpList_runApp {t : TypeId} {ops : Array Oper} {rest : List Oper} {o : Oper} {a : Act} {Q : Exit → Act → World → Prop} {w w' : World} {v u r : Value} (hgd : o.guard = none) (s x : Operand)
    (ho : o.op = .call { callee := .builtin .append, args := #[s, x], argTypes := #[t, t] }) (hs : a.eval s = v) (hx : a.eval x = u) (hrun : (Builtin.append_ #[t, t] o.type #[v, u]).run Tryz.prog w = .ok r w')
    (h : wpList Tryz.prog ops Q rest (a.put o.dst r) w') : wpList Tryz.prog ops Q (o :: rest) a w := by
  refine wpList_plain hgd fun K hK => ?_
  unfold Oper.wp execOp
  simp only [ho, resolve, invoke, builtin, Sem.run_bind, Sem.run_pure, Result.andThen_ok, List.map_toArray, List.map_cons, List.map_nil, hs, hx, hrun]
  exact hK _ _ h
theorem step_runApp {t : TypeId} {ops : Array Oper} {o : Oper} {a : Act} {K : Act → World → Prop} {Q : Exit → Act → World → Prop} {F : Prop} {w w' : World} {v u r : Value} (hgd : o.guard = none) (s x : Operand)
    (ho : o.op = .call { callee := .builtin .append, args := #[s, x], argTypes := #[t, t] }) (hs : a.eval s = v) (hx : a.eval x = u) (hrun : (Builtin.append_ #[t, t] o.type #[v, u]).run Tryz.prog w = .ok r w')
    (h : K (a.put o.dst r) w') : if Region.wanted o (yielded ops a.tmps) = true then Oper.wp Tryz.prog o a w K Q else F := by
  have hw : Region.wanted o (yielded ops a.tmps) = true := by simp [Region.wanted, hgd]
  rw [if_pos hw]
  unfold Oper.wp execOp
  simp only [ho, resolve, invoke, builtin, Sem.run_bind, Sem.run_pure, Result.andThen_ok, List.map_toArray, List.map_cons, List.map_nil, hs, hx, hrun]
  exact h
/-- A list put behind an empty literal. -/
theorem lit_row (x : List Int) (a : Option Addr) (c : Nat) (w W : World) (hW : W = w.alloc (.cells #[] 3)) (hrow : RowV w (.slice a x.length c) (I x)) (hx : x.length ≤ 1000) (ty : TypeId) :
    ∃ qa qc w1, (Builtin.append_ #[23, 23] ty #[.slice (some ⟨w.heap.size, 0, none⟩) 0 0, .slice a x.length c]).run Tryz.prog W = .ok (.slice qa x.length qc) w1 ∧ w1.ownsRow w.heap.size 3 1 (.slice qa x.length qc) x.length (I x) ∧ Below w.heap.size w w1 := by
  subst hW
  have hown : (w.alloc (.cells #[] 3)).ownsRow w.heap.size 3 1 (.slice (some ⟨w.heap.size, 0, none⟩) 0 0) 0 [] := World.ownsRow_lit w #[] 0 (Nat.le_refl _) (by unfold maxLen; omega) rfl
  have hr := hrow.alloc (.cells #[] 3)
  have hle : (I x).length = x.length := I_len x
  rw [← hle] at hr
  obtain ⟨v1, w1, r1, o1, g1⟩ := run_app_row elemI (w.alloc (.cells #[] 3)) w.heap.size ty _ [] (I x) a c hown hr (I_one x) (by simp [hle]; omega) (by simp)
  rw [List.nil_append] at o1
  rw [hle] at o1 r1
  obtain ⟨qa, qc, rfl⟩ := own_slice o1
  exact ⟨qa, qc, w1, r1, o1, ((Below.refl _ w).alloc (Nat.le_refl _) _).trans (only_below g1 (Nat.le_refl _) (by simp))⟩
/-- A list put as one more behind a list of lists. -/
theorem more_lists (sl : List Value) (nv v1 : Value) (B : Nat) (w1 : World) (hown : w1.ownsRow B 23 1 nv sl.length sl) (hv : v1.oneCell' = true) (hl : sl.length ≤ 1000) (hB : B ≤ w1.heap.size) (ty : TypeId) :
    ∃ v2 w2, (Builtin.append_ #[22, 22] ty #[nv, .slice (some ⟨w1.heap.size, 0, none⟩) 1 1]).run Tryz.prog (w1.alloc (.cells #[v1] 23)) = .ok v2 w2 ∧ w2.ownsRow B 23 1 v2 (sl ++ [v1]).length (sl ++ [v1]) ∧ w1.grownBy w2 nv.ownBlock := by
  have hr : RowV (w1.alloc (.cells #[v1] 23)) (.slice (some ⟨w1.heap.size, 0, none⟩) 1 1) [v1] :=
    ⟨_, _, rfl, Nat.le_refl _, by unfold maxLen; omega, fun k hk => ⟨w1.heap.size, 0, rfl, by simp, by
      have : k = 0 := by simp at hk; omega
      subst this
      have := one_new w1 v1 23 0 v1 rfl
      rw [add_addr] at this
      exact this⟩⟩
  obtain ⟨v2, w2, r2, o2, g2⟩ := run_app_row elemN (w1.alloc (.cells #[v1] 23)) B ty nv sl [v1] _ _ (hown.alloc _) hr (by intro u hu; simp at hu; subst hu; exact hv) (by simp; omega) (by simp; omega)
  exact ⟨v2, w2, r2, o2, ⟨g2.os, g2.tape, g2.output, Nat.le_trans (by simp) g2.size, fun k hk hne => (g2.block k (by simp; omega) hne).trans (Below.heap_alloc _ _ _ hk)⟩⟩

end Go.Proofs.YtgolhfmmlanmlaaGreatDoor

/- Walks: how far tasks are, by a queue. -/
namespace Go.Proofs.YtgolhfmmlanmlaaGreatDoor
open Go.RowKit Pth

theorem I_set (l : List Int) (k : Nat) (x : Int) : (I l).set k (.int .i64 x) = I (l.set k x) := by simp [I, List.map_set]
theorem good_in {ls : List (List Int)} {l : List Int} (h : GoodG ls l) : ∀ k (hk : k < ls.length), ∀ x ∈ ls[k], 0 ≤ x ∧ x < (ls.length : Int) := by
  intro k hk x hx
  have := (h.each k hk).1.2 x hx
  omega
theorem at_get {out : List Int} {k : Nat} (hk : k < out.length) : at' out (k : Int) = out[k] := by
  unfold at'
  rw [show ((k : Int)).toNat = k by omega, List.getD_eq_getElem?_getD, List.getElem?_eq_getElem hk]; rfl
theorem I_at {l : List Int} {k : Nat} (hk : k < l.length) : (I l)[k]? = some (.int .i64 l[k]) := by rw [List.getElem?_eq_getElem (by rw [I_len]; exact hk), I_get hk]
theorem far_len (ls : List (List Int)) (t : Int) : ((upto ls.length).map (farI ls t)).length = ls.length := by rw [List.length_map, upto_len]
theorem own_belowQ {w w' : World} {B e n : Nat} {v : Value} {xs : List Value} (h : w.ownsRow B e 1 v n xs) {C : Nat} (hb : Below C w w') (hC : ∀ k, v.ownBlock = some k → k < C) : w'.ownsRow B e 1 v n xs := by
  refine ⟨h.1, ?_⟩
  rcases h.2 with h0 | ⟨g, cap, cur, hv, hg, hh, r⟩
  · exact .inl h0
  · exact .inr ⟨g, cap, cur, hv, hg, (hb.block g (hC g (by rw [hv]; rfl))).trans hh, r⟩

end Go.Proofs.YtgolhfmmlanmlaaGreatDoor

/- Walks: the way round, as the reference has it. -/
namespace Go.Proofs.YtgolhfmmlanmlaaGreatDoor
open Go.RowKit Pth

/-- The way that is told. -/
noncomputable def loopL (ls : List (List Int)) (t x : Int) : List Int := if farI ls t x < 0 then [] else wayL ls t (farI ls t x).toNat x
theorem far_bound {ls : List (List Int)} {l : List Int} (hG : GoodG ls l) {t : Int} {m : Nat} : ∀ {k : Int}, Pth.Way ls t m k → ∀ (_hk : 0 ≤ k ∧ k < (ls.length : Int)), m ≤ pos l k := by
  induction m with
  | zero => intro k _ _; omega
  | succ m ih =>
    intro k h hk
    obtain ⟨x, hx, hw⟩ := h
    obtain ⟨kn, rfl⟩ : ∃ kn : Nat, k = kn := ⟨k.toNat, by omega⟩
    have hkl : kn < ls.length := by omega
    rw [needsAt_get hkl] at hx
    have he := (hG.each kn hkl)
    have hxr := good_in hG kn hkl x hx
    have hp := he.2.2 x hx
    have hxm : x ∈ l := all_there hG.same hG.nodup (fun y hy => by have := hG.tasks y hy; omega) hxr
    rw [place_mem hxm, place_mem he.2.1] at hp
    have := ih hw hxr
    omega
theorem far_small {ls : List (List Int)} {l : List Int} (hG : GoodG ls l) {t k : Int} (hk : 0 ≤ k ∧ k < (ls.length : Int)) : farI ls t k ≤ 10 := by
  by_cases h : farI ls t k < 0
  · omega
  · have h1 := far_bound hG (farI_way (t := t) (k := k) (by omega)) hk
    have hm : k ∈ l := all_there hG.same hG.nodup (fun y hy => by have := hG.tasks y hy; omega) hk
    have h2 := pos_lt hm
    have h3 := hG.same
    have h4 := hG.high
    omega

end Go.Proofs.YtgolhfmmlanmlaaGreatDoor

/- Walks: the way round, told by the reference. -/
namespace Go.Proofs.YtgolhfmmlanmlaaGreatDoor
open Go.RowKit Pth

noncomputable def loopA (ls : List (List Int)) (l : List Int) (t x : Int) : List Int := if taskG ls l t && taskG ls l x then loopL ls t x else []
theorem loopA_no {ls : List (List Int)} {l : List Int} {t x : Int} (h : (taskG ls l t && taskG ls l x) = false) : loopA ls l t x = [] := by unfold loopA; rw [h]; rfl
theorem loopA_yes {ls : List (List Int)} {l : List Int} {t x : Int} (h : (taskG ls l t && taskG ls l x) = true) : loopA ls l t x = loopL ls t x := by unfold loopA; rw [h]; rfl

end Go.Proofs.YtgolhfmmlanmlaaGreatDoor

/- Counts along the order, as mathematics. -/
namespace Go.Proofs.YtgolhfmmlanmlaaGreatDoor
open Go.RowKit Pth

structure Best (ls : List (List Int)) (t : Int) (u : Nat) (nd : List Int) (c : Int) : Prop where
  low : 0 ≤ c
  self : (u : Int) = t → c = 1
  least : ∀ x ∈ nd, 0 ≤ farI ls t x → 0 < c ∧ c ≤ farI ls t x + 2
  some : 0 < c → (u : Int) = t ∨ ∃ x ∈ nd, farI ls t x = c - 2 ∧ 0 ≤ farI ls t x
theorem Best.done {ls : List (List Int)} {t : Int} {u : Nat} {c : Int} (hu : u < ls.length) (h : Best ls t u ls[u] c) : c = farI ls t u + 1 := by
  by_cases he : (u : Int) = t
  · rw [h.self he, he, farI_self]; rfl
  · have hn := needsAt_get hu
    have hl := farI_low ls t u
    by_cases hc : 0 < c
    · rcases h.some hc with h1 | ⟨x, hx, hf, h0⟩
      · exact absurd h1 he
      · have h2 := far_edge (ls := ls) (t := t) (k := (u : Int)) (x := x) (by rw [hn]; exact hx) h0
        obtain ⟨m, hm⟩ : ∃ m : Nat, farI ls t u = (m : Int) + 1 := by
          refine ⟨(farI ls t u).toNat - 1, ?_⟩
          have : farI ls t u ≠ 0 := fun h => he (farI_zero h)
          omega
        obtain ⟨y, hy, hyf⟩ := far_next hm
        rw [hn] at hy
        have := h.least y hy (by omega)
        omega
    · have h0 : c = 0 := by have := h.low; omega
      by_cases hf : farI ls t u < 0
      · omega
      · obtain ⟨m, hm⟩ : ∃ m : Nat, farI ls t u = (m : Int) + 1 := by
          refine ⟨(farI ls t u).toNat - 1, ?_⟩
          have : farI ls t u ≠ 0 := fun h => he (farI_zero h)
          omega
        obtain ⟨y, hy, hyf⟩ := far_next hm
        rw [hn] at hy
        have := h.least y hy (by omega)
        omega

def at0 (out : List Int) (k : Int) : Int := out.getD k.toNat 0
theorem at0_get {out : List Int} {k : Nat} (hk : k < out.length) : at0 out (k : Int) = out[k] := by
  unfold at0
  rw [show ((k : Int)).toNat = k by omega, List.getD_eq_getElem?_getD, List.getElem?_eq_getElem hk]; rfl
theorem at0_set {out : List Int} {k j : Nat} {e : Int} (hk : k < out.length) : at0 (out.set k e) (j : Int) = if j = k then e else at0 out (j : Int) := by
  unfold at0
  rw [show ((j : Int)).toNat = j by omega, List.getD_eq_getElem?_getD, List.getD_eq_getElem?_getD, List.getElem?_set]
  by_cases h : j = k
  · subst h; simp [hk]
  · rw [if_neg h, if_neg (by omega)]

structure Cnt (ls : List (List Int)) (t : Int) (done out : List Int) : Prop where
  len : out.length = ls.length
  yes : ∀ j : Nat, j < ls.length → (j : Int) ∈ done → at0 out j = farI ls t j + 1
  no : ∀ j : Nat, j < ls.length → (j : Int) ∉ done → at0 out j = if (j : Int) = t then 1 else 0
structure CntI (ls : List (List Int)) (t : Int) (done : List Int) (u : Nat) (nd out : List Int) : Prop where
  len : out.length = ls.length
  yes : ∀ j : Nat, j < ls.length → (j : Int) ∈ done → at0 out j = farI ls t j + 1
  no : ∀ j : Nat, j < ls.length → (j : Int) ∉ done → j ≠ u → at0 out j = if (j : Int) = t then 1 else 0
  here : Best ls t u nd (at0 out u)
  un : (u : Int) ∉ done
theorem Cnt.start {ls : List (List Int)} {t : Nat} (ht : t < ls.length) : Cnt ls t [] ((List.replicate ls.length 0).set t 1) := by
  refine ⟨by simp, fun j hj h => by simp at h, fun j hj _ => ?_⟩
  rw [at0_set (by simpa using ht)]
  by_cases h : j = t
  · rw [if_pos h, if_pos (by omega)]
  · rw [if_neg h, if_neg (by omega), at0_get (by simpa using hj), List.getElem_replicate]
theorem Cnt.open {ls : List (List Int)} {t : Int} {done out : List Int} {u : Nat} (h : Cnt ls t done out) (hu : u < ls.length) (hn : (u : Int) ∉ done) : CntI ls t done u [] out := by
  refine ⟨h.len, h.yes, fun j hj hd _ => h.no j hj hd, ?_, hn⟩
  rw [h.no u hu hn]
  by_cases he : (u : Int) = t
  · rw [if_pos he]; exact ⟨by omega, fun _ => rfl, fun x hx => by simp at hx, fun _ => .inl he⟩
  · rw [if_neg he]; exact ⟨by omega, fun h => absurd h he, fun x hx => by simp at hx, fun h => by omega⟩
theorem CntI.close {ls : List (List Int)} {t : Int} {done out : List Int} {u : Nat} (hu : u < ls.length) (h : CntI ls t done u ls[u] out) : Cnt ls t (done ++ [(u : Int)]) out := by
  refine ⟨h.len, fun j hj hd => ?_, fun j hj hd => ?_⟩
  · rw [List.mem_append, List.mem_singleton] at hd
    rcases hd with hd | hd
    · exact h.yes j hj hd
    · obtain rfl : j = u := by omega
      exact h.here.done hu
  · rw [List.mem_append, List.mem_singleton, not_or] at hd
    exact h.no j hj hd.1 (by omega)
/-- One need seen: not better. -/
theorem CntI.skip {ls : List (List Int)} {t : Int} {done nd out : List Int} {u k : Nat} (h : CntI ls t done u nd out) (hk : k < ls.length) (hd : (k : Int) ∈ done) (hs : ¬ (0 < at0 out k ∧ (at0 out u = 0 ∨ at0 out k + 1 < at0 out u))) : CntI ls t done u (nd ++ [(k : Int)]) out := by
  have hf := h.yes k hk hd
  have hl := h.here.low
  refine ⟨h.len, h.yes, h.no, ⟨hl, h.here.self, fun x hx h0 => ?_, fun hc => ?_⟩, h.un⟩
  · rw [List.mem_append, List.mem_singleton] at hx
    rcases hx with hx | hx
    · exact h.here.least x hx h0
    · subst hx
      omega
  · rcases h.here.some hc with h1 | ⟨x, hx, h2⟩
    · exact .inl h1
    · exact .inr ⟨x, by simp [hx], h2⟩
/-- One need seen: better. -/
theorem CntI.put {ls : List (List Int)} {t : Int} {done nd out : List Int} {u k : Nat} (h : CntI ls t done u nd out) (hu : u < ls.length) (hk : k < ls.length) (hd : (k : Int) ∈ done) (hs : 0 < at0 out k ∧ (at0 out u = 0 ∨ at0 out k + 1 < at0 out u)) : CntI ls t done u (nd ++ [(k : Int)]) (out.set u (at0 out k + 1)) := by
  have hf := h.yes k hk hd
  have hl := h.here.low
  have hul : u < out.length := by rw [h.len]; exact hu
  refine ⟨by rw [List.length_set]; exact h.len, fun j hj hd' => ?_, fun j hj hd' hne => ?_, ?_, h.un⟩
  · rw [at0_set hul, if_neg (fun e => h.un (by rw [← e]; exact hd'))]
    exact h.yes j hj hd'
  · rw [at0_set hul, if_neg hne]
    exact h.no j hj hd' hne
  · rw [at0_set hul, if_pos rfl]
    refine ⟨by omega, fun he => ?_, fun x hx h0 => ?_, fun _ => ?_⟩
    · have := h.here.self he; omega
    · rw [List.mem_append, List.mem_singleton] at hx
      rcases hx with hx | hx
      · have := h.here.least x hx h0; omega
      · subst hx; omega
    · exact .inr ⟨k, by simp, by omega, by omega⟩
/-- The counts. -/
noncomputable def countL (ls : List (List Int)) (t : Int) : List Int := (upto ls.length).map (fun k => farI ls t k + 1)
theorem countL_len (ls : List (List Int)) (t : Int) : (countL ls t).length = ls.length := by unfold countL; rw [List.length_map, upto_len]
theorem countL_get {ls : List (List Int)} {t : Int} {j : Nat} (h : j < (countL ls t).length) : (countL ls t)[j] = farI ls t j + 1 := by
  have : ∀ (m : List Int) (h : j < m.length), m = (upto ls.length).map (fun k => farI ls t k + 1) → m[j] = farI ls t j + 1 := by
    intro m h e
    subst e
    simp [upto_get]
  exact this _ h rfl
theorem Cnt.done {ls : List (List Int)} {t : Int} {done out : List Int} (h : Cnt ls t done out) (ha : ∀ j : Nat, j < ls.length → (j : Int) ∈ done) : out = countL ls t := by
  refine List.ext_getElem (by rw [h.len, countL_len]) (fun j h1 h2 => ?_)
  have hj : j < ls.length := by rw [← h.len]; exact h1
  have := h.yes j hj (ha j hj)
  rw [at0_get h1] at this
  rw [this, countL_get]
end Go.Proofs.YtgolhfmmlanmlaaGreatDoor

/- Walks: the counts of the program. -/
namespace Go.Proofs.YtgolhfmmlanmlaaGreatDoor
open Go.RowKit Pth

end Go.Proofs.YtgolhfmmlanmlaaGreatDoor

/- Walks: the way round, told by the program. -/
namespace Go.Proofs.YtgolhfmmlanmlaaGreatDoor
open Go.RowKit Pth

theorem taskG_of {ls : List (List Int)} {l : List Int} {k : Int} (h : goodG ls l = true) : taskG ls l k = (decide (0 ≤ k) && decide (k < (ls.length : Int))) := by unfold taskG; rw [h]; rfl

end Go.Proofs.YtgolhfmmlanmlaaGreatDoor

/- The way round is short. -/
namespace Go.Proofs.YtgolhfmmlanmlaaGreatDoor
open Go.RowKit Pth

theorem loopA_short (ls : List (List Int)) (l : List Int) (t x : Int) : (loopA ls l t x).length ≤ 1000000 := by
  rcases h : taskG ls l t && taskG ls l x with _ | _
  · rw [loopA_no h]; simp
  · rw [loopA_yes h]
    rw [Bool.and_eq_true] at h
    have h1 := taskG_yes h.1
    have h2 := taskG_yes h.2
    unfold loopL
    by_cases hn : farI ls t x < 0
    · rw [if_pos hn]; simp
    · rw [if_neg hn, wayL_len]
      have := far_small (t := t) h1.1 h2.2
      omega
end Go.Proofs.YtgolhfmmlanmlaaGreatDoor

/- Walks: the marked ones of a stretch. -/
namespace Go.Proofs.YtgolhfmmlanmlaaGreatDoor
open Go.RowKit Pth

def markB (bs : List Bool) (k : Int) : Bool := bs.getD k.toNat false
theorem markB_get {bs : List Bool} {k : Nat} (hk : k < bs.length) : markB bs (k : Int) = bs[k] := by
  unfold markB
  rw [show ((k : Int)).toNat = k by omega, List.getD_eq_getElem?_getD, List.getElem?_eq_getElem hk]; rfl

end Go.Proofs.YtgolhfmmlanmlaaGreatDoor

/- Walks: the users in a stretch, marked. -/
namespace Go.Proofs.YtgolhfmmlanmlaaGreatDoor
open Go.RowKit Pth

/-- One user's needs seen. -/
def markOne (u : Nat) (bs : List Bool) (nd : List Int) : List Bool := nd.foldl (fun b x => b.set u (markB b u || markB b x)) bs
def markUs (ls : List (List Int)) (bs : List Bool) (st : List Int) : List Bool := st.foldl (fun b u => markOne u.toNat b (needsAt ls u)) bs
theorem markOne_len (u : Nat) (nd : List Int) : ∀ bs, (markOne u bs nd).length = bs.length := by
  unfold markOne
  induction nd with
  | nil => intro bs; rfl
  | cons x r ih => intro bs; rw [List.foldl_cons, ih, List.length_set]
theorem markOne_snoc (u : Nat) (bs : List Bool) (nd : List Int) (x : Int) : markOne u bs (nd ++ [x]) = (markOne u bs nd).set u (markB (markOne u bs nd) u || markB (markOne u bs nd) x) := by
  unfold markOne; rw [List.foldl_append]; rfl
theorem markUs_len (ls : List (List Int)) (st : List Int) : ∀ bs, (markUs ls bs st).length = bs.length := by
  unfold markUs
  induction st with
  | nil => intro bs; rfl
  | cons x r ih => intro bs; rw [List.foldl_cons, ih, markOne_len]
theorem markUs_snoc (ls : List (List Int)) (bs : List Bool) (st : List Int) (x : Int) : markUs ls bs (st ++ [x]) = markOne x.toNat (markUs ls bs st) (needsAt ls x) := by
  unfold markUs; rw [List.foldl_append]; rfl

end Go.Proofs.YtgolhfmmlanmlaaGreatDoor

/- Plain mathematics of what a change touches: what leads to some tasks and what they lead to; no program. -/
namespace Go.Proofs.YtgolhfmmlanmlaaGreatDoor
namespace Pth

/-- What leads to one of some by needs. -/
inductive Up (ls : List (List Int)) (P : Int → Prop) : Int → Prop
  | base {k : Int} : P k → Up ls P k
  | step {k x : Int} : 0 ≤ k → x ∈ needsAt ls k → Up ls P x → Up ls P k
/-- What some lead to by needs. -/
inductive Dn (ls : List (List Int)) (P : Int → Prop) : Int → Prop
  | base {k : Int} : P k → Dn ls P k
  | step {k u : Int} : 0 ≤ u → k ∈ needsAt ls u → Dn ls P u → Dn ls P k

theorem needs_in {ls : List (List Int)} {k x : Int} (h0 : 0 ≤ k) (h : x ∈ needsAt ls k) : k < (ls.length : Int) := by
  unfold needsAt at h
  rcases Nat.lt_or_ge k.toNat ls.length with h1 | h1
  · omega
  · rw [List.getD_eq_getElem?_getD, List.getElem?_eq_none h1] at h
    simp at h
theorem Up.mono {ls : List (List Int)} {P Q : Int → Prop} (h : ∀ x, P x → Q x) {k : Int} (hk : Up ls P k) : Up ls Q k := by
  induction hk with
  | base hp => exact .base (h _ hp)
  | step h0 hx _ ih => exact .step h0 hx ih
theorem Up.twice {ls : List (List Int)} {P Q : Int → Prop} (h : ∀ x, P x → Up ls Q x) {k : Int} (hk : Up ls P k) : Up ls Q k := by
  induction hk with
  | base hp => exact h _ hp
  | step h0 hx _ ih => exact .step h0 hx ih
theorem Dn.twice {ls : List (List Int)} {P Q : Int → Prop} (h : ∀ x, P x → Dn ls Q x) {k : Int} (hk : Dn ls P k) : Dn ls Q k := by
  induction hk with
  | base hp => exact h _ hp
  | step h0 hx _ ih => exact .step h0 hx ih
theorem Dn.mono {ls : List (List Int)} {P Q : Int → Prop} (h : ∀ x, P x → Q x) {k : Int} (hk : Dn ls P k) : Dn ls Q k := hk.twice (fun x hx => .base (h x hx))
theorem Up.none {ls : List (List Int)} {k : Int} : ¬ Up ls (fun _ => False) k := by
  intro h
  induction h with
  | base h => exact h
  | step _ _ _ ih => exact ih
theorem Dn.none {ls : List (List Int)} {k : Int} : ¬ Dn ls (fun _ => False) k := by
  intro h
  induction h with
  | base h => exact h
  | step _ _ _ ih => exact ih

theorem GoodP.needs_take {ls : List (List Int)} {l : List Int} (h : GoodP ls l) {k : Nat} (hk : k < l.length) {x : Int} (hx : x ∈ needsAt ls l[k]) : x ∈ l.take k := by
  obtain ⟨t, ht, he, _, _, h2⟩ := h.each k hk
  rw [he, needsAt_get ht] at hx
  exact h2 x hx
theorem GoodP.all {ls : List (List Int)} {l : List Int} (h : GoodP ls l) {k : Int} : k ∈ l ↔ 0 ≤ k ∧ k < (ls.length : Int) :=
  ⟨h.range k, fun hk => all_there h.same h.nodup h.range hk⟩
theorem GoodP.self {ls : List (List Int)} {l : List Int} (h : GoodP ls l) {k : Nat} (hk : k < l.length) : l[k] ∉ needsAt ls l[k] := fun hx => nodup_at h.nodup hk (h.needs_take hk hx)
theorem Up.range {ls : List (List Int)} {P : Int → Prop} (hp : ∀ x, P x → 0 ≤ x ∧ x < (ls.length : Int)) {k : Int} (h : Up ls P k) : 0 ≤ k ∧ k < (ls.length : Int) := by
  cases h with
  | base h => exact hp _ h
  | step h0 hx _ => exact ⟨h0, needs_in h0 hx⟩
theorem Dn.range {ls : List (List Int)} {l : List Int} (hg : GoodP ls l) {P : Int → Prop} (hp : ∀ x, P x → 0 ≤ x ∧ x < (ls.length : Int)) {k : Int} (h : Dn ls P k) : 0 ≤ k ∧ k < (ls.length : Int) := by
  cases h with
  | base h => exact hp _ h
  | step h0 hx _ =>
    rename_i u hu
    have hul := hg.all.2 ⟨h0, needs_in h0 hx⟩
    obtain ⟨i, hi, rfl⟩ := List.getElem_of_mem hul
    exact hg.range _ (List.mem_of_mem_take (hg.needs_take hi hx))

/-- Along the order: one is marked where one that it needs is. -/
theorem up_along {ls : List (List Int)} {l : List Int} (hg : GoodP ls l) {P : Int → Prop} {S : Nat → Int → Prop} (h0 : ∀ y ∈ l, S 0 y ↔ P y)
    (hs : ∀ k (hk : k < l.length), ∀ y ∈ l, (S (k + 1) y ↔ S k y ∨ (y = l[k] ∧ ∃ x ∈ needsAt ls l[k], S k x))) :
    ∀ k, k ≤ l.length → ∀ y ∈ l, (S k y ↔ P y ∨ (y ∈ l.take k ∧ Up ls P y)) := by
  intro k
  induction k with
  | zero => intro _ y hy; rw [h0 y hy]; simp
  | succ k ih =>
    intro hk y hy
    have hk' : k < l.length := by omega
    rw [hs k hk' y hy, ih (by omega) y hy]
    have hu0 := (hg.range l[k] (List.getElem_mem hk')).1
    constructor
    · rintro ((h | ⟨h1, h2⟩) | ⟨rfl, x, hx, hxs⟩)
      · exact .inl h
      · exact .inr ⟨List.mem_of_mem_take (i := k) (by rw [List.take_take, Nat.min_eq_left (by omega)]; exact h1), h2⟩
      · have hxl := hg.needs_take hk' hx
        refine .inr ⟨by rw [List.take_succ_eq_append_getElem hk']; exact List.mem_append.2 (.inr (List.mem_singleton.2 rfl)), ?_⟩
        rcases (ih (by omega) x (List.mem_of_mem_take hxl)).1 hxs with h | ⟨_, h⟩
        · exact .step hu0 hx (.base h)
        · exact .step hu0 hx h
    · rintro (h | ⟨h1, h2⟩)
      · exact .inl (.inl h)
      · rw [List.take_succ_eq_append_getElem hk', List.mem_append, List.mem_singleton] at h1
        rcases h1 with h1 | rfl
        · exact .inl (.inr ⟨h1, h2⟩)
        · cases h2 with
          | base h => exact .inl (.inl h)
          | @step _ x _ hx hux =>
            have hxl := hg.needs_take hk' hx
            exact .inr ⟨rfl, x, hx, (ih (by omega) x (List.mem_of_mem_take hxl)).2 (.inr ⟨hxl, hux⟩)⟩
theorem up_whole {ls : List (List Int)} {l : List Int} (hg : GoodP ls l) {P : Int → Prop} {S : Nat → Int → Prop} (h0 : ∀ y ∈ l, S 0 y ↔ P y)
    (hs : ∀ k (hk : k < l.length), ∀ y ∈ l, (S (k + 1) y ↔ S k y ∨ (y = l[k] ∧ ∃ x ∈ needsAt ls l[k], S k x))) :
    ∀ y ∈ l, (S l.length y ↔ Up ls P y) := by
  intro y hy
  rw [up_along hg h0 hs l.length (Nat.le_refl _) y hy, List.take_length]
  constructor
  · rintro (h | ⟨_, h⟩)
    · exact .base h
    · exact h
  · exact fun h => .inr ⟨hy, h⟩

/-- Against the order: what one needs that is marked is marked. -/
theorem dn_along {ls : List (List Int)} {l : List Int} (hg : GoodP ls l) {P : Int → Prop} {S : Nat → Int → Prop} (h0 : ∀ y ∈ l, S 0 y ↔ P y)
    (hs : ∀ k (hk : k < l.length), ∀ y ∈ l, (S (l.length - k) y ↔ S (l.length - (k + 1)) y ∨ (S (l.length - (k + 1)) l[k] ∧ y ∈ needsAt ls l[k]))) :
    ∀ j, j ≤ l.length → ∀ y ∈ l, (S j y ↔ P y ∨ ∃ i, ∃ hi : i < l.length, l.length - j ≤ i ∧ Dn ls P l[i] ∧ y ∈ needsAt ls l[i]) := by
  intro j
  induction j with
  | zero =>
    intro _ y hy
    rw [h0 y hy]
    constructor
    · exact .inl
    · rintro (h | ⟨i, hi, h, _⟩)
      · exact h
      · omega
  | succ j ih =>
    intro hj y hy
    have hk : l.length - (j + 1) < l.length := by omega
    have hst := hs (l.length - (j + 1)) hk y hy
    rw [show l.length - (l.length - (j + 1)) = j + 1 by omega, show l.length - (l.length - (j + 1) + 1) = j by omega] at hst
    have hul := List.getElem_mem hk
    have hu0 := (hg.range _ hul).1
    have hU : S j l[l.length - (j + 1)] ↔ Dn ls P l[l.length - (j + 1)] := by
      rw [ih (by omega) _ hul]
      constructor
      · rintro (h | ⟨i, hi, _, h, hm⟩)
        · exact .base h
        · exact .step (hg.range _ (List.getElem_mem hi)).1 hm h
      · intro h
        cases h with
        | base h => exact .inl h
        | step hv0 hm hv =>
          rename_i v
          obtain ⟨i, hi, rfl⟩ := List.getElem_of_mem (hg.all.2 ⟨hv0, needs_in hv0 hm⟩)
          have h1 := (mem_take_pos.1 (hg.needs_take hi hm)).2
          rw [pos_nodup hg.nodup hk] at h1
          exact .inr ⟨i, hi, by omega, hv, hm⟩
    rw [hst, ih (by omega) y hy, hU]
    constructor
    · rintro ((h | ⟨i, hi, h1, h2, h3⟩) | ⟨h1, h2⟩)
      · exact .inl h
      · exact .inr ⟨i, hi, by omega, h2, h3⟩
      · exact .inr ⟨_, hk, Nat.le_refl _, h1, h2⟩
    · rintro (h | ⟨i, hi, h1, h2, h3⟩)
      · exact .inl (.inl h)
      · rcases Nat.lt_or_ge i (l.length - j) with h4 | h4
        · obtain rfl : i = l.length - (j + 1) := by omega
          exact .inr ⟨h2, h3⟩
        · exact .inl (.inr ⟨i, hi, h4, h2, h3⟩)
theorem dn_whole {ls : List (List Int)} {l : List Int} (hg : GoodP ls l) {P : Int → Prop} {S : Nat → Int → Prop} (h0 : ∀ y ∈ l, S 0 y ↔ P y)
    (hs : ∀ k (hk : k < l.length), ∀ y ∈ l, (S (l.length - k) y ↔ S (l.length - (k + 1)) y ∨ (S (l.length - (k + 1)) l[k] ∧ y ∈ needsAt ls l[k]))) :
    ∀ y ∈ l, (S l.length y ↔ Dn ls P y) := by
  intro y hy
  rw [dn_along hg h0 hs l.length (Nat.le_refl _) y hy]
  constructor
  · rintro (h | ⟨i, hi, _, h, hm⟩)
    · exact .base h
    · exact .step (hg.range _ (List.getElem_mem hi)).1 hm h
  · intro h
    cases h with
    | base h => exact .inl h
    | step hv0 hm hv =>
      obtain ⟨i, hi, rfl⟩ := List.getElem_of_mem (hg.all.2 ⟨hv0, needs_in hv0 hm⟩)
      exact .inr ⟨i, hi, by omega, hv, hm⟩

/-- The reference's list, one task's needs seen. -/
def touch1 (k : Int) (out nd : List Int) : List Int := nd.foldl (fun o x => if hasL o x then putL o k else o) out
def touchL (ls : List (List Int)) (out st : List Int) : List Int := st.foldl (fun o k => touch1 k o (needsAt ls k)) out
theorem touch1_mem {k : Int} {nd : List Int} (hk : k ∉ nd) : ∀ {out : List Int} {y : Int}, y ∈ touch1 k out nd ↔ y ∈ out ∨ (y = k ∧ ∃ x ∈ nd, x ∈ out) := by
  induction nd with
  | nil => intro out y; simp [touch1]
  | cons z r ih =>
    intro out y
    rw [List.mem_cons, not_or] at hk
    show y ∈ touch1 k (if hasL out z then putL out k else out) r ↔ _
    rw [ih hk.2]
    by_cases hz : z ∈ out
    · have : hasL out z = true := by simp [hasL, hz]
      rw [this, if_pos rfl, mem_put]
      constructor
      · rintro ((h | h) | ⟨h1, x, hx, h2⟩)
        · exact .inr ⟨h, z, by simp, hz⟩
        · exact .inl h
        · exact .inr ⟨h1, z, by simp, hz⟩
      · rintro (h | ⟨h1, _⟩)
        · exact .inl (.inr h)
        · exact .inl (.inl h1)
    · have : hasL out z = false := by simp [hasL, hz]
      rw [this, if_neg (by simp)]
      constructor
      · rintro (h | ⟨h1, x, hx, h2⟩)
        · exact .inl h
        · exact .inr ⟨h1, x, by simp [hx], h2⟩
      · rintro (h | ⟨h1, x, hx, h2⟩)
        · exact .inl h
        · rw [List.mem_cons] at hx
          rcases hx with rfl | hx
          · exact absurd h2 hz
          · exact .inr ⟨h1, x, hx, h2⟩
theorem touch1_rise {k : Int} (nd : List Int) : ∀ {out : List Int}, Rise out → Rise (touch1 k out nd) := by
  induction nd with
  | nil => intro out h; exact h
  | cons z r ih =>
    intro out h
    show Rise (touch1 k (if hasL out z then putL out k else out) r)
    apply ih
    split
    · exact put_rise h
    · exact h
theorem touch1_snoc (k : Int) (out nd : List Int) (x : Int) : touch1 k out (nd ++ [x]) = if hasL (touch1 k out nd) x then putL (touch1 k out nd) k else touch1 k out nd := by
  unfold touch1; rw [List.foldl_append]; rfl
theorem touchL_snoc (ls : List (List Int)) (out st : List Int) (k : Int) : touchL ls out (st ++ [k]) = touch1 k (touchL ls out st) (needsAt ls k) := by
  unfold touchL; rw [List.foldl_append]; rfl
theorem touchL_rise (ls : List (List Int)) (st : List Int) : ∀ {out : List Int}, Rise out → Rise (touchL ls out st) := by
  induction st with
  | nil => intro out h; exact h
  | cons z r ih => intro out h; exact ih (touch1_rise _ h)
theorem touchL_mem {ls : List (List Int)} {l : List Int} (hg : GoodP ls l) {cs : List Int} : ∀ y ∈ l, (y ∈ touchL ls cs l ↔ Up ls (· ∈ cs) y) := by
  have := up_whole hg (P := (· ∈ cs)) (S := fun k y => y ∈ touchL ls cs (l.take k)) (fun y _ => by simp [touchL]) (fun k hk y _ => by
    show y ∈ touchL ls cs (l.take (k + 1)) ↔ _
    rw [List.take_succ_eq_append_getElem hk, touchL_snoc, touch1_mem (hg.self hk)])
  simpa using this
theorem touchL_in {ls : List (List Int)} (n : Nat) {st : List Int} (hst : ∀ x ∈ st, 0 ≤ x ∧ x < (n : Int)) : ∀ {out : List Int}, (∀ x ∈ out, 0 ≤ x ∧ x < (n : Int)) → ∀ x ∈ touchL ls out st, 0 ≤ x ∧ x < (n : Int) := by
  induction st with
  | nil => intro out h; exact h
  | cons z r ih =>
    intro out h
    refine ih (fun x hx => hst x (by simp [hx])) (fun x hx => ?_)
    have hx' : x ∈ touch1 z out (needsAt ls z) := hx
    have key : ∀ (nd o : List Int), (∀ x ∈ o, 0 ≤ x ∧ x < (n : Int)) → ∀ x ∈ touch1 z o nd, 0 ≤ x ∧ x < (n : Int) := by
      intro nd
      induction nd with
      | nil => intro o h; exact h
      | cons a b ihb =>
        intro o ho
        refine ihb _ (fun x hx0 => ?_)
        have hx : x ∈ (if hasL o a then putL o z else o) := hx0
        split at hx
        · rcases mem_put.1 hx with rfl | hx
          · exact hst _ (by simp)
          · exact ho x hx
        · exact ho x hx
    exact key _ _ h x hx'

open Classical in
/-- What leads to one of some, rising. -/
noncomputable def touchS (ls : List (List Int)) (cs : List Int) : List Int := (upto ls.length).filter (fun y => decide (Up ls (· ∈ cs) y))
open Classical in
/-- What some lead to, rising. -/
noncomputable def needS (ls : List (List Int)) (cs : List Int) : List Int := (upto ls.length).filter (fun y => decide (Dn ls (· ∈ cs) y))
theorem mem_touchS {ls : List (List Int)} {cs : List Int} {y : Int} : y ∈ touchS ls cs ↔ (0 ≤ y ∧ y < (ls.length : Int)) ∧ Up ls (· ∈ cs) y := by
  unfold touchS; rw [List.mem_filter, mem_upto, @decide_eq_true_iff _ (Classical.propDecidable _)]
theorem mem_needS {ls : List (List Int)} {cs : List Int} {y : Int} : y ∈ needS ls cs ↔ (0 ≤ y ∧ y < (ls.length : Int)) ∧ Dn ls (· ∈ cs) y := by
  unfold needS; rw [List.mem_filter, mem_upto, @decide_eq_true_iff _ (Classical.propDecidable _)]
theorem filter_rise {p : Int → Bool} {l : List Int} (h : Rise l) : Rise (l.filter p) := List.Pairwise.filter p h
theorem touchS_rise (ls : List (List Int)) (cs : List Int) : Rise (touchS ls cs) := filter_rise (upto_rise _)
theorem needS_rise (ls : List (List Int)) (cs : List Int) : Rise (needS ls cs) := filter_rise (upto_rise _)
theorem touchS_len (ls : List (List Int)) (cs : List Int) : (touchS ls cs).length ≤ ls.length := by
  have := List.length_filter_le (fun y => @decide (Up ls (· ∈ cs) y) (Classical.propDecidable _)) (upto ls.length)
  rw [upto_len] at this; exact this
theorem needS_len (ls : List (List Int)) (cs : List Int) : (needS ls cs).length ≤ ls.length := by
  have := List.length_filter_le (fun y => @decide (Dn ls (· ∈ cs) y) (Classical.propDecidable _)) (upto ls.length)
  rw [upto_len] at this; exact this
theorem touchL_is {ls : List (List Int)} {l cs : List Int} (hg : GoodP ls l) (hr : Rise cs) (hc : ∀ x ∈ cs, 0 ≤ x ∧ x < (ls.length : Int)) : touchL ls cs l = touchS ls cs := by
  refine rise_ext (touchL_rise _ _ hr) (touchS_rise _ _) (fun x => ?_)
  rw [mem_touchS]
  constructor
  · intro h
    have hx := touchL_in ls.length hg.range hc x h
    exact ⟨hx, (touchL_mem hg x (hg.all.2 hx)).1 h⟩
  · rintro ⟨hx, h⟩
    exact (touchL_mem hg x (hg.all.2 hx)).2 h

/-- The reference's list of what is needed: one task seen. -/
def need1 (out nd : List Int) : List Int := nd.foldl putL out
theorem need1_mem {nd : List Int} : ∀ {out : List Int} {y : Int}, y ∈ need1 out nd ↔ y ∈ out ∨ y ∈ nd := by
  induction nd with
  | nil => intro out y; simp [need1]
  | cons z r ih =>
    intro out y
    show y ∈ need1 (putL out z) r ↔ _
    rw [ih, mem_put, List.mem_cons]
    constructor
    · rintro ((h | h) | h) <;> simp [h]
    · rintro (h | h | h) <;> simp [h]
theorem need1_rise (nd : List Int) : ∀ {out : List Int}, Rise out → Rise (need1 out nd) := by
  induction nd with
  | nil => intro out h; exact h
  | cons z r ih => intro out h; exact ih (put_rise h)
theorem need1_snoc (out nd : List Int) (x : Int) : need1 out (nd ++ [x]) = putL (need1 out nd) x := by
  unfold need1; rw [List.foldl_append]; rfl
/-- From the place k on to the end, seen from the back. -/
def needF (ls : List (List Int)) (cs : List Int) (st : List Int) : List Int := st.foldr (fun k o => if hasL o k then need1 o (needsAt ls k) else o) cs
theorem needF_rise (ls : List (List Int)) (cs : List Int) (h : Rise cs) (st : List Int) : Rise (needF ls cs st) := by
  induction st with
  | nil => exact h
  | cons z r ih =>
    show Rise (if hasL (needF ls cs r) z then need1 (needF ls cs r) (needsAt ls z) else needF ls cs r)
    split
    · exact need1_rise _ ih
    · exact ih
theorem needF_drop {ls : List (List Int)} {cs l : List Int} {k : Nat} (hk : k < l.length) : needF ls cs (l.drop k) = if hasL (needF ls cs (l.drop (k + 1))) l[k] then need1 (needF ls cs (l.drop (k + 1))) (needsAt ls l[k]) else needF ls cs (l.drop (k + 1)) := by
  rw [List.drop_eq_getElem_cons hk]; rfl
theorem needF_mem {ls : List (List Int)} {l : List Int} (hg : GoodP ls l) {cs : List Int} : ∀ y ∈ l, (y ∈ needF ls cs l ↔ Dn ls (· ∈ cs) y) := by
  have := dn_whole hg (P := (· ∈ cs)) (S := fun j y => y ∈ needF ls cs (l.drop (l.length - j))) (fun y _ => by simp [needF]) (fun k hk y _ => by
    show y ∈ needF ls cs (l.drop (l.length - (l.length - k))) ↔ y ∈ needF ls cs (l.drop (l.length - (l.length - (k + 1)))) ∨ (l[k] ∈ needF ls cs (l.drop (l.length - (l.length - (k + 1)))) ∧ _)
    rw [show l.length - (l.length - k) = k by omega, show l.length - (l.length - (k + 1)) = k + 1 by omega, needF_drop hk]
    by_cases h : l[k] ∈ needF ls cs (l.drop (k + 1))
    · have : hasL (needF ls cs (l.drop (k + 1))) l[k] = true := by simp [hasL, h]
      rw [this, if_pos rfl, need1_mem]
      simp [h]
    · have : hasL (needF ls cs (l.drop (k + 1))) l[k] = false := by simp [hasL, h]
      rw [this, if_neg (by simp)]
      simp [h])
  simpa using this
theorem needF_in {ls : List (List Int)} {n : Nat} {cs : List Int} (hls : ∀ k : Nat, ∀ x ∈ needsAt ls (k : Int), 0 ≤ x ∧ x < (n : Int)) (hc : ∀ x ∈ cs, 0 ≤ x ∧ x < (n : Int)) (st : List Int) (hst : ∀ x ∈ st, 0 ≤ x ∧ x < (n : Int)) : ∀ x ∈ needF ls cs st, 0 ≤ x ∧ x < (n : Int) := by
  induction st with
  | nil => exact hc
  | cons z r ih =>
    intro x hx
    have ih' := ih (fun x hx => hst x (by simp [hx]))
    have hz := hst z (by simp)
    have hx' : x ∈ (if hasL (needF ls cs r) z then need1 (needF ls cs r) (needsAt ls z) else needF ls cs r) := hx
    split at hx'
    · rcases need1_mem.1 hx' with h | h
      · exact ih' x h
      · exact hls z.toNat x (by rw [show ((z.toNat : Nat) : Int) = z by omega]; exact h)
    · exact ih' x hx'
theorem GoodP.needs_range {ls : List (List Int)} {l : List Int} (hg : GoodP ls l) (k : Nat) : ∀ x ∈ needsAt ls (k : Int), 0 ≤ x ∧ x < (ls.length : Int) := by
  intro x hx
  obtain ⟨i, hi, he⟩ := List.getElem_of_mem (hg.all.2 ⟨by omega, needs_in (by omega) hx⟩)
  exact hg.range x (List.mem_of_mem_take (hg.needs_take hi (by rw [he]; exact hx)))
theorem needF_is {ls : List (List Int)} {l cs : List Int} (hg : GoodP ls l) (hr : Rise cs) (hc : ∀ x ∈ cs, 0 ≤ x ∧ x < (ls.length : Int)) : needF ls cs l = needS ls cs := by
  refine rise_ext (needF_rise _ _ hr _) (needS_rise _ _) (fun x => ?_)
  rw [mem_needS]
  constructor
  · intro h
    have hx := needF_in hg.needs_range hc l hg.range x h
    exact ⟨hx, (needF_mem hg x (hg.all.2 hx)).1 h⟩
  · rintro ⟨hx, h⟩
    exact (needF_mem hg x (hg.all.2 hx)).2 h

/-- None that is not among some needs one of them. -/
def Shut (ls : List (List Int)) (cs : List Int) : Prop := ∀ u : Nat, u < ls.length → (u : Int) ∉ cs → ∀ x ∈ needsAt ls u, x ∉ cs
theorem shut_touch {ls : List (List Int)} {cs : List Int} (h : Shut ls cs) (hr : Rise cs) (hc : ∀ x ∈ cs, 0 ≤ x ∧ x < (ls.length : Int)) : touchS ls cs = cs := by
  refine rise_ext (touchS_rise _ _) hr (fun x => ?_)
  rw [mem_touchS]
  constructor
  · rintro ⟨hr0, hu⟩
    clear hr0
    induction hu with
    | base h => exact h
    | @step k x h0 hx _ ih =>
      have hk := needs_in h0 hx
      rcases Classical.em (k ∈ cs) with hm | hm
      · exact hm
      · exact absurd ih (h k.toNat (by omega) (by rw [show ((k.toNat : Nat) : Int) = k by omega]; exact hm) x (by rw [show ((k.toNat : Nat) : Int) = k by omega]; exact hx))
  · exact fun h => ⟨hc x h, .base h⟩
theorem rise_nodup {l : List Int} (h : Rise l) : l.Nodup := List.Pairwise.imp (fun h => by omega) h
theorem touch_shut {ls : List (List Int)} {cs : List Int} (hr : Rise cs) (hc : ∀ x ∈ cs, 0 ≤ x ∧ x < (ls.length : Int)) (h : (touchS ls cs).length = cs.length) : Shut ls cs := by
  intro u hu hn x hx hm
  have hm' : (u : Int) ∈ touchS ls cs := mem_touchS.2 ⟨by omega, .step (by omega) hx (.base hm)⟩
  have := nodup_sub (a := (u : Int) :: cs) (b := touchS ls cs) (List.nodup_cons.2 ⟨hn, rise_nodup hr⟩) (fun y hy => by
    rw [List.mem_cons] at hy
    rcases hy with rfl | hy
    · exact hm'
    · exact mem_touchS.2 ⟨hc y hy, .base hy⟩)
  rw [List.length_cons, h] at this
  omega
open Classical in
noncomputable def shutB (ls : List (List Int)) (cs : List Int) : Bool := decide (Shut ls cs)
theorem shutB_len {ls : List (List Int)} {cs : List Int} (hr : Rise cs) (hc : ∀ x ∈ cs, 0 ≤ x ∧ x < (ls.length : Int)) : decide ((touchS ls cs).length = cs.length) = shutB ls cs := by
  unfold shutB
  rw [Bool.eq_iff_iff, decide_eq_true_iff, @decide_eq_true_iff _ (Classical.propDecidable _)]
  exact ⟨touch_shut hr hc, fun h => by rw [shut_touch h hr hc]⟩
theorem sort_filter {s l : List Int} {n : Nat} {p : Int → Bool} (hn : l.Nodup) (hm : ∀ x, x ∈ l ↔ 0 ≤ x ∧ x < (n : Int)) (hp : s.Perm (l.filter p)) (hs : s.Pairwise (· ≤ ·)) : s = (upto n).filter p := by
  have hd : s.Nodup := hp.nodup_iff.2 (hn.filter p)
  have hr : Rise s := by
    unfold Rise
    have h2 := List.Pairwise.and hs hd
    exact h2.imp (fun h => by omega)
  refine rise_ext hr (filter_rise (upto_rise n)) (fun x => ?_)
  rw [hp.mem_iff, List.mem_filter, List.mem_filter, hm, mem_upto]
end Pth
end Go.Proofs.YtgolhfmmlanmlaaGreatDoor

/- Walks: those that a test picks, in the order and rising; the test is a function value. -/
namespace Go.Proofs.YtgolhfmmlanmlaaGreatDoor
open Go.RowKit Pth

/-- A yes-or-no, and only new memory is written. -/
def BoolB (b : Bool) (w : World) (e : Ending) (w' : World) : Prop := e = .returned (.bool b) ∧ Below w.heap.size w w'
/-- A function value that tells of each number of D whether p holds. -/
def TestV (w0 : World) (fv : Value) (D : Int → Prop) (p : Int → Bool) : Prop :=
  ∃ K cap, fv = .func (.func K) #[] cap ∧ (∀ args w, (callFunc K args).run Tryz.prog w = .ok (.enter K args) w) ∧ ∀ W, Below w0.heap.size w0 W → ∀ x, D x → Calls Tryz.prog K (#[.int .i64 x] ++ cap) W (BoolB (p x) W)
theorem TestV.below {w w' : World} {fv : Value} {D : Int → Prop} {p : Int → Bool} (h : TestV w fv D p) (hb : Below w.heap.size w w') : TestV w' fv D p := by
  obtain ⟨K, cap, h1, h2, h3⟩ := h
  exact ⟨K, cap, h1, h2, fun W hW x hx => h3 W (bth hb hW (Nat.le_refl _)) x hx⟩
theorem filter_yes {l : List Int} {p : Int → Bool} {k : Nat} (hk : k < l.length) (h : p l[k] = true) : (l.take (k + 1)).filter p = (l.take k).filter p ++ [l[k]] := by
  rw [List.take_succ_eq_append_getElem hk, List.filter_append, List.filter_cons, h]; rfl
theorem filter_no {l : List Int} {p : Int → Bool} {k : Nat} (hk : k < l.length) (h : p l[k] = false) : (l.take (k + 1)).filter p = (l.take k).filter p := by
  rw [List.take_succ_eq_append_getElem hk, List.filter_append, List.filter_cons, h]; simp

set_option maxRecDepth 20000 in
set_option maxHeartbeats 4000000 in
theorem ordered_any (ls : List (List Int)) (l : List Int) (p : Int → Bool) (v fv : Value) (w : World) (hst : GraphV w v ls l) (ht : TestV w fv (· ∈ l) p) (h10 : l.length ≤ 1000) :
    Calls Tryz.prog 98 #[v, fv] w (IntsPost w.heap.size (l.filter p) w) := by
  obtain ⟨nv, ov, rfl, h1, h2⟩ := hst
  obtain ⟨an, cn, rfl, hn1, hn2, _⟩ := h1.lists
  obtain ⟨ao, co, rfl, ho1, ho2, hao⟩ := h2.ints
  clear h1 h2
  unfold maxLen at hn2 ho2
  obtain ⟨K, cap, rfl, hent, ht⟩ := ht
  have HT := Lib.hid ht
  have HAO := Lib.hid hao
  clear hao ht
  obtain ⟨wa, hwa⟩ : ∃ wa, wa = w.alloc (.cells #[.slice an ls.length cn, .slice ao l.length co] 39) := ⟨_, rfl⟩
  have HA : Hid (Below w.heap.size w wa) := by rw [hwa]; exact (Below.refl w.heap.size w).alloc (Nat.le_refl _) _
  have HWA := Lib.hid hwa
  clear hwa
  go_enter Tryz.func98, Tryz.ntmps98
  go_wp2_with fail
  rw [← HWA.out]
  go_loopw [5, 11] (fun q i wr => ∃ k : Nat, k ≤ l.length ∧ i = .int .i64 k ∧ Hid (Below w.heap.size w wr) ∧ Hid (wr.ownsRow w.heap.size 3 1 q ((l.take k).filter p).length (I ((l.take k).filter p)))) (fun _ i _ => l.length - (intOf i).toNat)
  case atStart => exact ⟨0, Nat.zero_le _, rfl, HA, none_ownZ _ _ _⟩
  case round =>
    obtain ⟨k, hk, rfl, HB, HN⟩ := hrel
    by_cases hlt : k < l.length
    · obtain ⟨g, o, rfl, hg, hc⟩ := HAO.out k hlt
      have hc1 : wr.cell? ⟨g, o + k, none⟩ = some (.int .i64 l[k]) := by rw [HB.out.cell (p := ⟨g, o + k, none⟩) hg, hc]
      have HC := HT.out wr HB.out l[k] (List.getElem_mem hlt)
      have hfl : ((l.take k).filter p).length ≤ k := by have := List.length_filter_le p (l.take k); rw [List.length_take] at this; omega
      rcases hb : p l[k] with _ | _
      · have HE := Lib.hid (filter_no hlt hb)
        rw [hb] at HC
        have HCC := Lib.hid HC
        obtain ⟨qa, qc, hq⟩ := own_slice HN.out
        subst hq
        clear hc hb HC hfl
        generalize l[k] = x at *
        go_wp2_with fail
        refine HCC.out.mono ?_
        rintro e w2 ⟨rfl, hb2⟩
        have HB2 := Lib.hid (bth HB.out hb2 (Nat.le_refl _))
        have HN2 := Lib.hid (own_below HN.out hb2)
        clear hb2
        go_wp2_with fail
        go_roundw
        case rel => exact ⟨k + 1, by omega, by go_num, HB2, by rw [HE.out]; exact HN2.out⟩
        case measure => simp [intOf]; omega
      · have HE := Lib.hid (filter_yes hlt hb)
        rw [hb] at HC
        have HCC := Lib.hid HC
        have hIl : (I ((l.take k).filter p)).length ≤ 1000000 := by rw [I_len]; omega
        clear hc hb HC hfl
        generalize l[k] = x at *
        generalize (l.take k).filter p = m at *
        go_wp2_with fail
        refine HCC.out.mono ?_
        rintro e w2 ⟨rfl, hb2⟩
        have HB2 := Lib.hid (bth HB.out hb2 (Nat.le_refl _))
        have HNA := Lib.hid (own_Z (own_below HN.out hb2))
        clear hb2 HN
        go_wp2_with (at_builtin; refine wpAppOne elemI rfl _ _ rfl w.heap.size _ (I m) rfl HNA.out _ rfl rfl rfl hIl HB2.out.size ?_; intro v7 w7 hown7 hg7; have HN7 := Lib.hid (own_Z2 hown7); have HB7 := Lib.hid (HB2.out.trans (below_own HNA.out hg7 HB2.out.size)); clear hown7 hg7)
        go_roundw
        case rel => exact ⟨k + 1, by omega, by go_num, HB7, by rw [HE.out]; exact HN7.out⟩
        case measure => simp [intOf]; omega
    · rw [List.take_of_length_le (by omega)] at HN
      obtain ⟨qa, qc, hq⟩ := own_slice HN.out
      subst hq
      go_wp2_with fail
      go_ret
      exact ⟨_, rfl, HN.out, HB.out⟩
end Go.Proofs.YtgolhfmmlanmlaaGreatDoor

/- Walks: risingWhere, areTasks, slices.ContainsFunc at a function value, the test whether a number is among some. -/
namespace Go.Proofs.YtgolhfmmlanmlaaGreatDoor
open Go.RowKit Pth

theorem rising_is {ls : List (List Int)} {l : List Int} (hg : GoodP ls l) (p : Int → Bool) : sortI (l.filter p) = (upto ls.length).filter p :=
  sort_filter hg.nodup (fun _ => hg.all) (sortI_perm _) (sortI_sorted _)

set_option maxRecDepth 20000 in
set_option maxHeartbeats 2000000 in
theorem rising_any (ls : List (List Int)) (l : List Int) (p : Int → Bool) (v fv : Value) (w : World) (hst : GraphV w v ls l) (ht : TestV w fv (· ∈ l) p) (hg : GoodP ls l) :
    Calls Tryz.prog 67 #[v, fv] w (IntsPost w.heap.size ((upto ls.length).filter p) w) := by
  have HV := Lib.hid hst
  have HT := Lib.hid ht
  have HE := Lib.hid (rising_is hg p)
  have h10 : l.length ≤ 10 := by have := hg.same; have := hg.high; omega
  obtain ⟨nv, ov, rfl, h1, h2⟩ := hst
  obtain ⟨an, cn, rfl, hn1, hn2, _⟩ := h1.lists
  obtain ⟨ao, co, rfl, ho1, ho2, _⟩ := h2.ints
  clear h1 h2 ht hg
  unfold maxLen at hn2 ho2
  obtain ⟨wa, hwa⟩ : ∃ wa, wa = w.alloc (.cells #[.slice an ls.length cn, .slice ao l.length co] 39) := ⟨_, rfl⟩
  have P0 : Hid (Blk2 wa w.heap.size 39 (.slice an ls.length cn) (.slice ao l.length co)) := by rw [hwa]; exact Blk2.new
  have HA : Hid (Below w.heap.size w wa) := by rw [hwa]; exact (Below.refl w.heap.size w).alloc (Nat.le_refl _) _
  have HWA := Lib.hid hwa
  have c0 := P0.out.cells.1
  have c1 := P0.out.cells.2
  have HC := Lib.hid (ordered_any ls l p _ fv wa (HV.out.below HA.out) (HT.out.below HA.out) (by omega))
  have hfl : (l.filter p).length ≤ 10 := by have := List.length_filter_le p l; omega
  have HS := Lib.hid (fun u B W ho hB => sortInts_any (l.filter p) u B W ho (by omega) hB)
  clear hwa hfl
  generalize l.filter p = m at *
  go_enter Tryz.func67, Tryz.ntmps67
  go_wp2_with fail
  rw [← HWA.out]
  refine HC.out.mono ?_
  rintro e w1 ⟨v1, rfl, ho1', hb1⟩
  have HB1 := Lib.hid (bth HA.out hb1 (Nat.le_refl _))
  have HO1 := Lib.hid ho1'
  obtain ⟨qa, qc, hq⟩ := own_slice ho1'
  subst hq
  have hs1 := hb1.size
  clear ho1' hb1 c0 c1 HC
  go_wp2_with fail
  refine (HS.out _ wa.heap.size w1 HO1.out hs1).mono ?_
  rintro e w2 ⟨rfl, ho2', hb2⟩
  have HO2 := Lib.hid ho2'
  rw [HE.out] at HO2
  have HB2 := Lib.hid (HB1.out.trans (hb2.mono HA.out.size))
  clear ho2' hb2
  go_wp2_with fail
  go_ret
  exact ⟨_, rfl, own_base HO2.out HA.out.size, HB2.out⟩

/-- A place, or a number below 0 where there is none. -/
def PlaceB (b : Bool) (w : World) (e : Ending) (w' : World) : Prop := ∃ i : Int, e = .returned (.int .i64 i) ∧ (0 ≤ i ↔ b = true) ∧ Below w.heap.size w w'

/-- A block of one cell. -/
def Blk1 (w : World) (b t : Nat) (x : Value) : Prop := w.heap[b]? = some (.cells #[x] t (0, 0))
theorem Blk1.cell {w : World} {b t : Nat} {x : Value} (h : Blk1 w b t x) : w.cell? ⟨b, 0, none⟩ = some x := by rw [cell_of_row w b _ _ t (0, 0) h]; rfl
theorem Blk1.below {w w' : World} {B b t : Nat} {x : Value} (h : Blk1 w b t x) (hb : Below B w w') (hlt : b < B) : Blk1 w' b t x := (hb.block b hlt).trans h
theorem Blk1.new {w : World} {t : Nat} {x : Value} : Blk1 (w.alloc (.cells #[x] t)) w.heap.size t x := heap_alloc_new w _

/-- A function value is handed back that tells whether p. -/
def TestPost (D : Int → Prop) (p : Int → Bool) (w : World) (e : Ending) (w' : World) : Prop := ∃ fv, e = .returned fv ∧ TestV w' fv D p ∧ Below w.heap.size w w' ∧ ∃ K b, fv = .func (.func K) #[] #[.pointer (some ⟨b, 0, none⟩)]

end Go.Proofs.YtgolhfmmlanmlaaGreatDoor

/- Walks: those that a test picks whose first arguments are bound; what is stale, of the program. -/
namespace Go.Proofs.YtgolhfmmlanmlaaGreatDoor
open Go.RowKit Pth

/-- A function value, with arguments bound ahead or none, that tells of each number of D whether p holds. -/
def TestF (w0 : World) (fv : Value) (D : Int → Prop) (p : Int → Bool) : Prop :=
  ∃ K fst cap, fv = .func (.func K) fst cap ∧ (∀ args w, (callFunc K args).run Tryz.prog w = .ok (.enter K args) w) ∧ ∀ W, Below w0.heap.size w0 W → ∀ x, D x → Calls Tryz.prog K ((fst ++ #[.int .i64 x]) ++ cap) W (BoolB (p x) W)
theorem TestF.below {w w' : World} {fv : Value} {D : Int → Prop} {p : Int → Bool} (h : TestF w fv D p) (hb : Below w.heap.size w w') : TestF w' fv D p := by
  obtain ⟨K, fst, cap, h1, h2, h3⟩ := h
  exact ⟨K, fst, cap, h1, h2, fun W hW x hx => h3 W (bth hb hW (Nat.le_refl _)) x hx⟩

set_option maxRecDepth 20000 in
set_option maxHeartbeats 4000000 in
theorem orderedF_any (ls : List (List Int)) (l : List Int) (p : Int → Bool) (v fv : Value) (w : World) (hst : GraphV w v ls l) (ht : TestF w fv (· ∈ l) p) (h10 : l.length ≤ 1000) :
    Calls Tryz.prog 98 #[v, fv] w (IntsPost w.heap.size (l.filter p) w) := by
  obtain ⟨nv, ov, rfl, h1, h2⟩ := hst
  obtain ⟨an, cn, rfl, hn1, hn2, _⟩ := h1.lists
  obtain ⟨ao, co, rfl, ho1, ho2, hao⟩ := h2.ints
  clear h1 h2
  unfold maxLen at hn2 ho2
  obtain ⟨K, fst, cap, rfl, hent, ht⟩ := ht
  have HT := Lib.hid ht
  have HAO := Lib.hid hao
  clear hao ht
  obtain ⟨wa, hwa⟩ : ∃ wa, wa = w.alloc (.cells #[.slice an ls.length cn, .slice ao l.length co] 39) := ⟨_, rfl⟩
  have HA : Hid (Below w.heap.size w wa) := by rw [hwa]; exact (Below.refl w.heap.size w).alloc (Nat.le_refl _) _
  have HWA := Lib.hid hwa
  clear hwa
  go_enter Tryz.func98, Tryz.ntmps98
  go_wp2_with fail
  rw [← HWA.out]
  go_loopw [5, 11] (fun q i wr => ∃ k : Nat, k ≤ l.length ∧ i = .int .i64 k ∧ Hid (Below w.heap.size w wr) ∧ Hid (wr.ownsRow w.heap.size 3 1 q ((l.take k).filter p).length (I ((l.take k).filter p)))) (fun _ i _ => l.length - (intOf i).toNat)
  case atStart => exact ⟨0, Nat.zero_le _, rfl, HA, none_ownZ _ _ _⟩
  case round =>
    obtain ⟨k, hk, rfl, HB, HN⟩ := hrel
    by_cases hlt : k < l.length
    · obtain ⟨g, o, rfl, hg, hc⟩ := HAO.out k hlt
      have hc1 : wr.cell? ⟨g, o + k, none⟩ = some (.int .i64 l[k]) := by rw [HB.out.cell (p := ⟨g, o + k, none⟩) hg, hc]
      have HC := HT.out wr HB.out l[k] (List.getElem_mem hlt)
      have hfl : ((l.take k).filter p).length ≤ k := by have := List.length_filter_le p (l.take k); rw [List.length_take] at this; omega
      rcases hb : p l[k] with _ | _
      · have HE := Lib.hid (filter_no hlt hb)
        rw [hb] at HC
        have HCC := Lib.hid HC
        obtain ⟨qa, qc, hq⟩ := own_slice HN.out
        subst hq
        clear hc hb HC hfl
        generalize l[k] = x at *
        go_wp2_with fail
        refine HCC.out.mono ?_
        rintro e w2 ⟨rfl, hb2⟩
        have HB2 := Lib.hid (bth HB.out hb2 (Nat.le_refl _))
        have HN2 := Lib.hid (own_below HN.out hb2)
        clear hb2
        go_wp2_with fail
        go_roundw
        case rel => exact ⟨k + 1, by omega, by go_num, HB2, by rw [HE.out]; exact HN2.out⟩
        case measure => simp [intOf]; omega
      · have HE := Lib.hid (filter_yes hlt hb)
        rw [hb] at HC
        have HCC := Lib.hid HC
        have hIl : (I ((l.take k).filter p)).length ≤ 1000000 := by rw [I_len]; omega
        clear hc hb HC hfl
        generalize l[k] = x at *
        generalize (l.take k).filter p = m at *
        go_wp2_with fail
        refine HCC.out.mono ?_
        rintro e w2 ⟨rfl, hb2⟩
        have HB2 := Lib.hid (bth HB.out hb2 (Nat.le_refl _))
        have HNA := Lib.hid (own_Z (own_below HN.out hb2))
        clear hb2 HN
        go_wp2_with (at_builtin; refine wpAppOne elemI rfl _ _ rfl w.heap.size _ (I m) rfl HNA.out _ rfl rfl rfl hIl HB2.out.size ?_; intro v7 w7 hown7 hg7; have HN7 := Lib.hid (own_Z2 hown7); have HB7 := Lib.hid (HB2.out.trans (below_own HNA.out hg7 HB2.out.size)); clear hown7 hg7)
        go_roundw
        case rel => exact ⟨k + 1, by omega, by go_num, HB7, by rw [HE.out]; exact HN7.out⟩
        case measure => simp [intOf]; omega
    · rw [List.take_of_length_le (by omega)] at HN
      obtain ⟨qa, qc, hq⟩ := own_slice HN.out
      subst hq
      go_wp2_with fail
      go_ret
      exact ⟨_, rfl, HN.out, HB.out⟩
set_option maxRecDepth 20000 in
set_option maxHeartbeats 2000000 in
theorem risingF_any (ls : List (List Int)) (l : List Int) (p : Int → Bool) (v fv : Value) (w : World) (hst : GraphV w v ls l) (ht : TestF w fv (· ∈ l) p) (hg : GoodP ls l) :
    Calls Tryz.prog 67 #[v, fv] w (IntsPost w.heap.size ((upto ls.length).filter p) w) := by
  have HV := Lib.hid hst
  have HT := Lib.hid ht
  have HE := Lib.hid (rising_is hg p)
  have h10 : l.length ≤ 10 := by have := hg.same; have := hg.high; omega
  obtain ⟨nv, ov, rfl, h1, h2⟩ := hst
  obtain ⟨an, cn, rfl, hn1, hn2, _⟩ := h1.lists
  obtain ⟨ao, co, rfl, ho1, ho2, _⟩ := h2.ints
  clear h1 h2 ht hg
  unfold maxLen at hn2 ho2
  obtain ⟨wa, hwa⟩ : ∃ wa, wa = w.alloc (.cells #[.slice an ls.length cn, .slice ao l.length co] 39) := ⟨_, rfl⟩
  have P0 : Hid (Blk2 wa w.heap.size 39 (.slice an ls.length cn) (.slice ao l.length co)) := by rw [hwa]; exact Blk2.new
  have HA : Hid (Below w.heap.size w wa) := by rw [hwa]; exact (Below.refl w.heap.size w).alloc (Nat.le_refl _) _
  have HWA := Lib.hid hwa
  have c0 := P0.out.cells.1
  have c1 := P0.out.cells.2
  have HC := Lib.hid (orderedF_any ls l p _ fv wa (HV.out.below HA.out) (HT.out.below HA.out) (by omega))
  have hfl : (l.filter p).length ≤ 10 := by have := List.length_filter_le p l; omega
  have HS := Lib.hid (fun u B W ho hB => sortInts_any (l.filter p) u B W ho (by omega) hB)
  clear hwa hfl
  generalize l.filter p = m at *
  go_enter Tryz.func67, Tryz.ntmps67
  go_wp2_with fail
  rw [← HWA.out]
  refine HC.out.mono ?_
  rintro e w1 ⟨v1, rfl, ho1', hb1⟩
  have HB1 := Lib.hid (bth HA.out hb1 (Nat.le_refl _))
  have HO1 := Lib.hid ho1'
  obtain ⟨qa, qc, hq⟩ := own_slice ho1'
  subst hq
  have hs1 := hb1.size
  clear ho1' hb1 c0 c1 HC
  go_wp2_with fail
  refine (HS.out _ wa.heap.size w1 HO1.out hs1).mono ?_
  rintro e w2 ⟨rfl, ho2', hb2⟩
  have HO2 := Lib.hid ho2'
  rw [HE.out] at HO2
  have HB2 := Lib.hid (HB1.out.trans (hb2.mono HA.out.size))
  clear ho2' hb2
  go_wp2_with fail
  go_ret
  exact ⟨_, rfl, own_base HO2.out HA.out.size, HB2.out⟩

theorem stale_filter (one : List ResT → Nat → ResT) (m : List ResT) : (upto m.length).filter (fun x => staleP one m x.toNat) = staleL one m := by
  unfold upto staleL
  rw [List.filter_map]
  rfl

set_option maxRecDepth 20000 in
set_option maxHeartbeats 8000000 in
theorem implStaleIn_any (ls : List (List Int)) (l : List Int) (bs : List Bool) (rs : List (List OpT)) (m : List ResT) (ts : List (List UInt8)) (v u x : Value) (w : World) (hp : PlanV w v ls l bs rs) (hr : RowR w u m) (hts : RowV w x (S ts)) (hx : ∀ l ∈ rs, ∀ f ∈ l, f.2.2.length ≤ maxLen) (hxm0 : ∀ f ∈ m, f.1.length ≤ maxLen) (hxt0 : ∀ x ∈ ts, x.length ≤ maxLen) :
    Calls Tryz.prog 27 #[v, u, x] w (NumsOk (staleA ls l bs rs m ts) (goodA8 ls l bs rs m ts) w) := by
  have HV := Lib.hid hp
  obtain ⟨nv, ov, sv, rv, rfl, h1, h2, h3, h4⟩ := hp
  obtain ⟨as0, cs, rfl, hs1, hs2, _⟩ := h3.boolsW
  obtain ⟨an, cn, rfl, hn1, hn2, _⟩ := h1.lists
  obtain ⟨ao, co, rfl, ho1, ho2, _⟩ := h2.ints
  obtain ⟨ar, cr, rfl, hr1, hr2, _⟩ := h4.lists
  clear h1 h2 h3 h4
  have HR := Lib.hid hr
  obtain ⟨am, cm, rfl, hm1, hm2, _⟩ := hr.res
  clear hr
  have HT := Lib.hid hts
  obtain ⟨at0, ct, rfl, ht1, ht2, _⟩ := hts.texts
  clear hts
  unfold maxLen at hs2 hn2 ho2 hr2 hm2 ht2
  obtain ⟨wa, hwa⟩ : ∃ wa, wa = w.alloc (.cells #[.slice an ls.length cn, .slice ao l.length co, .slice as0 bs.length cs, .slice ar rs.length cr] 42) := ⟨_, rfl⟩
  have hsz : w.heap.size < wa.heap.size := by rw [hwa]; simp
  have P0 : Hid (Blk4 wa w.heap.size 42 (.slice an ls.length cn) (.slice ao l.length co) (.slice as0 bs.length cs) (.slice ar rs.length cr)) := by rw [hwa]; exact Blk4.new
  have HA : Hid (Below w.heap.size w wa) := by rw [hwa]; exact (Below.refl w.heap.size w).alloc (Nat.le_refl _) _
  have HWA : Hid (w.alloc (.cells #[.slice an ls.length cn, .slice ao l.length co, .slice as0 bs.length cs, .slice ar rs.length cr] 42) = wa) := by rw [hwa]; rfl
  clear hwa
  have HPV : Hid (∀ W, Below w.heap.size w W → PlanV W (.agg #[.slice an ls.length cn, .slice ao l.length co, .slice as0 bs.length cs, .slice ar rs.length cr]) ls l bs rs) := fun W h => HV.out.below h
  have HRV : Hid (∀ W, Below w.heap.size w W → RowR W (.slice am m.length cm) m) := fun W h => HR.out.below h
  have HTV : Hid (∀ W, Below w.heap.size w W → RowV W (.slice at0 ts.length ct) (S ts)) := fun W h => HT.out.below h
  obtain ⟨b, hb⟩ : ∃ b, goodA8 ls l bs rs m ts = b := ⟨_, rfl⟩
  rcases b with _ | _
  · have HE : Hid (staleA ls l bs rs m ts = []) := by show _ = _; unfold staleA; rw [hb]; rfl
    have HC := Lib.hid (startRem_no ls l bs rs m ts an ao as0 ar at0 am cn co cs cr ct cm wa (HPV.out wa HA.out) (HRV.out wa HA.out) (HTV.out wa HA.out) hx hxm0 hxt0 hb)
    rw [HE.out, hb]
    obtain ⟨c0, c1, c2, c3⟩ := P0.out.cells
    clear hb hx hxm0 hxt0 HE
    go_enter Tryz.func27, Tryz.ntmps27
    go_wp2_with fail
    rw [HWA.out]
    refine HC.out.mono ?_
    rintro e w1 ⟨rfl, hb1⟩
    have HW1 := Lib.hid ((bth HA.out hb1 (Nat.le_refl _)).alloc (Nat.le_trans HA.out.size hb1.size) (.cells #[.slice none 0 0, .slice none 0 0, .slice none 0 0, .slice none 0 0, .slice none 0 0, .slice none 0 0, .slice none 0 0] 102))
    clear hb1 c0 c1 c2 c3 HC
    go_wp2_with fail
    go_ret2
    exact ⟨_, rfl, none_own _ _ _, HW1.out⟩
  obtain ⟨hpl, hmb, htb, hsm, hst, _, _⟩ := good8_parts hb
  have hG := (plan_parts hpl).1
  have hbl := (plan_parts hpl).2.1
  have hml : m.length = ls.length := by omega
  have HE : Hid (staleA ls l bs rs m ts = (upto ls.length).filter (fun x => staleP (oneM ls bs rs ts) m x.toNat)) := by show _ = _; unfold staleA; rw [hb, if_pos rfl, ← hml]; exact (stale_filter _ _).symm
  have HC := Lib.hid (startRem_yes ls l bs rs m ts an ao as0 ar at0 am cn co cs cr ct cm wa (HPV.out wa HA.out) (HRV.out wa HA.out) (HTV.out wa HA.out) hx hxm0 hxt0 hb)
  have HST : Hid (∀ W v (y : Nat), RemV W v ls l bs rs ts m m → y < ls.length → Calls Tryz.prog 68 #[v, .int .i64 (y : Int)] W fun e w' => e = .returned (.bool (staleP (oneM ls bs rs ts) m y)) ∧ Below W.heap.size W w') := fun W v y h1 h2 => isStale_any ls l bs rs m m ts y v W h1 hpl hmb htb h2 hsm hst
  have HGV : Hid (∀ W, Below w.heap.size w W → GraphV W (.agg #[.slice an ls.length cn, .slice ao l.length co]) ls l) := fun W h => by
    obtain ⟨_, _, _, _, he, k1, k2, _, _⟩ := HPV.out W h
    injection he with he
    simp only [Array.mk.injEq, List.cons.injEq, and_true] at he
    obtain ⟨rfl, rfl, _, _⟩ := he
    exact ⟨_, _, rfl, k1, k2⟩
  have HGP := Lib.hid hG.toP
  rw [HE.out, hb]
  obtain ⟨c0, c1, c2, c3⟩ := P0.out.cells
  clear hb hx hxm0 hxt0 HE hpl hmb htb hsm hst hG hbl hml
  go_enter Tryz.func27, Tryz.ntmps27
  go_wp2_with fail
  rw [HWA.out]
  refine HC.out.mono ?_
  rintro e w1 ⟨g, rfl, ho1, hb1⟩
  have HO1 := Lib.hid ho1
  have HB1 := Lib.hid hb1
  obtain ⟨wb, hwb⟩ : ∃ wb, wb = w1.alloc (.cells #[.slice an ls.length cn, .slice ao l.length co, .slice as0 bs.length cs, .slice ar rs.length cr, .slice at0 ts.length ct, .slice am m.length cm, .slice (some ⟨g, 0, none⟩) m.length m.length] 102) := ⟨_, rfl⟩
  have hBB : Below w1.heap.size w1 wb := by rw [hwb]; exact (Below.refl _ w1).alloc (Nat.le_refl _) _
  have HWB : Hid (w1.alloc (.cells #[.slice an ls.length cn, .slice ao l.length co, .slice as0 bs.length cs, .slice ar rs.length cr, .slice at0 ts.length ct, .slice am m.length cm, .slice (some ⟨g, 0, none⟩) m.length m.length] 102) = wb) := by rw [hwb]; rfl
  have KB := Lib.hid (bth HA.out (bth HB1.out hBB (Nat.le_refl _)) (Nat.le_refl _))
  have HOB := Lib.hid (own_belowG HO1.out hBB)
  have hlt1 : w.heap.size < w1.heap.size := Nat.lt_of_lt_of_le hsz hb1.size
  have HTF : Hid (TestF wb (.func (.func 68) #[.agg #[.slice an ls.length cn, .slice ao l.length co, .slice as0 bs.length cs, .slice ar rs.length cr, .slice at0 ts.length ct, .slice am m.length cm, .slice (some ⟨g, 0, none⟩) m.length m.length]] #[]) (· ∈ l) (fun x => staleP (oneM ls bs rs ts) m x.toNat)) := ⟨68, #[.agg #[.slice an ls.length cn, .slice ao l.length co, .slice as0 bs.length cs, .slice ar rs.length cr, .slice at0 ts.length ct, .slice am m.length cm, .slice (some ⟨g, 0, none⟩) m.length m.length]], #[], rfl, enters_of Tryz.func68 (by kernel_rfl) rfl, fun W hW x hxl => by
    have hr := HGP.out.range x hxl
    obtain ⟨y, rfl⟩ : ∃ y : Nat, x = y := ⟨x.toNat, by omega⟩
    have KW := bth KB.out hW (Nat.le_refl _)
    exact HST.out W _ y ⟨_, _, _, _, _, _, _, rfl, HPV.out W KW, HTV.out W KW, HRV.out W KW, RowR.of_own (own_belowG HOB.out hW)⟩ (by omega)⟩
  have HRI := Lib.hid (risingF_any ls l (fun x => staleP (oneM ls bs rs ts) m x.toNat) _ _ wb (HGV.out wb KB.out) HTF.out HGP.out)
  clear hb1 ho1 c0 c1 c2 c3 HC hwb
  obtain ⟨c0, c1, c2, c3⟩ := (P0.out.below HB1.out hsz).cells
  go_wp2_with fail
  rw [HWB.out]
  refine HRI.out.mono ?_
  rintro e w3 ⟨v3, rfl, ho3, hb3⟩
  have HO3 := Lib.hid ho3
  have HW3 := Lib.hid (bth KB.out hb3 (Nat.le_refl _))
  have hs3 := KB.out.size
  obtain ⟨q1, q2, rfl⟩ := own_slice ho3
  clear hb3 ho3 c0 c1 c2 c3
  go_wp2_with fail
  go_ret2
  exact ⟨_, rfl, own_base HO3.out hs3, HW3.out⟩

set_option maxRecDepth 20000 in
set_option maxHeartbeats 8000000 in
theorem implIsBuilt_any (ls : List (List Int)) (l : List Int) (bs : List Bool) (rs : List (List OpT)) (m : List ResT) (ts : List (List UInt8)) (v u x : Value) (w : World) (hp : PlanV w v ls l bs rs) (hr : RowR w u m) (hts : RowV w x (S ts)) (hx : ∀ l ∈ rs, ∀ f ∈ l, f.2.2.length ≤ maxLen) (hxm0 : ∀ f ∈ m, f.1.length ≤ maxLen) (hxt0 : ∀ x ∈ ts, x.length ≤ maxLen) :
    Calls Tryz.prog 32 #[v, u, x] w fun e w' => e = .returned (.tuple #[.bool (goodA8 ls l bs rs m ts && decide ((staleA ls l bs rs m ts).length = 0)), .bool (goodA8 ls l bs rs m ts)]) ∧ Below w.heap.size w w' := by
  have HV := Lib.hid hp
  obtain ⟨nv, ov, sv, rv, rfl, h1, h2, h3, h4⟩ := hp
  obtain ⟨as0, cs, rfl, hs1, hs2, _⟩ := h3.boolsW
  obtain ⟨an, cn, rfl, hn1, hn2, _⟩ := h1.lists
  obtain ⟨ao, co, rfl, ho1, ho2, _⟩ := h2.ints
  obtain ⟨ar, cr, rfl, hr1, hr2, _⟩ := h4.lists
  clear h1 h2 h3 h4
  have HR := Lib.hid hr
  obtain ⟨am, cm, rfl, hm1, hm2, _⟩ := hr.res
  clear hr
  have HT := Lib.hid hts
  obtain ⟨at0, ct, rfl, ht1, ht2, _⟩ := hts.texts
  clear hts
  unfold maxLen at hs2 hn2 ho2 hr2 hm2 ht2
  obtain ⟨wa, hwa⟩ : ∃ wa, wa = w.alloc (.cells #[.slice an ls.length cn, .slice ao l.length co, .slice as0 bs.length cs, .slice ar rs.length cr] 42) := ⟨_, rfl⟩
  have hsz : w.heap.size < wa.heap.size := by rw [hwa]; simp
  have P0 : Hid (Blk4 wa w.heap.size 42 (.slice an ls.length cn) (.slice ao l.length co) (.slice as0 bs.length cs) (.slice ar rs.length cr)) := by rw [hwa]; exact Blk4.new
  have HA : Hid (Below w.heap.size w wa) := by rw [hwa]; exact (Below.refl w.heap.size w).alloc (Nat.le_refl _) _
  have HWA : Hid (w.alloc (.cells #[.slice an ls.length cn, .slice ao l.length co, .slice as0 bs.length cs, .slice ar rs.length cr] 42) = wa) := by rw [hwa]; rfl
  clear hwa
  have HC := Lib.hid (implStaleIn_any ls l bs rs m ts _ _ _ wa (HV.out.below HA.out) (HR.out.below HA.out) (HT.out.below HA.out) hx hxm0 hxt0)
  obtain ⟨c0, c1, c2, c3⟩ := P0.out.cells
  clear hx hxm0 hxt0
  generalize staleA ls l bs rs m ts = R at *
  generalize goodA8 ls l bs rs m ts = b at *
  rcases b with _ | _
  · go_enter Tryz.func32, Tryz.ntmps32
    go_wp2_with fail
    rw [HWA.out]
    refine HC.out.mono ?_
    rintro e w1 ⟨v1, rfl, ho1, hb1⟩
    have HW1 := Lib.hid (bth HA.out hb1 (Nat.le_refl _))
    obtain ⟨q1, q2, rfl⟩ := own_slice ho1
    clear hb1 c0 c1 c2 c3 ho1
    go_wp2_with fail
    go_ret2
    exact ⟨rfl, HW1.out⟩
  · have hd : ((R.length : Int) == 0) = decide (R.length = 0) := by rw [Bool.eq_iff_iff]; simp
    go_enter Tryz.func32, Tryz.ntmps32
    go_wp2_with fail
    rw [HWA.out]
    refine HC.out.mono ?_
    rintro e w1 ⟨v1, rfl, ho1, hb1⟩
    have HW1 := Lib.hid (bth HA.out hb1 (Nat.le_refl _))
    obtain ⟨q1, q2, rfl⟩ := own_slice ho1
    clear hb1 c0 c1 c2 c3 ho1
    go_wp2_with fail
    go_ret2
    exact ⟨by simp, HW1.out⟩

end Go.Proofs.YtgolhfmmlanmlaaGreatDoor
