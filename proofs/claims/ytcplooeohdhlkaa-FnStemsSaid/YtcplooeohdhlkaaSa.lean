/- Walks: the reference's choices: numbers, texts. -/
import Derived.Test.YtcplooeohdhlkaaQc
namespace Go.Proofs.Ytcplooeohdhlkaa
open Go.RowKit Pth

theorem S_at {l : List (List UInt8)} {k : Nat} (hk : k < l.length) : (S l)[k]? = some (.string ⟨(l[k]).toArray⟩) := by
  simp [S, hk]
theorem only_alloc {a w : World} {row : Option Nat} (h : a.grownBy w row) (o : Obj) : a.grownBy (w.alloc o) row :=
  ⟨h.os, h.tape, h.output, Nat.le_trans h.size (by simp), fun i hi hne => (Below.heap_alloc w o i (Nat.lt_of_lt_of_le hi h.size)).trans (h.block i hi hne)⟩
theorem only_trans {a b c : World} {row row' : Option Nat} (h : a.grownBy b row) (k : b.grownBy c row') (hr : ∀ i, row' = some i → row = some i ∨ a.heap.size ≤ i) : a.grownBy c row :=
  ⟨k.os.trans h.os, k.tape.trans h.tape, k.output.trans h.output, Nat.le_trans h.size k.size, fun i hi hne => (k.block i (Nat.lt_of_lt_of_le hi h.size) (fun e => by
    rcases hr i e.symm with h1 | h1
    · exact hne h1.symm
    · omega)).trans (h.block i hi hne)⟩
theorem block_set {w : World} {b o : Nat} {u : Value} {cs : Array Value} {T : TypeId} {fr : Nat × Nat} (hb : w.heap[b]? = some (.cells cs T fr)) : (w.setCell ⟨b, o, none⟩ u).heap[b]? = some (.cells (cs.setIfInBounds o u) T fr) := by
  simp [World.setCell, Array.getElem?_modify, hb]
theorem only_row {a w : World} {g : Nat} (h : a.grownBy w (some g)) (o : Nat) (u : Value) : a.grownBy (w.setCell ⟨g, o, none⟩ u) (some g) :=
  ⟨h.os, h.tape, h.output, by simpa [World.setCell] using h.size, fun i hi hne => (Below.heap_setCell w ⟨g, o, none⟩ u i (fun e => hne (by rw [e]))).trans (h.block i hi hne)⟩

/-- The reader of choices: a block of the call's own, over bytes that lie below B. -/
def Cur (B b : Nat) (A : Option Addr) (n c k : Nat) (w : World) : Prop :=
  B ≤ b ∧ (∃ sd : Int, w.heap[b]? = some (.cells #[.slice A n c, .int .i64 k, .int .u64 sd] 57)) ∧
  ∀ i, i < n → ∃ g o x, A = some ⟨g, o, none⟩ ∧ g < B ∧ w.cell? ⟨g, o + i, none⟩ = some (.int .u8 x) ∧ 0 ≤ x ∧ x ≤ 255

/-- A number from 0 to 255 is handed back; the reader is one further; nothing else has turned. -/
def NextPost (B b : Nat) (A : Option Addr) (n c k : Nat) (lo hi : Int) (w : World) (e : Ending) (w' : World) : Prop :=
  ∃ x : Int, lo ≤ x ∧ x ≤ hi ∧ e = .returned (.int .i64 x) ∧ Cur B b A n c k w' ∧ w.grownBy w' (some b)

theorem low_byte (z : Int) : 0 ≤ wrap64 (bits .and .u64 z 255) ∧ wrap64 (bits .and .u64 z 255) ≤ 255 := by
  have h : bits .and .u64 z 255 = IntKind.u64.wrap ((BitVec.ofInt 64 z &&& BitVec.ofInt 64 255).toNat : Int) := rfl
  have h2 : (BitVec.ofInt 64 z &&& BitVec.ofInt 64 255).toNat ≤ 255 := by rw [BitVec.toNat_and]; exact Nat.le_trans Nat.and_le_right (by decide)
  rw [h]
  generalize (BitVec.ofInt 64 z &&& BitVec.ofInt 64 255).toNat = n at h2
  have e1 : IntKind.u64.wrap (n : Int) = n := by simp [IntKind.wrap, IntKind.bits, IntKind.signed]; omega
  rw [e1]
  unfold wrap64
  omega
theorem cur_step {B b : Nat} {A : Option Addr} {n c k : Nat} {sd sd' : Int} {w : World} (hB : B ≤ b) (hblk : w.heap[b]? = some (.cells #[.slice A n c, .int .i64 k, .int .u64 sd] 57))
    (hat : ∀ i, i < n → ∃ g o x, A = some ⟨g, o, none⟩ ∧ g < B ∧ w.cell? ⟨g, o + i, none⟩ = some (.int .u8 x) ∧ 0 ≤ x ∧ x ≤ 255) (m m' : Nat) :
    Cur B b A n c (k + 1) ((((w.drewN m).setCell ⟨b, 1, none⟩ (.int .i64 ((k : Int) + 1))).setCell ⟨b, 2, none⟩ (.int .u64 sd')).drewN m') := by
  refine ⟨hB, ⟨sd', ?_⟩, fun i hi => ?_⟩
  · have h1 : (w.drewN m).heap[b]? = some (.cells #[.slice A n c, .int .i64 k, .int .u64 sd] 57) := hblk
    exact (block_set (block_set h1)).trans (by simp)
  · obtain ⟨g, o, x, hA, hg, hc, h0, h1⟩ := hat i hi
    refine ⟨g, o, x, hA, hg, ?_, h0, h1⟩
    show (((w.drewN m).setCell ⟨b, 1, none⟩ (.int .i64 ((k : Int) + 1))).setCell ⟨b, 2, none⟩ (.int .u64 sd')).cell? ⟨g, o + i, none⟩ = _
    rw [World.cell?_of_block (Below.heap_setCell _ _ _ _ (by show g ≠ b; omega)), World.cell?_of_block (Below.heap_setCell _ _ _ _ (by show g ≠ b; omega))]
    exact hc
theorem only_step (b : Nat) (w : World) (u u' : Value) (m m' : Nat) :
    w.grownBy ((((w.drewN m).setCell ⟨b, 1, none⟩ u).setCell ⟨b, 2, none⟩ u').drewN m') (some b) := by
  have h0 : w.grownBy (w.drewN m) (some b) := ⟨rfl, rfl, rfl, Nat.le_refl _, fun _ _ _ => rfl⟩
  have h1 := only_row (only_row h0 1 u) 2 u'
  exact ⟨h1.os, h1.tape, h1.output, h1.size, h1.block⟩

set_option maxHeartbeats 1000000 in
theorem next_any (B b : Nat) (A : Option Addr) (n c k : Nat) (w : World) (h : Cur B b A n c k w) (_hn : n ≤ 2000000) (hk : k ≤ 2000000) :
    Calls Try.prog 79 #[.pointer (some ⟨b, 0, none⟩)] w (NextPost B b A n c (k + 1) 0 255 w) := by
  obtain ⟨hB, ⟨sd, hblk⟩, hat⟩ := h
  have c0 : w.cell? ⟨b, 0, none⟩ = some (.slice A n c) := by rw [Lib.cell_of_heap hblk]; rfl
  have c1 : w.cell? ⟨b, 1, none⟩ = some (.int .i64 k) := by rw [Lib.cell_of_heap hblk]; rfl
  have c2 : w.cell? ⟨b, 2, none⟩ = some (.int .u64 sd) := by rw [Lib.cell_of_heap hblk]; rfl
  have f1 : w.frozen? ⟨b, 1, none⟩ = false := Lib.frozen_of_heap hblk 1
  have f2 : w.frozen? ⟨b, 2, none⟩ = false := Lib.frozen_of_heap hblk 2
  by_cases hlt : k < n
  · obtain ⟨g, o, x, rfl, hg, hx, hx0, hx1⟩ := hat k hlt
    have hi1 : (k : Int) < (n : Int) := by omega
    go_enter Try.func79, Try.ntmps79
    go_wp2
    go_quiet (fail)
    go_wp2
    go_quiet (fail)
    go_wp2
    generalize IntKind.u64.wrap (IntKind.u64.wrap (IntKind.u64.wrap (sd * 6364136223846793005) + x) + 1442695040888963407) = sd'
    have hi2 : decide ((k : Int) + 1 ≤ (n : Int)) = true := by rw [decide_eq_true_iff]; omega
    go_quiet (fail)
    go_wp2
    go_ret
    exact ⟨x, hx0, hx1, rfl, cur_step hB hblk hat _ _, only_step _ _ _ _ _ _⟩
  · have hi1 : decide ((k : Int) < (n : Int)) = false := by simpa using hlt
    go_enter Try.func79, Try.ntmps79
    go_wp2
    go_quiet (fail)
    go_wp2
    have hi2 : decide ((k : Int) + 1 ≤ (n : Int)) = false := by rw [decide_eq_false_iff_not]; omega
    go_quiet (fail)
    go_wp2
    go_ret
    exact ⟨_, (low_byte _).1, (low_byte _).2, rfl, cur_step hB hblk hat _ _, only_step _ _ _ _ _ _⟩

set_option maxHeartbeats 1000000 in
theorem pick_any (B b : Nat) (A : Option Addr) (n c k m : Nat) (w : World) (h : Cur B b A n c k w) (hn : n ≤ 2000000) (hk : k ≤ 2000000) (hm : 2 ≤ m) (hm2 : m ≤ 200) :
    Calls Try.prog 60 #[.pointer (some ⟨b, 0, none⟩), .int .i64 m] w (NextPost B b A n c (k + 1) 0 ((m : Int) - 1) w) := by
  have C := Lib.hid (next_any B b A n c k w h hn hk)
  clear h
  go_enter Try.func60, Try.ntmps60
  go_wp2_with fail
  refine C.out.mono ?_
  rintro e w1 ⟨x, hx0, hx1, rfl, hC, hg⟩
  have HC := Lib.hid hC
  have HG := Lib.hid hg
  clear hC hg C
  have hd0 := Int.emod_nonneg x (b := (m : Int)) (by omega)
  have hd1 := Int.emod_lt_of_pos x (b := (m : Int)) (by omega)
  go_wp2_with fail
  go_ret
  exact ⟨x % m, hd0, by omega, rfl, HC.out, HG.out⟩

/-- Yes or no. -/
def OnePost (B b : Nat) (A : Option Addr) (n c k : Nat) (w : World) (e : Ending) (w' : World) : Prop :=
  ∃ q : Bool, e = .returned (.bool q) ∧ Cur B b A n c k w' ∧ w.grownBy w' (some b)

set_option maxHeartbeats 1000000 in
theorem one_any (B b : Nat) (A : Option Addr) (n c k m : Nat) (w : World) (h : Cur B b A n c k w) (hn : n ≤ 2000000) (hk : k ≤ 2000000) (hm : 2 ≤ m) (hm2 : m ≤ 200) :
    Calls Try.prog 61 #[.pointer (some ⟨b, 0, none⟩), .int .i64 m] w (OnePost B b A n c (k + 1) w) := by
  have C := Lib.hid (pick_any B b A n c k m w h hn hk hm hm2)
  clear h
  go_enter Try.func61, Try.ntmps61
  go_wp2_with fail
  refine C.out.mono ?_
  rintro e w1 ⟨x, hx0, hx1, rfl, hC, hg⟩
  have HC := Lib.hid hC
  have HG := Lib.hid hg
  clear hC hg C
  go_wp2_with fail
  go_ret
  exact ⟨_, rfl, HC.out, HG.out⟩

/-- One of some texts. -/
def OfPost (l : List (List UInt8)) (B b : Nat) (A : Option Addr) (n c k : Nat) (w : World) (e : Ending) (w' : World) : Prop :=
  ∃ x ∈ l, e = .returned (.string ⟨x.toArray⟩) ∧ Cur B b A n c k w' ∧ w.grownBy w' (some b)

set_option maxHeartbeats 1000000 in
theorem of_any (l : List (List UInt8)) (g cap : Nat) (B b : Nat) (A : Option Addr) (n c k : Nat) (w : World) (h : Cur B b A n c k w) (hn : n ≤ 2000000) (hk : k ≤ 2000000) (hm : 2 ≤ l.length) (hm2 : l.length ≤ 200)
    (hl : w.heap[g]? = some (.cells (S l).toArray 9)) (hgb : g ≠ b) :
    Calls Try.prog 65 #[.pointer (some ⟨b, 0, none⟩), .slice (some ⟨g, 0, none⟩) l.length cap] w (OfPost l B b A n c (k + 1) w) := by
  have C := Lib.hid (pick_any B b A n c k l.length w h hn hk hm hm2)
  have hgl := lt_of_block hl
  clear h
  go_enter Try.func65, Try.ntmps65
  go_wp2_with fail
  refine C.out.mono ?_
  rintro e w1 ⟨x, hx0, hx1, rfl, hC, hg⟩
  obtain ⟨i, rfl⟩ : ∃ i : Nat, x = i := ⟨x.toNat, by omega⟩
  have hi : i < l.length := by omega
  have hi2 : (i : Int) < (l.length : Int) := by omega
  have hc : w1.cell? ⟨g, i, none⟩ = some (.string ⟨(l[i]).toArray⟩) := by
    have h1 : w1.heap[g]? = some (.cells (S l).toArray 9) := by rw [hg.block g hgl (by simpa using hgb)]; exact hl
    rw [Lib.cell_of_heap h1, List.getElem?_toArray, S_at hi]
  have hmem : l[i] ∈ l := List.getElem_mem hi
  have HC := Lib.hid hC
  have HG := Lib.hid hg
  generalize l[i] = p at hc hmem
  have HM := Lib.hid hmem
  clear hC hg C hmem hx0 hx1
  go_wp2_with fail
  go_ret
  exact ⟨p, HM.out, rfl, HC.out, HG.out⟩

theorem cur_alloc {B b : Nat} {A : Option Addr} {n c k : Nat} {w : World} (h : Cur B b A n c k w) (hB : B ≤ w.heap.size) (o : Obj) : Cur B b A n c k (w.alloc o) := by
  obtain ⟨h1, ⟨sd, h2⟩, h3⟩ := h
  refine ⟨h1, ⟨sd, (Below.heap_alloc _ _ _ (lt_of_block h2)).trans h2⟩, fun i hi => ?_⟩
  obtain ⟨g, o', x, hA, hg, hc, h0, h4⟩ := h3 i hi
  exact ⟨g, o', x, hA, hg, by rw [World.cell?_alloc_lt _ _ _ (by show g < _; omega)]; exact hc, h0, h4⟩

/-- A text is drawn. -/
def DrawPost (B b : Nat) (A : Option Addr) (n c k : Nat) (w : World) (e : Ending) (w' : World) : Prop :=
  ∃ (s : ByteArray) (k' : Nat), s.size ≤ 200 ∧ k' ≤ k ∧ e = .returned (.string s) ∧ Cur B b A n c k' w' ∧ w.grownBy w' (some b)


theorem only_chain {a b c : World} {g : Nat} (h : a.grownBy b (some g)) (k : b.grownBy c (some g)) : a.grownBy c (some g) := only_trans h k (fun _ hi => .inl hi)
theorem cur_lt {B b : Nat} {A : Option Addr} {n c k : Nat} {w : World} (h : Cur B b A n c k w) : b < w.heap.size := by
  obtain ⟨_, ⟨sd, h2⟩, _⟩ := h
  exact lt_of_block h2

theorem sz_cat (t : ByteArray) (x : List UInt8) : (t ++ ⟨x.toArray⟩).size = t.size + x.length := by
  rw [ByteArray.size_append']; rfl
theorem sz_cat2 (t : ByteArray) (x : List UInt8) : (t ++ ⟨x.toArray⟩ ++ ⟨#[47]⟩).size = t.size + x.length + 1 := by
  rw [ByteArray.size_append', sz_cat]; rfl

/-- A slice of bytes that came in. -/
def BytesIn (w : World) (A : Option Addr) (n : Nat) : Prop :=
  ∀ i, i < n → ∃ g o x, A = some ⟨g, o, none⟩ ∧ g < w.heap.size ∧ w.cell? ⟨g, o + i, none⟩ = some (.int .u8 x) ∧ 0 ≤ x ∧ x ≤ 255
theorem bytes_below {w w' : World} {A : Option Addr} {n : Nat} (h : BytesIn w A n) (hb : Below w.heap.size w w') : BytesIn w' A n := fun i hi => by
  obtain ⟨g, o, x, hA, hg, hc, h0, h1⟩ := h i hi
  exact ⟨g, o, x, hA, by have := hb.size; omega, by rw [hb.cell (p := ⟨g, o + i, none⟩) hg]; exact hc, h0, h1⟩
theorem cur_new {w : World} {A : Option Addr} {n c : Nat} (h : BytesIn w A n) : Cur w.heap.size w.heap.size A n c 0 (w.alloc (.cells #[.slice A n c, .int .i64 0, .int .u64 0] 57)) := by
  refine ⟨Nat.le_refl _, ⟨0, heap_alloc_new w _⟩, fun i hi => ?_⟩
  obtain ⟨g, o, x, hA, hg, hc, h0, h1⟩ := h i hi
  exact ⟨g, o, x, hA, hg, by rw [World.cell?_alloc_lt _ _ _ hg]; exact hc, h0, h1⟩
theorem cur_below {B b : Nat} {A : Option Addr} {n c k : Nat} {w w' : World} (h : Cur B b A n c k w) (_hB : B ≤ w.heap.size) (hb : Below w.heap.size w w') : Cur B b A n c k w' := by
  have hlt := cur_lt h
  obtain ⟨h1, ⟨sd, h2⟩, h3⟩ := h
  refine ⟨h1, ⟨sd, (hb.block b hlt).trans h2⟩, fun i hi => ?_⟩
  obtain ⟨g, o', x, hA, hg, hc, h0, h4⟩ := h3 i hi
  exact ⟨g, o', x, hA, hg, by rw [hb.cell (p := ⟨g, o' + i, none⟩) (by show g < _; omega)]; exact hc, h0, h4⟩
/-- What the reader's block alone turned lies above all that was there. -/
theorem below_cur {w w1 w2 : World} (hb : Below w.heap.size w w1) (hg : w1.grownBy w2 (some w.heap.size)) : Below w.heap.size w w2 :=
  hb.trans ⟨hg.os, hg.tape, hg.output, hg.size, fun i hi => hg.block i (by have := hb.size; omega) (by simp; omega)⟩

/-- One text, two texts are drawn. -/
def Drawn1 (w : World) (e : Ending) (w' : World) : Prop := ∃ l : List UInt8, l.length ≤ 300 ∧ e = .returned (.string ⟨l.toArray⟩) ∧ Below w.heap.size w w'
def Drawn2 (w : World) (e : Ending) (w' : World) : Prop := ∃ l m : List UInt8, l.length ≤ 300 ∧ m.length ≤ 300 ∧ e = .returned (.tuple #[.string ⟨l.toArray⟩, .string ⟨m.toArray⟩]) ∧ Below w.heap.size w w'

theorem below_new (w : World) (o : Obj) : Below w.heap.size w (w.alloc o) := (Below.refl _ _).alloc (Nat.le_refl _) o


end Go.Proofs.Ytcplooeohdhlkaa
