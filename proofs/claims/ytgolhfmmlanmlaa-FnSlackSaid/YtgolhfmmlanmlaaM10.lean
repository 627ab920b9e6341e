/- Texts of one claim, joined in their order. -/
import Derived.Maps.AppendAt
import Derived.Test.YtgolhfmmlanmlaaM6
import Derived.Test.YtgolhfmmlanmlaaM1
import Derived.Test.YtgolhfmmlanmlaaM2
import Derived.Test.YtgolhfmmlanmlaaM8
import Derived.Test.YtgolhfmmlanmlaaM9
import Derived.Test.YtgolhfmmlanmlaaM5

/- Walks: the reference's choices: numbers, texts. -/
namespace Go.Proofs.Ytgolhfmmlanmlaa
open Go.RowKit Pth

theorem S_at {l : List (List UInt8)} {k : Nat} (hk : k < l.length) : (S l)[k]? = some (.string ⟨(l[k]).toArray⟩) := by
  simp [S, hk]
theorem only_alloc {a w : World} {row : Option Nat} (h : a.grownBy w row) (o : Obj) : a.grownBy (w.alloc o) row :=
  ⟨h.os, h.tape, h.output, Nat.le_trans h.size (by simp), fun i hi hne => (Below.heap_alloc w o i (Nat.lt_of_lt_of_le hi h.size)).trans (h.block i hi hne)⟩
theorem only_trans {a b c : World} {row row' : Option Nat} (h : a.grownBy b row) (k : b.grownBy c row') (hr : ∀ i, row' = some i → row = some i ∨ a.heap.size ≤ i) : a.grownBy c row :=
  ⟨k.os.trans h.os, k.tape.trans h.tape, k.output.trans h.output, Nat.le_trans h.size k.size, fun i hi hne => (k.block i (Nat.lt_of_lt_of_le hi h.size) (fun e => by
    rcases hr i e.symm with h1 | h1
    · exact hne h1.symm
    · omega)).trans (h.block i hi hne)⟩
theorem block_set {w : World} {b o : Nat} {u : Value} {cs : Array Value} {T : TypeId} {fr : Nat × Nat} (hb : w.heap[b]? = some (.cells cs T fr)) : (w.setCell ⟨b, o, none⟩ u).heap[b]? = some (.cells (cs.setIfInBounds o u) T fr) := by
  simp [World.setCell, Array.getElem?_modify, hb]
theorem only_row {a w : World} {g : Nat} (h : a.grownBy w (some g)) (o : Nat) (u : Value) : a.grownBy (w.setCell ⟨g, o, none⟩ u) (some g) :=
  ⟨h.os, h.tape, h.output, by simpa [World.setCell] using h.size, fun i hi hne => (Below.heap_setCell w ⟨g, o, none⟩ u i (fun e => hne (by rw [e]))).trans (h.block i hi hne)⟩

/-- The reader of choices: a block of the call's own, over bytes that lie below B. -/
def Cur (B b : Nat) (A : Option Addr) (n c k : Nat) (w : World) : Prop :=
  B ≤ b ∧ (∃ sd : Int, w.heap[b]? = some (.cells #[.slice A n c, .int .i64 k, .int .u64 sd] 65)) ∧
  ∀ i, i < n → ∃ g o x, A = some ⟨g, o, none⟩ ∧ g < B ∧ w.cell? ⟨g, o + i, none⟩ = some (.int .u8 x) ∧ 0 ≤ x ∧ x ≤ 255

/-- A number from 0 to 255 is handed back; the reader is one further; nothing else has turned. -/
def NextPost (B b : Nat) (A : Option Addr) (n c k : Nat) (lo hi : Int) (w : World) (e : Ending) (w' : World) : Prop :=
  ∃ x : Int, lo ≤ x ∧ x ≤ hi ∧ e = .returned (.int .i64 x) ∧ Cur B b A n c k w' ∧ w.grownBy w' (some b)

theorem low_byte (z : Int) : 0 ≤ wrap64 (bits .and .u64 z 255) ∧ wrap64 (bits .and .u64 z 255) ≤ 255 := by
  have h : bits .and .u64 z 255 = IntKind.u64.wrap ((BitVec.ofInt 64 z &&& BitVec.ofInt 64 255).toNat : Int) := rfl
  have h2 : (BitVec.ofInt 64 z &&& BitVec.ofInt 64 255).toNat ≤ 255 := by rw [BitVec.toNat_and]; exact Nat.le_trans Nat.and_le_right (by decide)
  rw [h]
  generalize (BitVec.ofInt 64 z &&& BitVec.ofInt 64 255).toNat = n at h2
  have e1 : IntKind.u64.wrap (n : Int) = n := by simp [IntKind.wrap, IntKind.bits, IntKind.signed]; omega
  rw [e1]
  unfold wrap64
  omega
theorem cur_step {B b : Nat} {A : Option Addr} {n c k : Nat} {sd sd' : Int} {w : World} (hB : B ≤ b) (hblk : w.heap[b]? = some (.cells #[.slice A n c, .int .i64 k, .int .u64 sd] 65))
    (hat : ∀ i, i < n → ∃ g o x, A = some ⟨g, o, none⟩ ∧ g < B ∧ w.cell? ⟨g, o + i, none⟩ = some (.int .u8 x) ∧ 0 ≤ x ∧ x ≤ 255) (m m' : Nat) :
    Cur B b A n c (k + 1) ((((w.drewN m).setCell ⟨b, 1, none⟩ (.int .i64 ((k : Int) + 1))).setCell ⟨b, 2, none⟩ (.int .u64 sd')).drewN m') := by
  refine ⟨hB, ⟨sd', ?_⟩, fun i hi => ?_⟩
  · have h1 : (w.drewN m).heap[b]? = some (.cells #[.slice A n c, .int .i64 k, .int .u64 sd] 65) := hblk
    exact (block_set (block_set h1)).trans (by simp)
  · obtain ⟨g, o, x, hA, hg, hc, h0, h1⟩ := hat i hi
    refine ⟨g, o, x, hA, hg, ?_, h0, h1⟩
    show (((w.drewN m).setCell ⟨b, 1, none⟩ (.int .i64 ((k : Int) + 1))).setCell ⟨b, 2, none⟩ (.int .u64 sd')).cell? ⟨g, o + i, none⟩ = _
    rw [World.cell?_of_block (Below.heap_setCell _ _ _ _ (by show g ≠ b; omega)), World.cell?_of_block (Below.heap_setCell _ _ _ _ (by show g ≠ b; omega))]
    exact hc
theorem only_step (b : Nat) (w : World) (u u' : Value) (m m' : Nat) :
    w.grownBy ((((w.drewN m).setCell ⟨b, 1, none⟩ u).setCell ⟨b, 2, none⟩ u').drewN m') (some b) := by
  have h0 : w.grownBy (w.drewN m) (some b) := ⟨rfl, rfl, rfl, Nat.le_refl _, fun _ _ _ => rfl⟩
  have h1 := only_row (only_row h0 1 u) 2 u'
  exact ⟨h1.os, h1.tape, h1.output, h1.size, h1.block⟩

set_option maxHeartbeats 1000000 in
theorem next_any (B b : Nat) (A : Option Addr) (n c k : Nat) (w : World) (h : Cur B b A n c k w) (_hn : n ≤ 2000000) (hk : k ≤ 2000000) :
    Calls Try.prog 83 #[.pointer (some ⟨b, 0, none⟩)] w (NextPost B b A n c (k + 1) 0 255 w) := by
  obtain ⟨hB, ⟨sd, hblk⟩, hat⟩ := h
  have c0 : w.cell? ⟨b, 0, none⟩ = some (.slice A n c) := by rw [Lib.cell_of_heap hblk]; rfl
  have c1 : w.cell? ⟨b, 1, none⟩ = some (.int .i64 k) := by rw [Lib.cell_of_heap hblk]; rfl
  have c2 : w.cell? ⟨b, 2, none⟩ = some (.int .u64 sd) := by rw [Lib.cell_of_heap hblk]; rfl
  have f1 : w.frozen? ⟨b, 1, none⟩ = false := Lib.frozen_of_heap hblk 1
  have f2 : w.frozen? ⟨b, 2, none⟩ = false := Lib.frozen_of_heap hblk 2
  by_cases hlt : k < n
  · obtain ⟨g, o, x, rfl, hg, hx, hx0, hx1⟩ := hat k hlt
    have hi1 : (k : Int) < (n : Int) := by omega
    go_enter Try.func83, Try.ntmps83
    go_wp2
    go_quiet (fail)
    go_wp2
    go_quiet (fail)
    go_wp2
    generalize IntKind.u64.wrap (IntKind.u64.wrap (IntKind.u64.wrap (sd * 6364136223846793005) + x) + 1442695040888963407) = sd'
    have hi2 : decide ((k : Int) + 1 ≤ (n : Int)) = true := by rw [decide_eq_true_iff]; omega
    go_quiet (fail)
    go_wp2
    go_ret
    exact ⟨x, hx0, hx1, rfl, cur_step hB hblk hat _ _, only_step _ _ _ _ _ _⟩
  · have hi1 : decide ((k : Int) < (n : Int)) = false := by simpa using hlt
    go_enter Try.func83, Try.ntmps83
    go_wp2
    go_quiet (fail)
    go_wp2
    have hi2 : decide ((k : Int) + 1 ≤ (n : Int)) = false := by rw [decide_eq_false_iff_not]; omega
    go_quiet (fail)
    go_wp2
    go_ret
    exact ⟨_, (low_byte _).1, (low_byte _).2, rfl, cur_step hB hblk hat _ _, only_step _ _ _ _ _ _⟩

set_option maxHeartbeats 1000000 in
theorem pick_any (B b : Nat) (A : Option Addr) (n c k m : Nat) (w : World) (h : Cur B b A n c k w) (hn : n ≤ 2000000) (hk : k ≤ 2000000) (hm : 2 ≤ m) (hm2 : m ≤ 200) :
    Calls Try.prog 60 #[.pointer (some ⟨b, 0, none⟩), .int .i64 m] w (NextPost B b A n c (k + 1) 0 ((m : Int) - 1) w) := by
  have C := Lib.hid (next_any B b A n c k w h hn hk)
  clear h
  go_enter Try.func60, Try.ntmps60
  go_wp2_with fail
  refine C.out.mono ?_
  rintro e w1 ⟨x, hx0, hx1, rfl, hC, hg⟩
  have HC := Lib.hid hC
  have HG := Lib.hid hg
  clear hC hg C
  have hd0 := Int.emod_nonneg x (b := (m : Int)) (by omega)
  have hd1 := Int.emod_lt_of_pos x (b := (m : Int)) (by omega)
  go_wp2_with fail
  go_ret
  exact ⟨x % m, hd0, by omega, rfl, HC.out, HG.out⟩

/-- Yes or no. -/
def OnePost (B b : Nat) (A : Option Addr) (n c k : Nat) (w : World) (e : Ending) (w' : World) : Prop :=
  ∃ q : Bool, e = .returned (.bool q) ∧ Cur B b A n c k w' ∧ w.grownBy w' (some b)

set_option maxHeartbeats 1000000 in
theorem one_any (B b : Nat) (A : Option Addr) (n c k m : Nat) (w : World) (h : Cur B b A n c k w) (hn : n ≤ 2000000) (hk : k ≤ 2000000) (hm : 2 ≤ m) (hm2 : m ≤ 200) :
    Calls Try.prog 82 #[.pointer (some ⟨b, 0, none⟩), .int .i64 m] w (OnePost B b A n c (k + 1) w) := by
  have C := Lib.hid (pick_any B b A n c k m w h hn hk hm hm2)
  clear h
  go_enter Try.func82, Try.ntmps82
  go_wp2_with fail
  refine C.out.mono ?_
  rintro e w1 ⟨x, hx0, hx1, rfl, hC, hg⟩
  have HC := Lib.hid hC
  have HG := Lib.hid hg
  clear hC hg C
  go_wp2_with fail
  go_ret
  exact ⟨_, rfl, HC.out, HG.out⟩

/-- One of some texts. -/
def OfPost (l : List (List UInt8)) (B b : Nat) (A : Option Addr) (n c k : Nat) (w : World) (e : Ending) (w' : World) : Prop :=
  ∃ x ∈ l, e = .returned (.string ⟨x.toArray⟩) ∧ Cur B b A n c k w' ∧ w.grownBy w' (some b)

theorem cur_alloc {B b : Nat} {A : Option Addr} {n c k : Nat} {w : World} (h : Cur B b A n c k w) (hB : B ≤ w.heap.size) (o : Obj) : Cur B b A n c k (w.alloc o) := by
  obtain ⟨h1, ⟨sd, h2⟩, h3⟩ := h
  refine ⟨h1, ⟨sd, (Below.heap_alloc _ _ _ (lt_of_block h2)).trans h2⟩, fun i hi => ?_⟩
  obtain ⟨g, o', x, hA, hg, hc, h0, h4⟩ := h3 i hi
  exact ⟨g, o', x, hA, hg, by rw [World.cell?_alloc_lt _ _ _ (by show g < _; omega)]; exact hc, h0, h4⟩

/-- A text is drawn. -/
def DrawPost (B b : Nat) (A : Option Addr) (n c k : Nat) (w : World) (e : Ending) (w' : World) : Prop :=
  ∃ (s : ByteArray) (k' : Nat), s.size ≤ 200 ∧ k' ≤ k ∧ e = .returned (.string s) ∧ Cur B b A n c k' w' ∧ w.grownBy w' (some b)


theorem only_chain {a b c : World} {g : Nat} (h : a.grownBy b (some g)) (k : b.grownBy c (some g)) : a.grownBy c (some g) := only_trans h k (fun _ hi => .inl hi)
theorem cur_lt {B b : Nat} {A : Option Addr} {n c k : Nat} {w : World} (h : Cur B b A n c k w) : b < w.heap.size := by
  obtain ⟨_, ⟨sd, h2⟩, _⟩ := h
  exact lt_of_block h2

theorem sz_cat (t : ByteArray) (x : List UInt8) : (t ++ ⟨x.toArray⟩).size = t.size + x.length := by
  rw [ByteArray.size_append']; rfl
theorem sz_cat2 (t : ByteArray) (x : List UInt8) : (t ++ ⟨x.toArray⟩ ++ ⟨#[47]⟩).size = t.size + x.length + 1 := by
  rw [ByteArray.size_append', sz_cat]; rfl

/-- A slice of bytes that came in. -/
def BytesIn (w : World) (A : Option Addr) (n : Nat) : Prop :=
  ∀ i, i < n → ∃ g o x, A = some ⟨g, o, none⟩ ∧ g < w.heap.size ∧ w.cell? ⟨g, o + i, none⟩ = some (.int .u8 x) ∧ 0 ≤ x ∧ x ≤ 255
theorem bytes_below {w w' : World} {A : Option Addr} {n : Nat} (h : BytesIn w A n) (hb : Below w.heap.size w w') : BytesIn w' A n := fun i hi => by
  obtain ⟨g, o, x, hA, hg, hc, h0, h1⟩ := h i hi
  exact ⟨g, o, x, hA, by have := hb.size; omega, by rw [hb.cell (p := ⟨g, o + i, none⟩) hg]; exact hc, h0, h1⟩
theorem cur_new {w : World} {A : Option Addr} {n c : Nat} (h : BytesIn w A n) : Cur w.heap.size w.heap.size A n c 0 (w.alloc (.cells #[.slice A n c, .int .i64 0, .int .u64 0] 65)) := by
  refine ⟨Nat.le_refl _, ⟨0, heap_alloc_new w _⟩, fun i hi => ?_⟩
  obtain ⟨g, o, x, hA, hg, hc, h0, h1⟩ := h i hi
  exact ⟨g, o, x, hA, hg, by rw [World.cell?_alloc_lt _ _ _ hg]; exact hc, h0, h1⟩
theorem cur_below {B b : Nat} {A : Option Addr} {n c k : Nat} {w w' : World} (h : Cur B b A n c k w) (_hB : B ≤ w.heap.size) (hb : Below w.heap.size w w') : Cur B b A n c k w' := by
  have hlt := cur_lt h
  obtain ⟨h1, ⟨sd, h2⟩, h3⟩ := h
  refine ⟨h1, ⟨sd, (hb.block b hlt).trans h2⟩, fun i hi => ?_⟩
  obtain ⟨g, o', x, hA, hg, hc, h0, h4⟩ := h3 i hi
  exact ⟨g, o', x, hA, hg, by rw [hb.cell (p := ⟨g, o' + i, none⟩) (by show g < _; omega)]; exact hc, h0, h4⟩
/-- What the reader's block alone turned lies above all that was there. -/
theorem below_cur {w w1 w2 : World} (hb : Below w.heap.size w w1) (hg : w1.grownBy w2 (some w.heap.size)) : Below w.heap.size w w2 :=
  hb.trans ⟨hg.os, hg.tape, hg.output, hg.size, fun i hi => hg.block i (by have := hb.size; omega) (by simp; omega)⟩

/-- One text, two texts are drawn. -/
def Drawn1 (w : World) (e : Ending) (w' : World) : Prop := ∃ l : List UInt8, l.length ≤ 300 ∧ e = .returned (.string ⟨l.toArray⟩) ∧ Below w.heap.size w w'
def Drawn2 (w : World) (e : Ending) (w' : World) : Prop := ∃ l m : List UInt8, l.length ≤ 300 ∧ m.length ≤ 300 ∧ e = .returned (.tuple #[.string ⟨l.toArray⟩, .string ⟨m.toArray⟩]) ∧ Below w.heap.size w w'

theorem below_new (w : World) (o : Obj) : Below w.heap.size w (w.alloc o) := (Below.refl _ _).alloc (Nat.le_refl _) o


end Go.Proofs.Ytgolhfmmlanmlaa

/- Bytes that came in. -/
namespace Go.Proofs.Ytgolhfmmlanmlaa
open Go.ChangeShapes Go.WideShapes Go.ChangeAt Go.RowKit
open Go.ChangeMaps (open_string shut_string)

theorem bytes_in {H : Type} {enc : TypeId × Value → H} {W : World} {a : Option Addr} {len cap : Nat} {d : DataW H} {p : List MemPlace} {ts : List TypeId} {ds : List (DataW H)} {j : Nat}
    (h : DataW.Trod enc Try.prog W 0 (fun _ => true) true 22 (.slice a len cap) d p) (hw : (DataW.weightsEach Try.prog ts ds).all (· ≤ reachBytes) = true) (ht : ts[j]? = some 22) (hd : ds[j]? = some d) :
    BytesIn W a len ∧ len ≤ 140737488355328 := by
  obtain ⟨fuel, hf⟩ := h
  rcases open_ints Try.underlying22 Try.underlying5 (by kernel_rfl) hf with ⟨hcs, _⟩ | ⟨x, l, c, zs, hcs, _, hl, hm, hz, hx, hcell, hwz⟩
  · simp [Value.cells] at hcs
    obtain ⟨rfl, rfl, rfl⟩ := hcs
    exact ⟨fun i hi => absurd hi (by omega), by omega⟩
  · simp [Value.cells] at hcs
    obtain ⟨rfl, rfl, rfl⟩ := hcs
    simp only [if_true] at hz
    constructor
    · intro i hi
      have hi2 : i < zs.length := by omega
      have hc := hcell i hi2
      obtain ⟨b, off, spot⟩ := x
      have h0 := hcell 0 (by omega)
      have hspot : spot = none := by simpa [Addr.add] using World.cell?_spot h0
      subst hspot
      have e : (⟨b, off, none⟩ : Addr).add i = ⟨b, off + i, none⟩ := by unfold Addr.add; split <;> simp_all
      rw [e] at hc
      have hmem : zs.getD i 0 ∈ zs := by
        rw [List.getD_eq_getElem?_getD, List.getElem?_eq_getElem hi2]; exact List.getElem_mem hi2
      have hbd := bounds_u8 (hwz _ hmem)
      exact ⟨b, off, _, rfl, World.block_lt_of_cell? _ _ hc, hc, hbd.1, hbd.2⟩
    · simp only [Prod.mk.injEq] at hx
      rw [hx.1] at hd
      have hs := sized_slice hw ht hd Try.underlying22
      have hb5 : Try.prog.bytesOf 5 = 1 := by kernel_rfl
      rw [hb5] at hs
      simp only [lits, List.length_map, List.length_take, List.length_drop] at hs
      unfold reachBytes at hs
      omega
end Go.Proofs.Ytgolhfmmlanmlaa

/- Plain mathematics of the longest way: where it stands; no program. -/
namespace Go.Proofs.Ytgolhfmmlanmlaa
open Go.RowKit Pth

/-- Those of the first k that need none. -/
def rootsK (ls : List (List Int)) (k : Nat) : List Int := (upto k).filter (fun i => decide ((needsAt ls i).length = 0))
theorem rootsK_yes {ls : List (List Int)} {k : Nat} (hk : k < ls.length) (h : ls[k].length = 0) : rootsK ls (k + 1) = rootsK ls k ++ [(k : Int)] := by
  unfold rootsK
  rw [upto_succ, List.filter_append]
  simp [needsAt_get hk, List.eq_nil_of_length_eq_zero h]
theorem rootsK_no {ls : List (List Int)} {k : Nat} (hk : k < ls.length) (h : ¬ ls[k].length = 0) : rootsK ls (k + 1) = rootsK ls k := by
  unfold rootsK
  rw [upto_succ, List.filter_append]
  have : (decide ((needsAt ls (k : Int)).length = 0)) = false := by rw [needsAt_get hk]; exact decide_eq_false h
  simp only [List.filter_cons, this, List.filter_nil]
  simp
theorem rootsK_all (ls : List (List Int)) : rootsK ls ls.length = rootsL ls := rfl
theorem nextW_app {tl : Int → Int} {a b : List Int} {x : Int} : nextW tl (a ++ b) x = (nextW tl a x).or (nextW tl b x) := by
  unfold nextW; rw [List.find?_append]
theorem nextW_one {tl : Int → Int} {k x : Int} : nextW tl [k] x = if tl k = x then some k else none := by
  unfold nextW
  rw [List.find?_cons]
  by_cases h : tl k = x
  · simp [h]
  · simp [h]
theorem nextW_nil {tl : Int → Int} {x : Int} : nextW tl [] x = none := rfl
/-- The way is told as far as it goes on from some task, or all of it is. -/
def WayAt (tl : Int → Int) (us : Int → List Int) (ts : Int → Int) (n : Nat) (way mo : List Int) (z : Int) : Prop :=
  (z = -1 ∧ mo = way) ∨ (∃ f : Nat, (0 ≤ z ∧ z < (n : Int)) ∧ mo ++ z :: wayF tl us ts f (us z) (tl z - ts z) = way ∧ tl z ≤ (f : Int) + 1)
theorem WayAt.len {tl ts : Int → Int} {us : Int → List Int} {n : Nat} {way mo : List Int} {z : Int} (h : WayAt tl us ts n way mo z) : mo.length ≤ way.length := by
  rcases h with ⟨_, rfl⟩ | ⟨f, _, rfl, _⟩
  · exact Nat.le_refl _
  · simp
theorem wayF_none {tl ts : Int → Int} {us : Int → List Int} {f : Nat} {cs : List Int} {x : Int} (h : nextW tl cs x = none) : wayF tl us ts f cs x = [] := by
  cases f with
  | zero => rfl
  | succ f => rw [wayF, h]
theorem wayF_some {tl ts : Int → Int} {us : Int → List Int} {f : Nat} {cs : List Int} {x k : Int} (h : nextW tl cs x = some k) : wayF tl us ts (f + 1) cs x = k :: wayF tl us ts f (us k) (x - ts k) := by
  rw [wayF, h]
theorem WayAt.step {ls : List (List Int)} {l ts : List Int} (hg : GoodP ls l) (ht : TimesT ls.length ts) {way mo : List Int} {z : Int} (h : WayAt (atI (tailsL ls l ts)) (usersL ls) (atI ts) ls.length way mo z) (hz : 0 ≤ z) :
    WayAt (atI (tailsL ls l ts)) (usersL ls) (atI ts) ls.length way (mo ++ [z]) ((nextW (atI (tailsL ls l ts)) (usersL ls z) (atI (tailsL ls l ts) z - atI ts z)).getD (-1)) := by
  rcases h with ⟨h1, _⟩ | ⟨f, hr, h1, h2⟩
  · omega
  · rcases hn : nextW (atI (tailsL ls l ts)) (usersL ls z) (atI (tailsL ls l ts) z - atI ts z) with _ | j
    · rw [wayF_none hn] at h1
      exact .inl ⟨rfl, h1⟩
    · obtain ⟨hj, he⟩ := nextW_mem hn
      have hjr := (mem_users.1 hj).1
      have h3 := (tails_at hg ht hjr).1
      have h4 := ht.at hr
      obtain ⟨f', rfl⟩ : ∃ f', f = f' + 1 := ⟨f - 1, by omega⟩
      refine .inr ⟨f', hjr, ?_, ?_⟩
      · rw [wayF, hn] at h1
        rw [← h1, List.append_assoc]
        show mo ++ ([z] ++ j :: wayF _ _ _ f' (usersL ls j) (atI (tailsL ls l ts) j - atI ts j)) = mo ++ z :: (j :: wayF _ _ _ f' (usersL ls j) (atI (tailsL ls l ts) z - atI ts z - atI ts j))
        rw [he]
        rfl
      · show atI (tailsL ls l ts) j ≤ _
        omega
theorem WayAt.less {ls : List (List Int)} {l ts : List Int} (hg : GoodP ls l) (ht : TimesT ls.length ts) {z : Int} (hz : 0 ≤ z ∧ z < (ls.length : Int)) :
    let y := (nextW (atI (tailsL ls l ts)) (usersL ls z) (atI (tailsL ls l ts) z - atI ts z)).getD (-1)
    (if y < 0 then 0 else (atI (tailsL ls l ts) y).toNat) < (atI (tailsL ls l ts) z).toNat := by
  have h1 := tails_at hg ht hz
  have h4 := ht.at hz
  rcases hn : nextW (atI (tailsL ls l ts)) (usersL ls z) (atI (tailsL ls l ts) z - atI ts z) with _ | j
  · show (if (-1 : Int) < 0 then 0 else _) < _
    rw [if_pos (by omega)]
    omega
  · obtain ⟨hj, he⟩ := nextW_mem hn
    have hjr := (mem_users.1 hj).1
    have h3 := (tails_at hg ht hjr).1
    show (if j < 0 then 0 else (atI (tailsL ls l ts) j).toNat) < _
    rw [if_neg (by omega)]
    omega
theorem WayAt.start {ls : List (List Int)} {l ts : List Int} (hg : GoodP ls l) (ht : TimesT ls.length ts) :
    WayAt (atI (tailsL ls l ts)) (usersL ls) (atI ts) ls.length (wayT ls l ts) [] ((nextW (atI (tailsL ls l ts)) (rootsL ls) (endT (tailsL ls l ts))).getD (-1)) := by
  obtain ⟨k, hk⟩ := way_starts hg ht
  obtain ⟨hm, he⟩ := nextW_mem hk
  have hkr := (mem_roots.1 hm).1
  rw [hk]
  refine .inr ⟨999, hkr, ?_, ?_⟩
  · have h := wayF_some (ts := atI ts) (us := usersL ls) (f := 999) hk
    show k :: wayF (atI (tailsL ls l ts)) (usersL ls) (atI ts) 999 (usersL ls k) (atI (tailsL ls l ts) k - atI ts k) = wayT ls l ts
    rw [he]
    exact h.symm
  · show atI (tailsL ls l ts) k ≤ _
    have := (tails_at hg ht hkr).2.2.2
    omega
/-- The same as the program goes: some to go on from, and so much left. -/
structure WayOn (ls : List (List Int)) (l ts way mo cs : List Int) (x : Int) : Prop where
  go : ∃ f : Nat, mo ++ wayF (atI (tailsL ls l ts)) (usersL ls) (atI ts) f cs x = way ∧ x ≤ (f : Int)
  low : 0 ≤ x
  some' : 0 < x → ∃ j, nextW (atI (tailsL ls l ts)) cs x = some j
  range : ∀ k ∈ cs, 0 ≤ k ∧ k < (ls.length : Int)
theorem WayOn.start {ls : List (List Int)} {l ts : List Int} (hg : GoodP ls l) (ht : TimesT ls.length ts) : WayOn ls l ts (wayT ls l ts) [] (rootsL ls) (endT (tailsL ls l ts)) :=
  ⟨⟨1000, rfl, by have := (end_at hg ht).2; omega⟩, by have := (end_at hg ht).1; omega, fun _ => way_starts hg ht, fun _ hk => (mem_roots.1 hk).1⟩
theorem WayOn.next {ls : List (List Int)} {l ts way mo cs : List Int} {x j : Int} (hg : GoodP ls l) (ht : TimesT ls.length ts) (h : WayOn ls l ts way mo cs x) (hx : 0 < x) (hj : nextW (atI (tailsL ls l ts)) cs x = some j) :
    WayOn ls l ts way (mo ++ [j]) (usersL ls j) (x - atI ts j) ∧ (0 ≤ j ∧ j < (ls.length : Int)) ∧ x - atI ts j < x ∧ x ≤ 1000 := by
  obtain ⟨hm, he⟩ := nextW_mem hj
  have hjr := h.range j hm
  have h1 := tails_at hg ht hjr
  have h2 := ht.at hjr
  obtain ⟨f, hf, hxf⟩ := h.go
  obtain ⟨f', rfl⟩ : ∃ f', f = f' + 1 := ⟨f - 1, by omega⟩
  refine ⟨⟨⟨f', ?_, by omega⟩, by omega, fun hp => ?_, fun k hk => (mem_users.1 hk).1⟩, hjr, by omega, by omega⟩
  · rw [wayF, hj] at hf
    rw [← hf, List.append_assoc]
    rfl
  · rw [← he] at hp ⊢
    exact way_goes hg hjr hp
theorem WayOn.done {ls : List (List Int)} {l ts way mo cs : List Int} {x : Int} (hg : GoodP ls l) (ht : TimesT ls.length ts) (h : WayOn ls l ts way mo cs x) (hx : ¬ 0 < x) : mo = way := by
  obtain ⟨f, hf, _⟩ := h.go
  rw [wayF_none (way_ends hg ht h.range (by omega)), List.append_nil] at hf
  exact hf
theorem WayOn.len {ls : List (List Int)} {l ts way mo cs : List Int} {x : Int} (h : WayOn ls l ts way mo cs x) : mo.length ≤ way.length := by
  obtain ⟨f, rfl, _⟩ := h.go
  simp
end Go.Proofs.Ytgolhfmmlanmlaa

/- Walks: the reference's longest way. -/
namespace Go.Proofs.Ytgolhfmmlanmlaa
open Go.RowKit Pth

set_option maxRecDepth 20000 in
set_option maxHeartbeats 16000000 in
theorem specWay_any (ls : List (List Int)) (l ts : List Int) (v u : Value) (w : World) (hst : GraphV w v ls l) (hrow : RowV w u (I ts)) :
    Calls Try.prog 13 #[v, u] w (ListNOk (ifL (timesG ls l ts) (wayT ls l ts)) (ifN (timesG ls l ts) (endT (tailsL ls l ts))) (timesG ls l ts) w) := by
  have HV := Lib.hid hst
  have HR := Lib.hid hrow
  obtain ⟨nv, ov, rfl, h1, h2⟩ := hst
  obtain ⟨an, cn, rfl, hn1, hn2, hat⟩ := h1.lists
  obtain ⟨ao, co, rfl, ho1, ho2, hao⟩ := h2.ints
  obtain ⟨tm, tc, rfl, ht1, ht2, htt⟩ := hrow.ints
  clear h1 h2 hrow
  unfold maxLen at hn2 ho2 ht2
  have HAT := Lib.hid hat
  have HAO := Lib.hid hao
  have HTT := Lib.hid htt
  clear hat hao htt
  obtain ⟨wa, hwa⟩ : ∃ wa, wa = w.alloc (.cells #[.slice an ls.length cn, .slice ao l.length co] 26) := ⟨_, rfl⟩
  have P0 : Hid (Blk2 wa w.heap.size 26 (.slice an ls.length cn) (.slice ao l.length co)) := by rw [hwa]; exact Blk2.new
  have HA : Hid (Below w.heap.size w wa) := by rw [hwa]; exact (Below.refl w.heap.size w).alloc (Nat.le_refl _) _
  have hsa : wa.heap.size = w.heap.size + 1 := by rw [hwa]; simp
  have HSA := Lib.hid hsa
  have hsz : w.heap.size < wa.heap.size := by omega
  have HWA := Lib.hid hwa
  obtain ⟨c0, c1⟩ := P0.out.cells
  have HC := l10Times_any ls l ts _ _ wa (HV.out.below HA.out) (HR.out.below HA.out)
  clear hwa hsa
  rcases hT : timesG ls l ts with _ | _
  · rw [hT] at HC
    have HCC := Lib.hid HC
    clear HC hT
    go_enter Try.func13, Try.ntmps13
    go_wp2_with fail
    rw [← HWA.out]
    refine HCC.out.mono ?_
    rintro e w1 ⟨rfl, hb1⟩
    have HB1 := Lib.hid (bth HA.out hb1 (Nat.le_refl _))
    clear hb1 c0 c1
    go_wp2_with fail
    go_ret3
    exact ⟨_, rfl, none_ownZ _ _ _, HB1.out⟩
  · rw [hT] at HC
    have HCC := Lib.hid HC
    obtain ⟨hG, hTT⟩ := timesG_yes hT
    have HG := Lib.hid hG
    have HTM := Lib.hid hTT
    clear HC hT hG hTT
    go_enter Try.func13, Try.ntmps13
    go_wp2_with fail
    rw [← HWA.out]
    refine HCC.out.mono ?_
    rintro e w1 ⟨rfl, hb1⟩
    have HB1 := Lib.hid (bth HA.out hb1 (Nat.le_refl _))
    have P1 := Lib.hid (P0.out.below hb1 hsz)
    have hsz1 := Nat.lt_of_lt_of_le hsz hb1.size
    obtain ⟨d0, d1⟩ := P1.out.cells
    have HU2 := Lib.hid (l10Tails_any ls l ts _ _ w1 (HV.out.below HB1.out) (HR.out.below HB1.out) HG.out HTM.out)
    clear hb1 c0 c1
    go_wp2_with fail
    refine HU2.out.mono ?_
    rintro e w2 ⟨v2, rfl, ho2', hb2⟩
    have HB2 := Lib.hid (bth HB1.out hb2 (Nat.le_refl _))
    have P2 := Lib.hid (P1.out.below hb2 hsz1)
    have hsz2 := Nat.lt_of_lt_of_le hsz1 hb2.size
    have HEE := Lib.hid (l10End_any (tailsL ls l ts) v2 w2 (RowV.of_own ho2'))
    have HTL := Lib.hid (RowV.of_own ho2')
    obtain ⟨xa, xc, hv2, hx1, hx2, hxt⟩ := (RowV.of_own ho2').ints
    rw [tailsL_len] at hv2 hx1
    subst hv2
    unfold maxLen at hx2
    have HLT := Lib.hid hxt
    have HXL := Lib.hid (tailsL_len ls l ts)
    have HYL := Lib.hid HTM.out.len
    have h10 := HG.out.high
    have HWS := Lib.hid (WayAt.start HG.out.toP HTM.out)
    obtain ⟨E, hE⟩ : ∃ E, E = endT (tailsL ls l ts) := ⟨_, rfl⟩
    rw [← hE] at HEE HWS ⊢
    have HEQ := Lib.hid hE
    clear ho2' hb2 d0 d1 hxt hE
    go_wp2_with fail
    refine HEE.out.mono ?_
    rintro e w3 ⟨rfl, rfl⟩
    go_wp2_with fail
    go_loop [9, 26] (fun q i => ∃ k : Nat, k ≤ ts.length ∧ i = .int .i64 k ∧ Hid (q = .int .i64 ((nextW (atI (tailsL ls l ts)) (rootsK ls k) E).getD (-1)))) (fun _ i => ts.length - (intOf i).toNat)
    case atStart => exact ⟨0, Nat.zero_le _, rfl, rfl⟩
    case round =>
      obtain ⟨k, hk, rfl, HQ⟩ := hrel
      have hq := HQ.out
      clear HQ
      subst hq
      by_cases hlt : k < ts.length
      · have hkn : k < ls.length := by rw [← HYL.out]; exact hlt
        have hkn2 : (k : Int) < (ls.length : Int) := by omega
        obtain ⟨e0, e1⟩ := P2.out.cells
        obtain ⟨g1, o1, a2, c2, hgn, hg1, hcell1, hrow⟩ := HAT.out k hkn
        subst hgn
        have hcn : w3.cell? ⟨g1, o1 + k, none⟩ = some (.slice a2 ls[k].length c2) := (HB2.out.cell (p := ⟨g1, o1 + k, none⟩) hg1).trans hcell1
        have hkx : k < (tailsL ls l ts).length := by rw [HXL.out]; exact hkn
        obtain ⟨g, o, hgo, hg, hcell0⟩ := HLT.out k hkx
        subst hgo
        have hcx : w3.cell? ⟨g, o + k, none⟩ = some (.int .i64 (atI (tailsL ls l ts) (k : Int))) := by rw [hcell0, atI_get hkx]
        rcases hn : nextW (atI (tailsL ls l ts)) (rootsK ls k) E with _ | j
        · by_cases hy : ls[k].length = 0
          · have HS := Lib.hid (rootsK_yes hkn hy)
            have hy1 : ((ls[k].length : Int) == 0) = true := by simp [hy]
            by_cases ht : atI (tailsL ls l ts) (k : Int) = E
            · have ht1 : (atI (tailsL ls l ts) (k : Int) == E) = true := by simp [ht]
              have HN : Hid ((nextW (atI (tailsL ls l ts)) (rootsK ls (k + 1)) E).getD (-1) = (k : Int)) := by show _ = _; rw [HS.out, nextW_app, hn, nextW_one, if_pos ht]; rfl
              clear hcell0 hcell1 hrow hn hy ht hkx HS
              generalize ls[k].length = n1 at *
              generalize atI (tailsL ls l ts) (k : Int) = x at *
              show Code.wp _ _ _ _ _
              simp only [Option.getD_none]
              go_wp2_with fail
              go_round
              case rel => exact ⟨k + 1, by omega, by go_num, by show _ = _; rw [HN.out]⟩
              case measure => simp [intOf]; omega
            · have ht1 : (atI (tailsL ls l ts) (k : Int) == E) = false := by simp [ht]
              have HN : Hid ((nextW (atI (tailsL ls l ts)) (rootsK ls (k + 1)) E).getD (-1) = -1) := by show _ = _; rw [HS.out, nextW_app, hn, nextW_one, if_neg ht]; rfl
              clear hcell0 hcell1 hrow hn hy ht hkx HS
              generalize ls[k].length = n1 at *
              generalize atI (tailsL ls l ts) (k : Int) = x at *
              simp only [Option.getD_none]
              go_wp2_with fail
              go_round
              case rel => exact ⟨k + 1, by omega, by go_num, by show _ = _; rw [HN.out]⟩
              case measure => simp [intOf]; omega
          · have HS := Lib.hid (rootsK_no hkn hy)
            have hy1 : ((ls[k].length : Int) == 0) = false := by simp only [beq_eq_false_iff_ne, ne_eq]; omega
            have HN : Hid ((nextW (atI (tailsL ls l ts)) (rootsK ls (k + 1)) E).getD (-1) = -1) := by show _ = _; rw [HS.out, hn]; rfl
            clear hcell0 hcell1 hrow hn hy hkx HS
            generalize ls[k].length = n1 at *
            simp only [Option.getD_none]
            go_wp2_with fail
            go_round
            case rel => exact ⟨k + 1, by omega, by go_num, by show _ = _; rw [HN.out]⟩
            case measure => simp [intOf]; omega
        · have hjm := (nextW_mem hn).1
          have hj0 : 0 ≤ j := by
            unfold rootsK at hjm
            exact (mem_upto.1 (List.mem_filter.1 hjm).1).1
          have hj1 : decide (j < 0) = false := by simp; omega
          have HN : Hid ((nextW (atI (tailsL ls l ts)) (rootsK ls (k + 1)) E).getD (-1) = j) := by
            show _ = _
            by_cases hy : ls[k].length = 0
            · rw [rootsK_yes hkn hy, nextW_app, hn]; rfl
            · rw [rootsK_no hkn hy, hn]; rfl
          clear hcell0 hcell1 hrow hn hkx hjm hcn hcx e0 e1
          simp only [Option.getD_some]
          go_wp2_with fail
          go_round
          case rel => exact ⟨k + 1, by omega, by go_num, by show _ = _; rw [HN.out]⟩
          case measure => simp [intOf]; omega
      · have hkl : k = ls.length := by rw [← HYL.out]; omega
        rw [show rootsK ls k = rootsL ls by rw [hkl]; rfl]
        have HMO := HWS
        have HUS := Lib.hid (fun W (h : Below w.heap.size w W) (t : Int) => l5Users_any ls l t _ W (HV.out.below h) h10)
        generalize (nextW (atI (tailsL ls l ts)) (rootsL ls) E).getD (-1) = z0 at *
        clear hkl HWS
        go_wp2_with fail
        go_loopw [9, 11] (fun a q wr => ∃ (z : Int) (mo : List Int), a = .int .i64 z ∧ Hid (WayAt (atI (tailsL ls l ts)) (usersL ls) (atI ts) ls.length (wayT ls l ts) mo z) ∧ Hid (Below w3.heap.size w3 wr) ∧ Hid (wr.ownsRow w3.heap.size 3 1 q mo.length (I mo))) (fun a _ _ => if intOf a < 0 then 0 else (atI (tailsL ls l ts) (intOf a)).toNat)
        case atStart => exact ⟨z0, [], rfl, HMO, Below.refl _ _, none_ownZ _ _ _⟩
        case round =>
          clear HMO
          obtain ⟨z, mo, rfl, HMO, HB, HN⟩ := hrel
          have hbs := HB.out.size
          by_cases hz : 0 ≤ z
          · have hzr : 0 ≤ z ∧ z < (ls.length : Int) := by
              rcases HMO.out with ⟨h1, _⟩ | ⟨f, h1, _⟩
              · omega
              · exact h1
            have hge : decide (z ≥ 0) = true := by simp; omega
            obtain ⟨zn, rfl⟩ : ∃ zn : Nat, z = zn := ⟨z.toNat, by omega⟩
            have HST := Lib.hid (HMO.out.step HG.out.toP HTM.out hz)
            have HLS := Lib.hid (WayAt.less HG.out.toP HTM.out hzr)
            have HNA := Lib.hid (own_Z HN.out)
            have hIl : (I mo).length ≤ 1000000 := by rw [I_len]; have := HMO.out.len; have := wayT_len ls l ts; omega
            clear hz
            go_wp2_with (at_builtin; refine wpAppOne elemI rfl _ _ rfl w3.heap.size _ (I mo) rfl HNA.out _ rfl rfl rfl hIl HB.out.size ?_; intro v7 w7 hown7 hg7; have HN7 := Lib.hid (own_Z2 hown7); have HB7 := Lib.hid (HB.out.trans (below_own HNA.out hg7 HB.out.size)); clear hown7 hg7; obtain ⟨f0, f1⟩ := (P2.out.below HB7.out hsz2).cells)
            refine (HUS.out w7 (bth HB2.out HB7.out (Nat.le_refl _)) (zn : Int)).mono ?_
            rintro e w8 ⟨v8, rfl, ho8, hb8⟩
            obtain ⟨ya, yc, hv8, hy1, hy2, hyt⟩ := (RowV.of_own ho8).ints
            subst hv8
            unfold maxLen at hy2
            have HUT := Lib.hid hyt
            have K8 := Lib.hid (bth HB7.out hb8 (Nat.le_refl _))
            have HN8 := Lib.hid (own_below HN7.out hb8)
            have HUR : Hid (∀ x ∈ usersL ls (zn : Int), 0 ≤ x ∧ x < (ls.length : Int)) := fun x hx => (mem_users.1 hx).1
            have hzl : zn < ls.length := by omega
            have hzl2 : (zn : Int) < (ls.length : Int) := by omega
            have hzt : zn < ts.length := by rw [HYL.out]; exact hzl
            have hzt2 : (zn : Int) < (ts.length : Int) := by omega
            have hzx : zn < (tailsL ls l ts).length := by rw [HXL.out]; exact hzl
            obtain ⟨tg, tf, hto, htg, htc0⟩ := HTT.out zn hzt
            obtain ⟨xg, xo, hxo, hxg, hxc0⟩ := HLT.out zn hzx
            subst hto hxo
            have HTC : Hid (∀ W, Below w8.heap.size w8 W → W.cell? ⟨tg, tf + zn, none⟩ = some (.int .i64 (atI ts (zn : Int)))) := fun W h => by rw [(bth HB2.out (bth K8.out h (Nat.le_refl _)) (Nat.le_refl _)).cell (p := ⟨tg, tf + zn, none⟩) htg, htc0, atI_get hzt]
            have HXC : Hid (∀ (n : Nat), n < ls.length → ∀ W, Below w8.heap.size w8 W → W.cell? ⟨xg, xo + n, none⟩ = some (.int .i64 (atI (tailsL ls l ts) (n : Int)))) := fun n hn W h => by
              have hnx : n < (tailsL ls l ts).length := by rw [HXL.out]; exact hn
              obtain ⟨xg', xo', hA, hxg', hxc'⟩ := HLT.out n hnx
              obtain ⟨rfl, rfl⟩ := addr_inj hA
              rw [(bth K8.out h (Nat.le_refl _)).cell (p := ⟨xg, xo + n, none⟩) hxg', hxc', atI_get hnx]
            have hsub : IntKind.i64.wrap (atI (tailsL ls l ts) (zn : Int) - atI ts (zn : Int)) = atI (tailsL ls l ts) (zn : Int) - atI ts (zn : Int) := by
              have := tails_at HG.out.toP HTM.out hzr
              have := HTM.out.at hzr
              rw [IntKind.wrap_i64]; omega
            have HYTC : Hid (∀ (m : Nat) (hm : m < (usersL ls (zn : Int)).length) W, Below w8.heap.size w8 W → ∃ g o, ya = some ⟨g, o, none⟩ ∧ W.cell? ⟨g, o + m, none⟩ = some (.int .i64 (usersL ls (zn : Int))[m])) := fun m hm W h => by
              obtain ⟨g, o, h1, h2, h3⟩ := HUT.out m hm
              exact ⟨g, o, h1, (h.cell (p := ⟨g, o + m, none⟩) h2).trans h3⟩
            clear ho8 hb8 hyt f0 f1 htc0 hxc0 HUT
            obtain ⟨us, hus⟩ : ∃ us, us = usersL ls (zn : Int) := ⟨_, rfl⟩
            rw [← hus] at HST HLS HUR HYTC hy1 ⊢
            have HUE := Lib.hid hus
            clear hus
            obtain ⟨lf, hlf⟩ : ∃ lf, atI (tailsL ls l ts) (zn : Int) - atI ts (zn : Int) = lf := ⟨_, rfl⟩
            rw [hlf] at HST HLS
            have hsub2 := hsub.trans hlf
            clear hsub
            have HTZ := HXC.out zn hzl
            clear hlf
            generalize htz : atI (tailsL ls l ts) (zn : Int) = tz at *
            have HTE := Lib.hid htz
            clear htz
            generalize atI ts (zn : Int) = sz at *
            have HTZ2 := Lib.hid HTZ
            clear HTZ
            go_wp2_with fail
            go_loopw [12, 60] (fun q i wz => ∃ m : Nat, m ≤ us.length ∧ i = .int .i64 (m : Int) ∧ Hid (q = .int .i64 ((nextW (atI (tailsL ls l ts)) (us.take m) lf).getD (-1))) ∧ Hid (Below w8.heap.size w8 wz)) (fun _ i _ => us.length - (intOf i).toNat)
            case atStart => exact ⟨0, Nat.zero_le _, rfl, rfl, Below.refl _ _⟩
            case round =>
              obtain ⟨m, hm, rfl, HQ, HZ⟩ := hrel
              have hq := HQ.out
              clear HQ
              subst hq
              by_cases hlt2 : m < us.length
              · obtain ⟨g, o, hgo, hcell⟩ := HYTC.out m hlt2 wr HZ.out
                subst hgo
                have hxr := HUR.out us[m] (List.getElem_mem hlt2)
                obtain ⟨kn, hkn⟩ : ∃ kn : Nat, us[m] = kn := ⟨us[m].toNat, by omega⟩
                have hkl : kn < ls.length := by omega
                have hkl2 : (kn : Int) < (ls.length : Int) := by omega
                rw [hkn] at hcell
                have hck := HXC.out kn hkl wr HZ.out
                have hcz := HTZ2.out wr HZ.out
                have hct := HTC.out wr HZ.out
                rcases hn : nextW (atI (tailsL ls l ts)) (us.take m) lf with _ | j
                · by_cases ht : atI (tailsL ls l ts) (kn : Int) = lf
                  · have ht1 : (atI (tailsL ls l ts) (kn : Int) == lf) = true := by simp [ht]
                    have HNX : Hid ((nextW (atI (tailsL ls l ts)) (us.take (m + 1)) lf).getD (-1) = (kn : Int)) := by show _ = _; rw [List.take_succ_eq_append_getElem hlt2, nextW_app, hn, nextW_one, hkn, if_pos ht]; rfl
                    clear hn ht hkn hxr
                    generalize atI (tailsL ls l ts) (kn : Int) = x at *
                    simp only [Option.getD_none]
                    go_wp2_with fail
                    go_region
                    all_goals
                      go_wp2_with fail
                      go_roundw
                      case rel => exact ⟨m + 1, by omega, by go_num, by show _ = _; rw [HNX.out], Lib.hid (Below.drew HZ.out)⟩
                      case measure => simp [intOf]; omega
                  · have ht1 : (atI (tailsL ls l ts) (kn : Int) == lf) = false := by simp [ht]
                    have HNX : Hid ((nextW (atI (tailsL ls l ts)) (us.take (m + 1)) lf).getD (-1) = -1) := by show _ = _; rw [List.take_succ_eq_append_getElem hlt2, nextW_app, hn, nextW_one, hkn, if_neg ht]; rfl
                    clear hn ht hkn hxr
                    generalize atI (tailsL ls l ts) (kn : Int) = x at *
                    simp only [Option.getD_none]
                    go_wp2_with fail
                    go_region
                    all_goals
                      go_wp2_with fail
                      go_roundw
                      case rel => exact ⟨m + 1, by omega, by go_num, by show _ = _; rw [HNX.out], Lib.hid (Below.drew HZ.out)⟩
                      case measure => simp [intOf]; omega
                · have hjm := HUR.out j (List.mem_of_mem_take (nextW_mem hn).1)
                  have hj1 : decide (j < 0) = false := by simp; omega
                  have HNX : Hid ((nextW (atI (tailsL ls l ts)) (us.take (m + 1)) lf).getD (-1) = j) := by show _ = _; rw [List.take_succ_eq_append_getElem hlt2, nextW_app, hn]; rfl
                  clear hn hkn hxr hjm hck hcz hct
                  simp only [Option.getD_some]
                  go_wp2_with fail
                  go_region
                  all_goals
                    go_wp2_with fail
                    go_roundw
                    case rel => exact ⟨m + 1, by omega, by go_num, by show _ = _; rw [HNX.out], Lib.hid (Below.drew HZ.out)⟩
                    case measure => simp [intOf]; omega
              · have he : us.take m = us := List.take_of_length_le (by omega)
                rw [he]
                clear he
                go_wp2_with fail
                go_roundw
                case rel => exact ⟨_, mo ++ [(zn : Int)], rfl, HST, Lib.hid (bth K8.out HZ.out (Nat.le_refl _)), Lib.hid (own_below HN8.out HZ.out)⟩
                case measure =>
                  have := HLS.out
                  show (if (nextW (atI (tailsL ls l ts)) us lf).getD (-1) < 0 then 0 else (atI (tailsL ls l ts) ((nextW (atI (tailsL ls l ts)) us lf).getD (-1))).toNat) < (if (zn : Int) < 0 then 0 else (atI (tailsL ls l ts) (zn : Int)).toNat)
                  rw [if_neg (show ¬ ((zn : Int) < 0) by omega), HTE.out]
                  exact this
          · obtain ⟨rfl, rfl⟩ : z = -1 ∧ mo = wayT ls l ts := by
              rcases HMO.out with h | ⟨f, h1, _⟩
              · exact h
              · omega
            have HBZ := Lib.hid (bth HB2.out HB.out (Nat.le_refl _))
            have HO := Lib.hid (own_base HN.out HB2.out.size)
            clear HN HB hz
            go_wp2_with fail
            go_ret3
            obtain rfl := HEQ.out
            exact ⟨_, rfl, HO.out, HBZ.out⟩

end Go.Proofs.Ytgolhfmmlanmlaa

/- Walks: the reference's latest ends and slack. -/
namespace Go.Proofs.Ytgolhfmmlanmlaa
open Go.RowKit Pth

set_option maxRecDepth 20000 in
set_option maxHeartbeats 8000000 in
theorem specLatest_any (ls : List (List Int)) (l ts : List Int) (v u : Value) (w : World) (hst : GraphV w v ls l) (hrow : RowV w u (I ts)) :
    Calls Try.prog 25 #[v, u] w (ListNOk (ifL (timesG ls l ts) (latestL ls l ts)) (ifN (timesG ls l ts) (endT (tailsL ls l ts))) (timesG ls l ts) w) := by
  have HV := Lib.hid hst
  have HR := Lib.hid hrow
  obtain ⟨nv, ov, rfl, h1, h2⟩ := hst
  obtain ⟨an, cn, rfl, hn1, hn2, hat⟩ := h1.lists
  obtain ⟨ao, co, rfl, ho1, ho2, hao⟩ := h2.ints
  obtain ⟨tm, tc, rfl, ht1, ht2, htt⟩ := hrow.ints
  clear h1 h2 hrow
  unfold maxLen at hn2 ho2 ht2
  have HAT := Lib.hid hat
  have HAO := Lib.hid hao
  have HTT := Lib.hid htt
  clear hat hao htt
  obtain ⟨wa, hwa⟩ : ∃ wa, wa = w.alloc (.cells #[.slice an ls.length cn, .slice ao l.length co] 26) := ⟨_, rfl⟩
  have P0 : Hid (Blk2 wa w.heap.size 26 (.slice an ls.length cn) (.slice ao l.length co)) := by rw [hwa]; exact Blk2.new
  have HA : Hid (Below w.heap.size w wa) := by rw [hwa]; exact (Below.refl w.heap.size w).alloc (Nat.le_refl _) _
  have hsa : wa.heap.size = w.heap.size + 1 := by rw [hwa]; simp
  have HSA := Lib.hid hsa
  have hsz : w.heap.size < wa.heap.size := by omega
  have HWA := Lib.hid hwa
  obtain ⟨c0, c1⟩ := P0.out.cells
  have HC := l10Times_any ls l ts _ _ wa (HV.out.below HA.out) (HR.out.below HA.out)
  clear hwa hsa
  rcases hT : timesG ls l ts with _ | _
  · rw [hT] at HC
    have HCC := Lib.hid HC
    clear HC hT
    go_enter Try.func25, Try.ntmps25
    go_wp2_with fail
    rw [← HWA.out]
    refine HCC.out.mono ?_
    rintro e w1 ⟨rfl, hb1⟩
    have HB1 := Lib.hid (bth HA.out hb1 (Nat.le_refl _))
    clear hb1 c0 c1
    go_wp2_with fail
    go_ret3
    exact ⟨_, rfl, none_ownZ _ _ _, HB1.out⟩
  · rw [hT] at HC
    have HCC := Lib.hid HC
    obtain ⟨hG, hTT⟩ := timesG_yes hT
    have HG := Lib.hid hG
    have HTM := Lib.hid hTT
    clear HC hT hG hTT
    go_enter Try.func25, Try.ntmps25
    go_wp2_with fail
    rw [← HWA.out]
    refine HCC.out.mono ?_
    rintro e w1 ⟨rfl, hb1⟩
    have HB1 := Lib.hid (bth HA.out hb1 (Nat.le_refl _))
    have P1 := Lib.hid (P0.out.below hb1 hsz)
    have hsz1 := Nat.lt_of_lt_of_le hsz hb1.size
    obtain ⟨d0, d1⟩ := P1.out.cells
    have HU := Lib.hid (l10Ends_any ls l ts _ _ w1 (HV.out.below HB1.out) (HR.out.below HB1.out) HG.out HTM.out)
    clear hb1 c0 c1
    go_wp2_with fail
    refine HU.out.mono ?_
    rintro e w2 ⟨v2, rfl, ho2', hb2⟩
    have HB2 := Lib.hid (bth HB1.out hb2 (Nat.le_refl _))
    have P2 := Lib.hid (P1.out.below hb2 hsz1)
    have hsz2 := Nat.lt_of_lt_of_le hsz1 hb2.size
    have HE := l10End_any (endsL ls l ts) v2 w2 (RowV.of_own ho2')
    rw [end_same HG.out.toP HTM.out] at HE
    have HEE := Lib.hid HE
    obtain ⟨qa, qc, hq⟩ := own_slice ho2'
    subst hq
    clear ho2' hb2 d0 d1 HE
    obtain ⟨d0, d1⟩ := P2.out.cells
    have HU2 := Lib.hid (l10Tails_any ls l ts _ _ w2 (HV.out.below HB2.out) (HR.out.below HB2.out) HG.out HTM.out)
    have hea := end_at HG.out.toP HTM.out
    have HPW : Hid (∀ k : Nat, k < ls.length → IntKind.i64.wrap (IntKind.i64.wrap (endT (tailsL ls l ts) - atI (tailsL ls l ts) (k : Int)) + atI ts (k : Int)) = atI (latestL ls l ts) (k : Int)) := fun k hk => by
      have hkr : 0 ≤ (k : Int) ∧ (k : Int) < (ls.length : Int) := by omega
      have h1 := latest_at HG.out.toP HTM.out hkr
      have h2 := tails_at HG.out.toP HTM.out hkr
      have h3 := HTM.out.at hkr
      rw [h1.1]
      simp only [IntKind.wrap_i64]
      omega
    have HXL := Lib.hid (tailsL_len ls l ts)
    have HYL := Lib.hid HTM.out.len
    have HML := Lib.hid (latestL_len ls l ts)
    have h10 := HG.out.high
    generalize endT (tailsL ls l ts) = E at *
    generalize (endsL ls l ts).length = n1 at *
    go_wp2_with fail
    refine HEE.out.mono ?_
    rintro e w3 ⟨rfl, rfl⟩
    go_wp2_with fail
    refine HU2.out.mono ?_
    rintro e w4 ⟨v4, rfl, ho4', hb4⟩
    have K4 := Lib.hid hb4
    have HB4 := Lib.hid (bth HB2.out hb4 (Nat.le_refl _))
    obtain ⟨xa, xc, hv4, hx1, hx2, hxt⟩ := (RowV.of_own ho4').ints
    rw [HXL.out] at hv4 hx1
    subst hv4
    unfold maxLen at hx2
    have HLT := Lib.hid hxt
    have HYT := HTT
    clear ho4' hb4 d0 d1 hxt
    go_wp2_with fail
    go_loopw [8, 23] (fun q i wr => ∃ k : Nat, k ≤ ls.length ∧ i = .int .i64 k ∧ Hid (Below w4.heap.size w4 wr) ∧ Hid (wr.ownsRow w4.heap.size 3 1 q ((latestL ls l ts).take k).length (I ((latestL ls l ts).take k)))) (fun _ i _ => ls.length - (intOf i).toNat)
    case atStart => exact ⟨0, Nat.zero_le _, rfl, Below.refl _ _, none_ownZ _ _ _⟩
    case round =>
      obtain ⟨k, hk, rfl, HB, HN⟩ := hrel
      have hbs := HB.out.size
      by_cases hlt : k < ls.length
      · have hkr : 0 ≤ (k : Int) ∧ (k : Int) < (ls.length : Int) := by omega
        have hkx : k < (tailsL ls l ts).length := by rw [HXL.out]; exact hlt
        have hky : k < ts.length := by rw [HYL.out]; exact hlt
        have hkm : k < (latestL ls l ts).length := by rw [HML.out]; exact hlt
        have hkyz : (k : Int) < (ts.length : Int) := by omega
        obtain ⟨g, o, hgo, hg, hcell0⟩ := HLT.out k hkx
        subst hgo
        obtain ⟨g1, o1, hgo1, hg1, hcell1⟩ := HYT.out k hky
        subst hgo1
        have hcx : wr.cell? ⟨g, o + k, none⟩ = some (.int .i64 (atI (tailsL ls l ts) (k : Int))) := by rw [HB.out.cell (p := ⟨g, o + k, none⟩) hg, hcell0, atI_get hkx]
        have hcy : wr.cell? ⟨g1, o1 + k, none⟩ = some (.int .i64 (atI ts (k : Int))) := by rw [(bth HB4.out HB.out (Nat.le_refl _)).cell (p := ⟨g1, o1 + k, none⟩) hg1, hcell1, atI_get hky]
        have HE := Lib.hid (show (latestL ls l ts).take (k + 1) = (latestL ls l ts).take k ++ [atI (latestL ls l ts) (k : Int)] by rw [List.take_succ_eq_append_getElem hkm, atI_get hkm])
        have HNA := Lib.hid (own_Z HN.out)
        have hIl : (I ((latestL ls l ts).take k)).length ≤ 1000000 := by rw [I_len, List.length_take]; omega
        have hp := HPW.out k hlt
        clear HN hcell0 hcell1 hkx hky hkm
        generalize atI (latestL ls l ts) (k : Int) = r at *
        generalize atI (tailsL ls l ts) (k : Int) = x at *
        generalize atI ts (k : Int) = y at *
        generalize (latestL ls l ts).take k = mk at *
        obtain ⟨dd, hd⟩ : ∃ d, IntKind.i64.wrap (E - x) = d := ⟨_, rfl⟩
        rw [hd] at hp
        go_wp2_with (at_builtin; refine wpAppOne elemI rfl _ _ rfl w4.heap.size _ (I mk) rfl HNA.out _ rfl rfl rfl hIl HB.out.size ?_; intro v7 w7 hown7 hg7; have HN7 := Lib.hid (own_Z2 hown7); have HB7 := Lib.hid (HB.out.trans (below_own HNA.out hg7 HB.out.size)); clear hown7 hg7)
        go_roundw
        case rel => exact ⟨k + 1, by omega, by go_num, HB7, by rw [HE.out]; exact HN7.out⟩
        case measure => simp [intOf]; omega
      · have ho := HN.out
        rw [List.take_of_length_le (by rw [HML.out]; omega)] at ho
        have HO := Lib.hid (own_base ho HB4.out.size)
        have HBZ := Lib.hid (bth HB4.out HB.out (Nat.le_refl _))
        clear ho HN
        go_wp2_with fail
        go_ret3
        exact ⟨_, rfl, HO.out, HBZ.out⟩

set_option maxRecDepth 20000 in
set_option maxHeartbeats 8000000 in
theorem specSlack_any (ls : List (List Int)) (l ts : List Int) (v u : Value) (w : World) (hst : GraphV w v ls l) (hrow : RowV w u (I ts)) :
    Calls Try.prog 23 #[v, u] w (ListOk (ifL (timesG ls l ts) (slackL ls l ts)) (timesG ls l ts) w) := by
  have HV := Lib.hid hst
  have HR := Lib.hid hrow
  obtain ⟨nv, ov, rfl, h1, h2⟩ := hst
  obtain ⟨an, cn, rfl, hn1, hn2, hat⟩ := h1.lists
  obtain ⟨ao, co, rfl, ho1, ho2, hao⟩ := h2.ints
  obtain ⟨tm, tc, rfl, ht1, ht2, htt⟩ := hrow.ints
  clear h1 h2 hrow
  unfold maxLen at hn2 ho2 ht2
  have HAT := Lib.hid hat
  have HAO := Lib.hid hao
  have HTT := Lib.hid htt
  clear hat hao htt
  obtain ⟨wa, hwa⟩ : ∃ wa, wa = w.alloc (.cells #[.slice an ls.length cn, .slice ao l.length co] 26) := ⟨_, rfl⟩
  have P0 : Hid (Blk2 wa w.heap.size 26 (.slice an ls.length cn) (.slice ao l.length co)) := by rw [hwa]; exact Blk2.new
  have HA : Hid (Below w.heap.size w wa) := by rw [hwa]; exact (Below.refl w.heap.size w).alloc (Nat.le_refl _) _
  have hsa : wa.heap.size = w.heap.size + 1 := by rw [hwa]; simp
  have HSA := Lib.hid hsa
  have hsz : w.heap.size < wa.heap.size := by omega
  have HWA := Lib.hid hwa
  obtain ⟨c0, c1⟩ := P0.out.cells
  have HC := specLatest_any ls l ts _ _ wa (HV.out.below HA.out) (HR.out.below HA.out)
  clear hwa hsa
  rcases hT : timesG ls l ts with _ | _
  · rw [hT] at HC
    have HCC := Lib.hid HC
    clear HC hT
    go_enter Try.func23, Try.ntmps23
    go_wp2_with fail
    rw [← HWA.out]
    refine HCC.out.mono ?_
    rintro e w1 ⟨v1, rfl, _, hb1⟩
    have HB1 := Lib.hid (bth HA.out hb1 (Nat.le_refl _))
    clear hb1 c0 c1
    go_wp2_with fail
    go_ret2
    exact ⟨_, rfl, none_ownZ _ _ _, HB1.out⟩
  · rw [hT] at HC
    have HCC := Lib.hid HC
    obtain ⟨hG, hTT⟩ := timesG_yes hT
    have HG := Lib.hid hG
    have HTM := Lib.hid hTT
    clear HC hT hG hTT
    go_enter Try.func23, Try.ntmps23
    go_wp2_with fail
    rw [← HWA.out]
    refine HCC.out.mono ?_
    rintro e w1 ⟨v1, rfl, ho1', hb1⟩
    have HB1 := Lib.hid (bth HA.out hb1 (Nat.le_refl _))
    have P1 := Lib.hid (P0.out.below hb1 hsz)
    have ho1 : w1.ownsRow wa.heap.size 3 1 v1 (latestL ls l ts).length (I (latestL ls l ts)) := ho1'
    obtain ⟨ya, yc, hv1, hy1, hy2, hyt⟩ := (RowV.of_own ho1).ints
    rw [latestL_len] at hv1 hy1
    subst hv1
    unfold maxLen at hy2
    have HYT := Lib.hid hyt
    obtain ⟨d0, d1⟩ := P1.out.cells
    have HU2 := Lib.hid (l10Ends_any ls l ts _ _ w1 (HV.out.below HB1.out) (HR.out.below HB1.out) HG.out HTM.out)
    have HPW : Hid (∀ k : Nat, k < ls.length → IntKind.i64.wrap (atI (latestL ls l ts) (k : Int) - atI (endsL ls l ts) (k : Int)) = atI (slackL ls l ts) (k : Int)) := fun k hk => by
      have hkr : 0 ≤ (k : Int) ∧ (k : Int) < (ls.length : Int) := by omega
      have h1 := latest_at HG.out.toP HTM.out hkr
      have h2 := ends_at HG.out.toP HTM.out hkr
      have h3 : atI (slackL ls l ts) (k : Int) = atI (latestL ls l ts) (k : Int) - atI (endsL ls l ts) (k : Int) := atI_map hkr
      rw [h3]
      simp only [IntKind.wrap_i64]
      omega
    have HXL := Lib.hid (endsL_len ls l ts)
    have HYL := Lib.hid (latestL_len ls l ts)
    have HML := Lib.hid (slackL_len ls l ts)
    have h10 := HG.out.high
    clear hb1 c0 c1 ho1' ho1 hyt
    go_wp2_with fail
    refine HU2.out.mono ?_
    rintro e w4 ⟨v4, rfl, ho4', hb4⟩
    have K4 := Lib.hid hb4
    have HB4 := Lib.hid (bth HB1.out hb4 (Nat.le_refl _))
    obtain ⟨xa, xc, hv4, hx1, hx2, hxt⟩ := (RowV.of_own ho4').ints
    rw [HXL.out] at hv4 hx1
    subst hv4
    unfold maxLen at hx2
    have HLT := Lib.hid hxt
    clear ho4' hb4 d0 d1 hxt
    go_wp2_with fail
    go_loopw [9, 25] (fun q i wr => ∃ k : Nat, k ≤ ls.length ∧ i = .int .i64 k ∧ Hid (Below w4.heap.size w4 wr) ∧ Hid (wr.ownsRow w4.heap.size 3 1 q ((slackL ls l ts).take k).length (I ((slackL ls l ts).take k)))) (fun _ i _ => ls.length - (intOf i).toNat)
    case atStart => exact ⟨0, Nat.zero_le _, rfl, Below.refl _ _, none_ownZ _ _ _⟩
    case round =>
      obtain ⟨k, hk, rfl, HB, HN⟩ := hrel
      have hbs := HB.out.size
      by_cases hlt : k < ls.length
      · have hkr : 0 ≤ (k : Int) ∧ (k : Int) < (ls.length : Int) := by omega
        have hkx : k < (endsL ls l ts).length := by rw [HXL.out]; exact hlt
        have hky : k < (latestL ls l ts).length := by rw [HYL.out]; exact hlt
        have hkm : k < (slackL ls l ts).length := by rw [HML.out]; exact hlt
        have hkyz : (k : Int) < ((latestL ls l ts).length : Int) := by omega
        obtain ⟨g, o, hgo, hg, hcell0⟩ := HLT.out k hkx
        subst hgo
        obtain ⟨g1, o1, hgo1, hg1, hcell1⟩ := HYT.out k hky
        subst hgo1
        have hcx : wr.cell? ⟨g, o + k, none⟩ = some (.int .i64 (atI (endsL ls l ts) (k : Int))) := by rw [HB.out.cell (p := ⟨g, o + k, none⟩) hg, hcell0, atI_get hkx]
        have hcy : wr.cell? ⟨g1, o1 + k, none⟩ = some (.int .i64 (atI (latestL ls l ts) (k : Int))) := by rw [(bth K4.out HB.out (Nat.le_refl _)).cell (p := ⟨g1, o1 + k, none⟩) hg1, hcell1, atI_get hky]
        have HE := Lib.hid (show (slackL ls l ts).take (k + 1) = (slackL ls l ts).take k ++ [atI (slackL ls l ts) (k : Int)] by rw [List.take_succ_eq_append_getElem hkm, atI_get hkm])
        have HNA := Lib.hid (own_Z HN.out)
        have hIl : (I ((slackL ls l ts).take k)).length ≤ 1000000 := by rw [I_len, List.length_take]; omega
        have hp := HPW.out k hlt
        clear HN hcell0 hcell1 hkx hky hkm
        generalize atI (slackL ls l ts) (k : Int) = r at *
        generalize atI (endsL ls l ts) (k : Int) = x at *
        generalize atI (latestL ls l ts) (k : Int) = y at *
        generalize (slackL ls l ts).take k = mk at *
        skip
        go_wp2_with (at_builtin; refine wpAppOne elemI rfl _ _ rfl w4.heap.size _ (I mk) rfl HNA.out _ rfl rfl rfl hIl HB.out.size ?_; intro v7 w7 hown7 hg7; have HN7 := Lib.hid (own_Z2 hown7); have HB7 := Lib.hid (HB.out.trans (below_own HNA.out hg7 HB.out.size)); clear hown7 hg7)
        go_roundw
        case rel => exact ⟨k + 1, by omega, by go_num, HB7, by rw [HE.out]; exact HN7.out⟩
        case measure => simp [intOf]; omega
      · have ho := HN.out
        rw [List.take_of_length_le (by rw [HML.out]; omega)] at ho
        have HO := Lib.hid (own_base ho HB4.out.size)
        have HBZ := Lib.hid (bth HB4.out HB.out (Nat.le_refl _))
        clear ho HN
        go_wp2_with fail
        go_ret2
        exact ⟨_, rfl, HO.out, HBZ.out⟩

end Go.Proofs.Ytgolhfmmlanmlaa

/- Walks: the greatest of all, two lists taken pair by pair, the program's latest ends and slack. -/
namespace Go.Proofs.Ytgolhfmmlanmlaa
open Go.RowKit Pth

theorem Blk1.setE {w : World} {b t : Nat} {x : Value} (h : Blk1 w b t x) (u : Value) : Blk1 (w.setCell ⟨b, 0, none⟩ u) b t u := heap_setCell_same w b 0 _ t u h

set_option maxRecDepth 20000 in
set_option maxHeartbeats 8000000 in
theorem max_any (l : List Int) (v : Value) (w : World) (hrow : RowV w v (I l)) (hne : 0 < l.length) (h0 : ∀ x ∈ l, 0 ≤ x) :
    Calls Try.prog 73 #[v] w fun e w' => e = .returned (.int .i64 (endT l)) ∧ w' = w := by
  obtain ⟨a, cap, rfl, hc1, hc2, hat⟩ := hrow.ints
  clear hrow
  unfold maxLen at hc2
  have HAT := Lib.hid hat
  obtain ⟨g, o, rfl, hg, hcell0⟩ := hat 0 hne
  have hcell1 : w.cell? ⟨g, o, none⟩ = some (.int .i64 l[0]) := hcell0
  have h1 : Hid (endT (l.take 1) = l[0]) := by
    show _ = _
    have := h0 l[0] (List.getElem_mem hne)
    rw [List.take_succ_eq_append_getElem hne, List.take_zero, endT_snoc]
    show (if l[0] > 0 then l[0] else 0) = l[0]
    split <;> omega
  have hd : decide ((l.length : Int) < 1) = false := by simp; omega
  have hl0 : (0 : Int) < (l.length : Int) := by omega
  clear hat h0
  go_enter Try.func73, Try.ntmps73
  go_wp2_with fail
  clear hcell0 hcell1
  go_loop [3, 4] (fun q i => ∃ k : Nat, 1 ≤ k ∧ k ≤ l.length ∧ i = .int .i64 k ∧ Hid (q = .int .i64 (endT (l.take k)))) (fun _ i => l.length - (intOf i).toNat)
  case atStart => exact ⟨1, Nat.le_refl _, hne, rfl, by show _ = _; rw [h1.out]⟩
  case round =>
    obtain ⟨k, hk0, hk, rfl, HQ⟩ := hrel
    have hq := HQ.out
    clear HQ
    subst hq
    by_cases hlt : k < l.length
    · obtain ⟨g', o', hA, hg', hcell⟩ := HAT.out k hlt
      obtain ⟨rfl, rfl⟩ := addr_inj hA
      have hltz : (k : Int) < (l.length : Int) := by omega
      obtain ⟨r, hr⟩ : ∃ r, endT (l.take (k + 1)) = r := ⟨_, rfl⟩
      have hmx : max (endT (l.take k)) l[k] = r := by
        rw [← hr, List.take_succ_eq_append_getElem hlt, endT_snoc, Int.max_def]
        split <;> split <;> omega
      have HRE := Lib.hid hr
      clear hr hA h1
      generalize endT (l.take k) = q at *
      generalize l[k] = x at *
      go_wp2_with fail
      go_round
      case rel => exact ⟨k + 1, by omega, by omega, by go_num, by show _ = _; rw [HRE.out]⟩
      case measure => simp [intOf]; omega
    · have he : l.take k = l := List.take_of_length_le (by omega)
      have hltz : ¬ ((k : Int) < (l.length : Int)) := by omega
      rw [he]
      clear he h1
      go_wp2_with fail
      go_ret
      exact ⟨rfl, rfl⟩

set_option maxRecDepth 20000 in
set_option maxHeartbeats 8000000 in
theorem endOfAll_any (l : List Int) (v : Value) (w : World) (hrow : RowV w v (I l)) (hne : 0 < l.length) (h0 : ∀ x ∈ l, 0 ≤ x) :
    Calls Try.prog 42 #[v] w fun e w' => e = .returned (.int .i64 (endT l)) ∧ w' = w := by
  have HC := Lib.hid (max_any l v w hrow hne h0)
  obtain ⟨a, cap, rfl, _⟩ := hrow.ints
  clear hrow h0
  go_enter Try.func42, Try.ntmps42
  go_wp2_with fail
  refine HC.out.mono ?_
  rintro e w1 ⟨rfl, rfl⟩
  go_wp2_with fail
  go_ret
  exact ⟨rfl, rfl⟩
theorem latest1_any (E x y r : Int) (b : Nat) (w : World) (hb : w.cell? ⟨b, 0, none⟩ = some (.int .i64 E)) (hr : IntKind.i64.wrap (IntKind.i64.wrap (E - x) + y) = r) :
    Calls Try.prog 56 #[.int .i64 x, .int .i64 y, .pointer (some ⟨b, 0, none⟩)] w fun e w' => e = .returned (.int .i64 r) ∧ w' = w := by
  obtain ⟨d, hd⟩ : ∃ d, IntKind.i64.wrap (E - x) = d := ⟨_, rfl⟩
  rw [hd] at hr
  go_enter Try.func56, Try.ntmps56
  go_wp2_with fail
  go_ret
  exact ⟨rfl, rfl⟩
theorem slack1_any (x y r : Int) (w : World) (hr : IntKind.i64.wrap (x - y) = r) :
    Calls Try.prog 55 #[.int .i64 x, .int .i64 y] w fun e w' => e = .returned (.int .i64 r) ∧ w' = w := by
  go_enter Try.func55, Try.ntmps55
  go_wp2_with fail
  go_ret
  exact ⟨rfl, rfl⟩

set_option maxRecDepth 20000 in
set_option maxHeartbeats 8000000 in
theorem pairLatest_any (n : Nat) (la lb m : List Int) (E : Int) (gb : Nat) (v1 v2 : Value) (w : World) (h1 : RowV w v1 (I la)) (h2 : RowV w v2 (I lb)) (ha : la.length = n) (hb : lb.length = n) (hm : m.length = n) (h10 : n ≤ 1000) (hf : (∀ k : Nat, k < n → IntKind.i64.wrap (IntKind.i64.wrap (E - atI la (k : Int)) + atI lb (k : Int)) = atI m (k : Int)) ∧ Blk1 w gb 3 (.int .i64 E) ∧ gb < w.heap.size) :
    Calls Try.prog 54 #[v1, v2, .func (.func 56) #[] #[.pointer (some ⟨gb, 0, none⟩)]] w (IntsPost w.heap.size m w) := by
  obtain ⟨aa, ca, hv1, ha1, ha2, hat⟩ := h1.ints
  obtain ⟨ab, cb, hv2, hb1, hb2, hbt⟩ := h2.ints
  rw [ha] at hv1 ha1
  rw [hb] at hv2 hb1
  subst hv1 hv2
  unfold maxLen at ha2 hb2
  have HAT := Lib.hid hat
  have HBT := Lib.hid hbt
  have HA := Lib.hid ha
  have HB := Lib.hid hb
  have HM := Lib.hid hm
  have HF := Lib.hid hf
  clear hat hbt h1 h2 ha hb hm hf
  obtain ⟨csI, hcI, mI⟩ := make_alloc elemI rfl n (by omega)
  have hH := (own_of_heap (w := w.alloc (.cells csI 3)) (B := w.heap.size) (heap_alloc_new w _) (Nat.le_refl _) hcI (by simp) (show n ≤ maxLen by unfold maxLen; omega))
  have HB0 : Hid (Below w.heap.size w (w.alloc (.cells csI 3))) := (Below.refl w.heap.size w).alloc (Nat.le_refl _) _
  have e0 : List.replicate n (Value.int .i64 0) = I (m.take 0 ++ List.replicate (n - 0) 0) := by simp [I]
  rw [e0] at hH
  have HO0 := Lib.hid hH
  obtain ⟨w2, hw2⟩ : ∃ w2, w2 = w.alloc (.cells csI 3) := ⟨_, rfl⟩
  rw [← hw2] at HO0 HB0
  have HW2 := Lib.hid hw2
  clear hcI hH e0 hw2
  go_enter Try.func54, Try.ntmps54
  go_wp2_with fail
  rw [← HW2.out]
  clear mI HW2
  go_loopw [14] (fun i wr => ∃ k : Nat, k ≤ n ∧ i = .int .i64 (k : Int) ∧ Hid (wr.ownsRow w.heap.size 3 1 (.slice (some ⟨w.heap.size, 0, none⟩) n n) n (I (m.take k ++ List.replicate (n - k) 0))) ∧ Hid (Below w.heap.size w wr)) (fun i _ => n - (intOf i).toNat)
  case atStart => exact ⟨0, Nat.zero_le _, rfl, HO0, HB0⟩
  case round =>
    clear HO0 HB0
    obtain ⟨k, hk, rfl, HO, HBW⟩ := hrel
    by_cases hlt : k < n
    · have hka : k < la.length := by rw [HA.out]; exact hlt
      have hkb : k < lb.length := by rw [HB.out]; exact hlt
      have hkm : k < m.length := by rw [HM.out]; exact hlt
      obtain ⟨g, o, hgo, hg, hcell0⟩ := HAT.out k hka
      subst hgo
      obtain ⟨g1, o1, hgo1, hg1, hcell1⟩ := HBT.out k hkb
      subst hgo1
      have hltz : (k : Int) < (n : Int) := by omega
      have hcx : wr.cell? ⟨g, o + k, none⟩ = some (.int .i64 (atI la (k : Int))) := by rw [HBW.out.cell (p := ⟨g, o + k, none⟩) hg, hcell0, atI_get hka]
      have hcy : wr.cell? ⟨g1, o1 + k, none⟩ = some (.int .i64 (atI lb (k : Int))) := by rw [HBW.out.cell (p := ⟨g1, o1 + k, none⟩) hg1, hcell1, atI_get hkb]
      have hml : (m.take k).length = k := by rw [List.length_take, Nat.min_eq_left (by omega)]
      have hfl := fill_one (m.take k) (0 : Int) (atI m (k : Int)) n k hml hlt
      rw [atI_get hkm, ← List.take_succ_eq_append_getElem hkm, ← atI_get hkm] at hfl
      have HC := Lib.hid (fun W (hW : Below wr.heap.size wr W) => latest1_any E (atI la (k : Int)) (atI lb (k : Int)) (atI m (k : Int)) gb W ((HF.out.2.1.below (bth HBW.out hW (Nat.le_refl _)) HF.out.2.2).cell) (HF.out.1 k hlt))
      have hcu : wr.cell? ⟨w.heap.size, k, none⟩ = some (.int .i64 0) := by
        rw [HO.out.cellAt k (by omega), I_append, List.getElem?_append_right (by rw [I_len, hml]; exact Nat.le_refl _), I_len, hml, Nat.sub_self]
        have : n - k = (n - (k + 1)) + 1 := by omega
        rw [this]
        rfl
      have hf2 := HO.out.frozenAt k
      have hst := HO.out.stored k (.int .i64 (atI m (k : Int)))
      rw [I_setE, hfl] at hst
      have HO1 := Lib.hid hst.1
      have HB1 := Lib.hid (HBW.out.trans (only_below hst.2 (Nat.le_refl _) HBW.out.size))
      clear hst hcell0 hcell1 hml hfl HO HBW hka hkb hkm
      generalize atI m (k : Int) = r at *
      generalize atI la (k : Int) = x at *
      generalize atI lb (k : Int) = y at *
      go_wp2_with fail
      go_region_with (go_at_call 56; first | (refine (HC.out _ (Below.refl _ _)).mono ?_; rintro e w9 ⟨rfl, rfl⟩) | (refine (HC.out _ (Below.drew (Below.refl _ _))).mono ?_; rintro e w9 ⟨rfl, rfl⟩))
      all_goals
        go_wp2_with fail
        go_roundw
        case rel => exact ⟨k + 1, by omega, by go_num, HO1, Lib.hid (Below.drew HB1.out)⟩
        case measure => simp [intOf]; omega
    · obtain rfl : k = n := by omega
      have ho := HO.out
      rw [List.take_of_length_le (by rw [HM.out]; omega), Nat.sub_self, List.replicate_zero, List.append_nil] at ho
      have HO2 := Lib.hid ho
      clear ho HO
      go_wp2_with fail
      go_ret
      exact ⟨_, rfl, by rw [HM.out]; exact HO2.out, HBW.out⟩

set_option maxRecDepth 20000 in
set_option maxHeartbeats 8000000 in
theorem pairSlack_any (n : Nat) (la lb m : List Int) (v1 v2 : Value) (w : World) (h1 : RowV w v1 (I la)) (h2 : RowV w v2 (I lb)) (ha : la.length = n) (hb : lb.length = n) (hm : m.length = n) (h10 : n ≤ 1000) (hf : ∀ k : Nat, k < n → IntKind.i64.wrap (atI la (k : Int) - atI lb (k : Int)) = atI m (k : Int)) :
    Calls Try.prog 54 #[v1, v2, .func (.func 55) #[] #[]] w (IntsPost w.heap.size m w) := by
  obtain ⟨aa, ca, hv1, ha1, ha2, hat⟩ := h1.ints
  obtain ⟨ab, cb, hv2, hb1, hb2, hbt⟩ := h2.ints
  rw [ha] at hv1 ha1
  rw [hb] at hv2 hb1
  subst hv1 hv2
  unfold maxLen at ha2 hb2
  have HAT := Lib.hid hat
  have HBT := Lib.hid hbt
  have HA := Lib.hid ha
  have HB := Lib.hid hb
  have HM := Lib.hid hm
  have HF := Lib.hid hf
  clear hat hbt h1 h2 ha hb hm hf
  obtain ⟨csI, hcI, mI⟩ := make_alloc elemI rfl n (by omega)
  have hH := (own_of_heap (w := w.alloc (.cells csI 3)) (B := w.heap.size) (heap_alloc_new w _) (Nat.le_refl _) hcI (by simp) (show n ≤ maxLen by unfold maxLen; omega))
  have HB0 : Hid (Below w.heap.size w (w.alloc (.cells csI 3))) := (Below.refl w.heap.size w).alloc (Nat.le_refl _) _
  have e0 : List.replicate n (Value.int .i64 0) = I (m.take 0 ++ List.replicate (n - 0) 0) := by simp [I]
  rw [e0] at hH
  have HO0 := Lib.hid hH
  obtain ⟨w2, hw2⟩ : ∃ w2, w2 = w.alloc (.cells csI 3) := ⟨_, rfl⟩
  rw [← hw2] at HO0 HB0
  have HW2 := Lib.hid hw2
  clear hcI hH e0 hw2
  go_enter Try.func54, Try.ntmps54
  go_wp2_with fail
  rw [← HW2.out]
  clear mI HW2
  go_loopw [14] (fun i wr => ∃ k : Nat, k ≤ n ∧ i = .int .i64 (k : Int) ∧ Hid (wr.ownsRow w.heap.size 3 1 (.slice (some ⟨w.heap.size, 0, none⟩) n n) n (I (m.take k ++ List.replicate (n - k) 0))) ∧ Hid (Below w.heap.size w wr)) (fun i _ => n - (intOf i).toNat)
  case atStart => exact ⟨0, Nat.zero_le _, rfl, HO0, HB0⟩
  case round =>
    clear HO0 HB0
    obtain ⟨k, hk, rfl, HO, HBW⟩ := hrel
    by_cases hlt : k < n
    · have hka : k < la.length := by rw [HA.out]; exact hlt
      have hkb : k < lb.length := by rw [HB.out]; exact hlt
      have hkm : k < m.length := by rw [HM.out]; exact hlt
      obtain ⟨g, o, hgo, hg, hcell0⟩ := HAT.out k hka
      subst hgo
      obtain ⟨g1, o1, hgo1, hg1, hcell1⟩ := HBT.out k hkb
      subst hgo1
      have hltz : (k : Int) < (n : Int) := by omega
      have hcx : wr.cell? ⟨g, o + k, none⟩ = some (.int .i64 (atI la (k : Int))) := by rw [HBW.out.cell (p := ⟨g, o + k, none⟩) hg, hcell0, atI_get hka]
      have hcy : wr.cell? ⟨g1, o1 + k, none⟩ = some (.int .i64 (atI lb (k : Int))) := by rw [HBW.out.cell (p := ⟨g1, o1 + k, none⟩) hg1, hcell1, atI_get hkb]
      have hml : (m.take k).length = k := by rw [List.length_take, Nat.min_eq_left (by omega)]
      have hfl := fill_one (m.take k) (0 : Int) (atI m (k : Int)) n k hml hlt
      rw [atI_get hkm, ← List.take_succ_eq_append_getElem hkm, ← atI_get hkm] at hfl
      have HC := Lib.hid (fun W (hW : Below wr.heap.size wr W) => (fun _ => slack1_any (atI la (k : Int)) (atI lb (k : Int)) (atI m (k : Int)) W (HF.out k hlt)) hW)
      have hcu : wr.cell? ⟨w.heap.size, k, none⟩ = some (.int .i64 0) := by
        rw [HO.out.cellAt k (by omega), I_append, List.getElem?_append_right (by rw [I_len, hml]; exact Nat.le_refl _), I_len, hml, Nat.sub_self]
        have : n - k = (n - (k + 1)) + 1 := by omega
        rw [this]
        rfl
      have hf2 := HO.out.frozenAt k
      have hst := HO.out.stored k (.int .i64 (atI m (k : Int)))
      rw [I_setE, hfl] at hst
      have HO1 := Lib.hid hst.1
      have HB1 := Lib.hid (HBW.out.trans (only_below hst.2 (Nat.le_refl _) HBW.out.size))
      clear hst hcell0 hcell1 hml hfl HO HBW hka hkb hkm
      generalize atI m (k : Int) = r at *
      generalize atI la (k : Int) = x at *
      generalize atI lb (k : Int) = y at *
      go_wp2_with fail
      go_region_with (go_at_call 55; first | (refine (HC.out _ (Below.refl _ _)).mono ?_; rintro e w9 ⟨rfl, rfl⟩) | (refine (HC.out _ (Below.drew (Below.refl _ _))).mono ?_; rintro e w9 ⟨rfl, rfl⟩))
      all_goals
        go_wp2_with fail
        go_roundw
        case rel => exact ⟨k + 1, by omega, by go_num, HO1, Lib.hid (Below.drew HB1.out)⟩
        case measure => simp [intOf]; omega
    · obtain rfl : k = n := by omega
      have ho := HO.out
      rw [List.take_of_length_le (by rw [HM.out]; omega), Nat.sub_self, List.replicate_zero, List.append_nil] at ho
      have HO2 := Lib.hid ho
      clear ho HO
      go_wp2_with fail
      go_ret
      exact ⟨_, rfl, by rw [HM.out]; exact HO2.out, HBW.out⟩

set_option maxRecDepth 20000 in
set_option maxHeartbeats 8000000 in
theorem implLatest_any (ls : List (List Int)) (l ts : List Int) (v u : Value) (w : World) (hst : GraphV w v ls l) (hrow : RowV w u (I ts)) :
    Calls Try.prog 24 #[v, u] w (ListNOk (ifL (timesG ls l ts) (latestL ls l ts)) (ifN (timesG ls l ts) (endT (tailsL ls l ts))) (timesG ls l ts) w) := by
  have HV := Lib.hid hst
  have HR := Lib.hid hrow
  obtain ⟨nv, ov, rfl, h1, h2⟩ := hst
  obtain ⟨an, cn, rfl, hn1, hn2, hat⟩ := h1.lists
  obtain ⟨ao, co, rfl, ho1, ho2, hao⟩ := h2.ints
  obtain ⟨tm, tc, rfl, ht1, ht2, htt⟩ := hrow.ints
  clear h1 h2 hrow
  unfold maxLen at hn2 ho2 ht2
  have HAT := Lib.hid hat
  have HAO := Lib.hid hao
  have HTT := Lib.hid htt
  clear hat hao htt
  obtain ⟨wa, hwa⟩ : ∃ wa, wa = w.alloc (.cells #[.slice an ls.length cn, .slice ao l.length co] 26) := ⟨_, rfl⟩
  have P0 : Hid (Blk2 wa w.heap.size 26 (.slice an ls.length cn) (.slice ao l.length co)) := by rw [hwa]; exact Blk2.new
  have HA : Hid (Below w.heap.size w wa) := by rw [hwa]; exact (Below.refl w.heap.size w).alloc (Nat.le_refl _) _
  have hsa : wa.heap.size = w.heap.size + 1 := by rw [hwa]; simp
  have HSA := Lib.hid hsa
  have hsz : w.heap.size < wa.heap.size := by omega
  have HWA := Lib.hid hwa
  obtain ⟨c0, c1⟩ := P0.out.cells
  have HC := implTails_any ls l ts _ _ wa (HV.out.below HA.out) (HR.out.below HA.out)
  have hmf : ∀ (fn : Fn) (first cap : Array Value) (w : World), (Instr.makeFunc fn first cap).run Try.prog w = .ok (.func fn first cap) w := fun _ _ _ _ => rfl
  clear hwa hsa
  rcases hT : timesG ls l ts with _ | _
  · rw [hT] at HC
    have HCC := Lib.hid HC
    clear HC hT hmf
    go_enter Try.func24, Try.ntmps24
    go_wp2_with fail
    rw [← HWA.out]
    refine HCC.out.mono ?_
    rintro e w1 ⟨v1, rfl, _, hb1⟩
    have HB1 := Lib.hid (bth HA.out hb1 (Nat.le_refl _))
    clear hb1 c0 c1
    go_wp2_with fail
    go_ret3
    exact ⟨_, rfl, none_ownZ _ _ _, HB1.out⟩
  · rw [hT] at HC
    have HCC := Lib.hid HC
    obtain ⟨hG, hTT⟩ := timesG_yes hT
    have HG := Lib.hid hG
    have HTM := Lib.hid hTT
    clear HC hT hG hTT
    go_enter Try.func24, Try.ntmps24
    go_wp2_with fail
    rw [← HWA.out]
    refine HCC.out.mono ?_
    rintro e w1 ⟨v1, rfl, ho1', hb1⟩
    have HB1 := Lib.hid (bth HA.out hb1 (Nat.le_refl _))
    have HO1 := Lib.hid ho1'
    have hpos : 0 < (tailsL ls l ts).length := by rw [tailsL_len]; exact HG.out.low
    have hnon : ∀ x ∈ tailsL ls l ts, 0 ≤ x := fun x hx => by
      obtain ⟨y, hy, e⟩ := mem_at0 hx
      rw [tailsL_len] at hy
      have := (tails_at HG.out.toP HTM.out hy).1
      omega
    have HE := Lib.hid (endOfAll_any (tailsL ls l ts) v1 w1 (RowV.of_own ho1') hpos hnon)
    have hea := end_at HG.out.toP HTM.out
    have HPW : Hid (∀ k : Nat, k < ls.length → IntKind.i64.wrap (IntKind.i64.wrap (endT (tailsL ls l ts) - atI (tailsL ls l ts) (k : Int)) + atI ts (k : Int)) = atI (latestL ls l ts) (k : Int)) := fun k hk => by
      have hkr : 0 ≤ (k : Int) ∧ (k : Int) < (ls.length : Int) := by omega
      have h1 := latest_at HG.out.toP HTM.out hkr
      have h2 := tails_at HG.out.toP HTM.out hkr
      have h3 := HTM.out.at hkr
      rw [h1.1]
      simp only [IntKind.wrap_i64]
      omega
    have HLN := Lib.hid (tailsL_len ls l ts)
    have HLL := Lib.hid (latestL_len ls l ts)
    have h10 := HG.out.high
    obtain ⟨qa, qc, hq⟩ := own_slice ho1'
    subst hq
    obtain ⟨w5, hw5⟩ : ∃ w5, w5 = w1.alloc (.cells #[.int .i64 (endT (tailsL ls l ts))] 3) := ⟨_, rfl⟩
    have HBX : Hid (Blk1 w5 w1.heap.size 3 (.int .i64 (endT (tailsL ls l ts)))) := by rw [hw5]; exact Blk1.new
    have K5 : Hid (Below w1.heap.size w1 w5) := by rw [hw5]; exact (Below.refl w1.heap.size w1).alloc (Nat.le_refl _) _
    have hs5 : w1.heap.size < w5.heap.size := by rw [hw5]; simp
    have HP := Lib.hid (pairLatest_any ls.length (tailsL ls l ts) ts (latestL ls l ts) (endT (tailsL ls l ts)) w1.heap.size _ _ w5 (RowV.of_own (own_below HO1.out K5.out)) (HR.out.below (bth HB1.out K5.out (Nat.le_refl _))) HLN.out HTM.out.len HLL.out (by omega) ⟨HPW.out, HBX.out, hs5⟩)
    have HW5 := Lib.hid hw5
    clear hb1 c0 c1 ho1' hpos hnon hw5
    generalize endT (tailsL ls l ts) = E at *
    generalize (tailsL ls l ts).length = n1 at *
    go_wp2_with fail
    refine HE.out.mono ?_
    rintro e w2 ⟨rfl, rfl⟩
    go_upto_region 5 with fail
    rw [← HW5.out]
    go_wp2_with fail
    refine HP.out.mono ?_
    rintro e w6 ⟨v6, rfl, ho6, hb6⟩
    have hc6 := (HBX.out.below hb6 hs5).cell
    have HO6 := Lib.hid (own_base ho6 (Nat.le_trans HB1.out.size (Nat.le_of_lt hs5)))
    have HB6 := Lib.hid (bth (bth HB1.out K5.out (Nat.le_refl _)) hb6 (Nat.le_refl _))
    clear ho6 hb6
    go_wp2_with fail
    go_region
    all_goals
      go_wp2_with fail
      go_ret3
      exact ⟨_, rfl, own_below HO6.out (Below.drew (Below.refl _ _)), Below.drew HB6.out⟩

set_option maxRecDepth 20000 in
set_option maxHeartbeats 8000000 in
theorem implSlack_any (ls : List (List Int)) (l ts : List Int) (v u : Value) (w : World) (hst : GraphV w v ls l) (hrow : RowV w u (I ts)) :
    Calls Try.prog 22 #[v, u] w (ListOk (ifL (timesG ls l ts) (slackL ls l ts)) (timesG ls l ts) w) := by
  have HV := Lib.hid hst
  have HR := Lib.hid hrow
  obtain ⟨nv, ov, rfl, h1, h2⟩ := hst
  obtain ⟨an, cn, rfl, hn1, hn2, hat⟩ := h1.lists
  obtain ⟨ao, co, rfl, ho1, ho2, hao⟩ := h2.ints
  obtain ⟨tm, tc, rfl, ht1, ht2, htt⟩ := hrow.ints
  clear h1 h2 hrow
  unfold maxLen at hn2 ho2 ht2
  have HAT := Lib.hid hat
  have HAO := Lib.hid hao
  have HTT := Lib.hid htt
  clear hat hao htt
  obtain ⟨wa, hwa⟩ : ∃ wa, wa = w.alloc (.cells #[.slice an ls.length cn, .slice ao l.length co] 26) := ⟨_, rfl⟩
  have P0 : Hid (Blk2 wa w.heap.size 26 (.slice an ls.length cn) (.slice ao l.length co)) := by rw [hwa]; exact Blk2.new
  have HA : Hid (Below w.heap.size w wa) := by rw [hwa]; exact (Below.refl w.heap.size w).alloc (Nat.le_refl _) _
  have hsa : wa.heap.size = w.heap.size + 1 := by rw [hwa]; simp
  have HSA := Lib.hid hsa
  have hsz : w.heap.size < wa.heap.size := by omega
  have HWA := Lib.hid hwa
  obtain ⟨c0, c1⟩ := P0.out.cells
  have HC := implLatest_any ls l ts _ _ wa (HV.out.below HA.out) (HR.out.below HA.out)
  clear hwa hsa
  rcases hT : timesG ls l ts with _ | _
  · rw [hT] at HC
    have HCC := Lib.hid HC
    clear HC hT
    go_enter Try.func22, Try.ntmps22
    go_wp2_with fail
    rw [← HWA.out]
    refine HCC.out.mono ?_
    rintro e w1 ⟨v1, rfl, _, hb1⟩
    have HB1 := Lib.hid (bth HA.out hb1 (Nat.le_refl _))
    clear hb1 c0 c1
    go_wp2_with fail
    go_ret2
    exact ⟨_, rfl, none_ownZ _ _ _, HB1.out⟩
  · rw [hT] at HC
    have HCC := Lib.hid HC
    obtain ⟨hG, hTT⟩ := timesG_yes hT
    have HG := Lib.hid hG
    have HTM := Lib.hid hTT
    clear HC hT hG hTT
    go_enter Try.func22, Try.ntmps22
    go_wp2_with fail
    rw [← HWA.out]
    refine HCC.out.mono ?_
    rintro e w1 ⟨v1, rfl, ho1', hb1⟩
    have HB1 := Lib.hid (bth HA.out hb1 (Nat.le_refl _))
    have HO1 := Lib.hid ho1'
    obtain ⟨d0, d1⟩ := (P0.out.below hb1 hsz).cells
    have hgr := graph_rows (HV.out.below HB1.out)
    have HU := Lib.hid (longestOver_any ls.length l ts ls _ _ _ w1 hgr.2 hgr.1 (HR.out.below HB1.out) (along_needs HG.out.toP) HTM.out rfl HG.out.high)
    have HPW : Hid (∀ k : Nat, k < ls.length → IntKind.i64.wrap (atI (latestL ls l ts) (k : Int) - atI (endsL ls l ts) (k : Int)) = atI (slackL ls l ts) (k : Int)) := fun k hk => by
      have hkr : 0 ≤ (k : Int) ∧ (k : Int) < (ls.length : Int) := by omega
      have h1 := latest_at HG.out.toP HTM.out hkr
      have h2 := ends_at HG.out.toP HTM.out hkr
      have h3 : atI (slackL ls l ts) (k : Int) = atI (latestL ls l ts) (k : Int) - atI (endsL ls l ts) (k : Int) := atI_map hkr
      rw [h3]
      simp only [IntKind.wrap_i64]
      omega
    have HLL := Lib.hid (latestL_len ls l ts)
    have HLS := Lib.hid (slackL_len ls l ts)
    have h10 := HG.out.high
    obtain ⟨qa, qc, hq⟩ := own_slice ho1'
    subst hq
    clear hb1 c0 c1 ho1' hgr
    generalize (latestL ls l ts).length = n1 at *
    go_wp2_with fail
    refine HU.out.mono ?_
    rintro e w2 ⟨v2, rfl, ho2', hb2⟩
    have ho3 : w2.ownsRow w1.heap.size 3 1 v2 (endsL ls l ts).length (I (endsL ls l ts)) := ho2'
    have HP := Lib.hid (pairSlack_any ls.length (latestL ls l ts) (endsL ls l ts) (slackL ls l ts) _ _ w2 (RowV.of_own (own_below HO1.out hb2)) (RowV.of_own ho3) (latestL_len ls l ts) (endsL_len ls l ts) HLS.out (by omega) HPW.out)
    obtain ⟨ra, rc, hr⟩ := own_slice ho3
    subst hr
    have HB2 := Lib.hid (bth HB1.out hb2 (Nat.le_refl _))
    clear ho2' ho3 hb2 d0 d1
    go_wp2_with fail
    refine HP.out.mono ?_
    rintro e w6 ⟨v6, rfl, ho6, hb6⟩
    have HO6 := Lib.hid (own_base ho6 HB2.out.size)
    have HB6 := Lib.hid (bth HB2.out hb6 (Nat.le_refl _))
    clear ho6 hb6
    go_wp2_with fail
    go_ret2
    exact ⟨_, rfl, HO6.out, HB6.out⟩

end Go.Proofs.Ytgolhfmmlanmlaa

/- An append of one, with where the grown row lies. -/
namespace Go.Proofs.Ytgolhfmmlanmlaa
open Go.RowKit Pth

theorem app_atE (m : List Int) (x : Int) (v : Value) (B : Nat) (w : World) (hown : w.ownsRow B 3 1 v m.length (I m)) (hm : m.length ≤ 1000) (hB : B ≤ w.heap.size) (ty : TypeId) :
    ∃ v' w', (Builtin.append_ #[24, 24] ty #[v, .slice (some ⟨w.heap.size, 0, none⟩) 1 1]).run Try.prog (w.alloc (.cells #[.int .i64 x] 3)) = .ok v' w' ∧ w'.ownsRow B 3 1 v' (m ++ [x]).length (I (m ++ [x])) ∧ w.grownBy w' v.ownBlock ∧ (∀ b, v'.ownBlock = some b → v.ownBlock = some b ∨ w.heap.size ≤ b) := by
  obtain ⟨i0, hi, hz0, hz1, hz2⟩ := info_parts elemI.info
  obtain ⟨v', w', h1, h2, h3, _, h5⟩ := run_append_own_at (P := Try.prog) (w.alloc (.cells #[.int .i64 x] 3)) B 24 ty 3 i0 (.int .i64 0) 1 8 elemI.under hi hz0 hz1 hz2 rfl (by decide) v m.length (I m) (hown.alloc _) ⟨w.heap.size, 0, none⟩ 1 1 [.int .i64 x] (by simp) (fun j u hj => by
      have hj0 : j = 0 := by
        rcases j with _ | j
        · rfl
        · simp at hj
      subst hj0
      simp only [List.getElem?_cons_zero, Option.some.injEq] at hj
      subst hj
      have := one_new w (.int .i64 x) 3 0 (.int .i64 x) rfl
      exact this) (by simp [Value.oneCell']) (by unfold maxLen; omega) (by omega) (by rw [World.size_alloc]; omega)
  refine ⟨v', w', h1, ?_, ?_, ?_⟩
  · have e : I (m ++ [x]) = I m ++ [.int .i64 x] := I_append _ _
    rw [e, List.length_append, List.length_singleton]
    exact h2
  · exact ⟨h3.os, h3.tape, h3.output, Nat.le_trans (by rw [World.size_alloc]; omega) h3.size, fun k hk hne => (h3.block k (by rw [World.size_alloc]; omega) hne).trans (Below.heap_alloc _ _ _ hk)⟩
  · intro b hb
    rcases h5 with h5 | h5
    · exact .inl (by rw [← h5]; exact hb)
    · rw [hb, World.size_alloc] at h5
      have := Option.some.inj h5
      exact .inr (by omega)

theorem wpAppAtE {ops : Array Oper} {rest : List Oper} {o : Oper} {a : Act} {Q : Exit → Act → World → Prop} {w : World} {x : Int} (hgd : o.guard = none) (s u : Operand)
    (ho : o.op = .call { callee := .builtin .append, args := #[s, u], argTypes := #[24, 24] }) (B : Nat) (v : Value) (m : List Int) (hs : a.eval s = v) (hown : w.ownsRow B 3 1 v m.length (I m)) (N : Nat) (hx : a.eval u = .slice (some ⟨N, 0, none⟩) 1 1) (hN : N = w.heap.size)
    (hm : m.length ≤ 1000) (hB : B ≤ w.heap.size)
    (h : ∀ v' w', w'.ownsRow B 3 1 v' (m ++ [x]).length (I (m ++ [x])) → w.grownBy w' v.ownBlock → (∀ b, v'.ownBlock = some b → v.ownBlock = some b ∨ w.heap.size ≤ b) → wpList Try.prog ops Q rest (a.put o.dst v') w') :
    wpList Try.prog ops Q (o :: rest) a (w.alloc (.cells #[.int .i64 x] 3)) := by
  subst hN
  obtain ⟨v', w', h1, h2, h3, h4⟩ := app_atE m x v B w hown hm hB o.type
  exact wpList_runApp hgd s u ho hs hx h1 (h v' w' h2 h3 h4)
end Go.Proofs.Ytgolhfmmlanmlaa
