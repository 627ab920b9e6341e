/- Walks: the reference's choices: a byte of the argument, or of a sequence behind its end. -/
import Derived.Test.YtkdplfmfmalllaaDoorQ
namespace Go.Proofs.YtkdplfmfmalllaaDoor
open Go.RowKit Pth

/-- The reader of choices: a block of the call's own, over bytes that lie below B. -/
def Cur (B b : Nat) (A : Option Addr) (n c k : Nat) (w : World) : Prop :=
  B ≤ b ∧ (∃ sd : Int, w.heap[b]? = some (.cells #[.slice A n c, .int .i64 k, .int .u64 sd] 38)) ∧
  ∀ i, i < n → ∃ g o x, A = some ⟨g, o, none⟩ ∧ g < B ∧ w.cell? ⟨g, o + i, none⟩ = some (.int .u8 x) ∧ 0 ≤ x ∧ x ≤ 255

/-- A number from 0 to 255 is handed back; the reader is one further; nothing else has turned. -/
def NextPost (B b : Nat) (A : Option Addr) (n c k : Nat) (lo hi : Int) (w : World) (e : Ending) (w' : World) : Prop :=
  ∃ x : Int, lo ≤ x ∧ x ≤ hi ∧ e = .returned (.int .i64 x) ∧ Cur B b A n c k w' ∧ w.grownBy w' (some b)

theorem low_byte (z : Int) : 0 ≤ wrap64 (bits .and .u64 z 255) ∧ wrap64 (bits .and .u64 z 255) ≤ 255 := by
  have h : bits .and .u64 z 255 = IntKind.u64.wrap ((BitVec.ofInt 64 z &&& BitVec.ofInt 64 255).toNat : Int) := rfl
  have h2 : (BitVec.ofInt 64 z &&& BitVec.ofInt 64 255).toNat ≤ 255 := by rw [BitVec.toNat_and]; exact Nat.le_trans Nat.and_le_right (by decide)
  rw [h]
  generalize (BitVec.ofInt 64 z &&& BitVec.ofInt 64 255).toNat = n at h2
  have e1 : IntKind.u64.wrap (n : Int) = n := by simp [IntKind.wrap, IntKind.bits, IntKind.signed]; omega
  rw [e1]
  unfold wrap64
  omega
theorem cur_step {B b : Nat} {A : Option Addr} {n c k : Nat} {sd sd' : Int} {w : World} (hB : B ≤ b) (hblk : w.heap[b]? = some (.cells #[.slice A n c, .int .i64 k, .int .u64 sd] 38))
    (hat : ∀ i, i < n → ∃ g o x, A = some ⟨g, o, none⟩ ∧ g < B ∧ w.cell? ⟨g, o + i, none⟩ = some (.int .u8 x) ∧ 0 ≤ x ∧ x ≤ 255) (m m' : Nat) :
    Cur B b A n c (k + 1) ((((w.drewN m).setCell ⟨b, 1, none⟩ (.int .i64 ((k : Int) + 1))).setCell ⟨b, 2, none⟩ (.int .u64 sd')).drewN m') := by
  refine ⟨hB, ⟨sd', ?_⟩, fun i hi => ?_⟩
  · have h1 : (w.drewN m).heap[b]? = some (.cells #[.slice A n c, .int .i64 k, .int .u64 sd] 38) := hblk
    exact (block_set (block_set h1)).trans (by simp)
  · obtain ⟨g, o, x, hA, hg, hc, h0, h1⟩ := hat i hi
    refine ⟨g, o, x, hA, hg, ?_, h0, h1⟩
    show (((w.drewN m).setCell ⟨b, 1, none⟩ (.int .i64 ((k : Int) + 1))).setCell ⟨b, 2, none⟩ (.int .u64 sd')).cell? ⟨g, o + i, none⟩ = _
    rw [World.cell?_of_block (Below.heap_setCell _ _ _ _ (by show g ≠ b; omega)), World.cell?_of_block (Below.heap_setCell _ _ _ _ (by show g ≠ b; omega))]
    exact hc
theorem only_step (b : Nat) (w : World) (u u' : Value) (m m' : Nat) :
    w.grownBy ((((w.drewN m).setCell ⟨b, 1, none⟩ u).setCell ⟨b, 2, none⟩ u').drewN m') (some b) := by
  have h0 : w.grownBy (w.drewN m) (some b) := ⟨rfl, rfl, rfl, Nat.le_refl _, fun _ _ _ => rfl⟩
  have h1 := only_row (only_row h0 1 u) 2 u'
  exact ⟨h1.os, h1.tape, h1.output, h1.size, h1.block⟩

set_option maxHeartbeats 1000000 in
theorem next_any (B b : Nat) (A : Option Addr) (n c k : Nat) (w : World) (h : Cur B b A n c k w) (hn : n ≤ 2000000) (hk : k ≤ 2000000) :
    Calls Tryd.prog 58 #[.pointer (some ⟨b, 0, none⟩)] w (NextPost B b A n c (k + 1) 0 255 w) := by
  obtain ⟨hB, ⟨sd, hblk⟩, hat⟩ := h
  have c0 : w.cell? ⟨b, 0, none⟩ = some (.slice A n c) := by rw [Lib.cell_of_heap hblk]; rfl
  have c1 : w.cell? ⟨b, 1, none⟩ = some (.int .i64 k) := by rw [Lib.cell_of_heap hblk]; rfl
  have c2 : w.cell? ⟨b, 2, none⟩ = some (.int .u64 sd) := by rw [Lib.cell_of_heap hblk]; rfl
  have f1 : w.frozen? ⟨b, 1, none⟩ = false := Lib.frozen_of_heap hblk 1
  have f2 : w.frozen? ⟨b, 2, none⟩ = false := Lib.frozen_of_heap hblk 2
  by_cases hlt : k < n
  · obtain ⟨g, o, x, rfl, hg, hx, hx0, hx1⟩ := hat k hlt
    have hi1 : (k : Int) < (n : Int) := by omega
    go_enter Tryd.func58, Tryd.ntmps58
    go_wp2
    go_quiet (fail)
    go_wp2
    go_quiet (fail)
    go_wp2
    generalize IntKind.u64.wrap (IntKind.u64.wrap (IntKind.u64.wrap (sd * 6364136223846793005) + x) + 1442695040888963407) = sd'
    have hi2 : decide ((k : Int) + 1 ≤ (n : Int)) = true := by rw [decide_eq_true_iff]; omega
    go_quiet (fail)
    go_wp2
    go_ret
    exact ⟨x, hx0, hx1, rfl, cur_step hB hblk hat _ _, only_step _ _ _ _ _ _⟩
  · have hi1 : decide ((k : Int) < (n : Int)) = false := by simpa using hlt
    go_enter Tryd.func58, Tryd.ntmps58
    go_wp2
    go_quiet (fail)
    go_wp2
    have hi2 : decide ((k : Int) + 1 ≤ (n : Int)) = false := by rw [decide_eq_false_iff_not]; omega
    go_quiet (fail)
    go_wp2
    go_ret
    exact ⟨_, (low_byte _).1, (low_byte _).2, rfl, cur_step hB hblk hat _ _, only_step _ _ _ _ _ _⟩

end Go.Proofs.YtkdplfmfmalllaaDoor
