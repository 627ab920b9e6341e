/- Texts of one claim, joined in their order. -/
import Derived.Test.YtgcaplbeahjbmaaGreatDoorM6

/- Walks: the laws' marks in stores. -/
namespace Go.Proofs.YtgcaplbeahjbmaaGreatDoor
open Go.RowKit Pth

/-- The store that is marks, from k on. -/
def marksS (k : Nat) (s : StoreT) : StoreT := ⟨marksF k s.files.length, marksF (k + s.files.length * 2) s.staged.length, marksT (k + s.files.length * 2 + s.staged.length * 2) s.gone.length⟩
def sumS (k : Nat) (s : StoreT) : Nat := k + s.files.length * 2 + s.staged.length * 2 + s.gone.length
/-- A block of one of the store's lists. -/
def OwnIn (v : Value) (k : Nat) : Prop := ∃ vf vs vg, v = .agg #[vf, vs, vg] ∧ (vf.ownBlock = some k ∨ vs.ownBlock = some k ∨ vg.ownBlock = some k)
theorem StoreO.lt {B : Nat} {w : World} {v : Value} {s : StoreT} (h : StoreO B w v s) {k : Nat} (hk : OwnIn v k) : B ≤ k ∧ k < w.heap.size := by
  obtain ⟨vf, vs, vg, hv, h1, h2, h3, _⟩ := h
  obtain ⟨vf', vs', vg', hv', hk⟩ := hk
  rw [hv] at hv'
  simp only [Value.agg.injEq, Array.mk.injEq, List.cons.injEq, and_true] at hv'
  obtain ⟨rfl, rfl, rfl⟩ := hv'
  rcases hk with hk | hk | hk
  · exact h1.lt k hk
  · exact h2.lt k hk
  · exact h3.lt k hk
/-- Nothing but the store's own blocks has turned. -/
structure GrownS (w w' : World) (v : Value) : Prop where
  os : w'.os = w.os
  tape : w'.tape = w.tape
  output : w'.output = w.output
  size : w.heap.size ≤ w'.heap.size
  block : ∀ k, k < w.heap.size → ¬ OwnIn v k → w'.heap[k]? = w.heap[k]?
theorem GrownS.below {B : Nat} {w w' : World} {v : Value} {s : StoreT} (h : GrownS w w' v) (ho : StoreO B w v s) (hB : B ≤ w.heap.size) : Below B w w' :=
  ⟨h.os, h.tape, h.output, h.size, fun k hk => h.block k (by omega) (fun hi => by have := (ho.lt hi).1; omega)⟩
theorem own_apart {w w' : World} {B e n z : Nat} {v u : Value} {xs : List Value} (h : w.ownsRow B e z v n xs) (hg : w.grownBy w' u.ownBlock) (hne : ∀ k, u.ownBlock = some k → v.ownBlock ≠ some k) : w'.ownsRow B e z v n xs :=
  h.kept hg (by
    cases hv : v.ownBlock with
    | none => exact .inl rfl
    | some k => exact .inr (fun he => hne k he.symm hv))

def MarkedS (B : Nat) (v : Value) (k : Nat) (s : StoreT) (w : World) (e : Ending) (w' : World) : Prop :=
  e = .returned (.int .i64 (sumS k s : Int)) ∧ StoreO B w' v (marksS k s) ∧ GrownS w w' v

theorem markFileS_l {l : List FileT} {k B : Nat} {i r : Int} {v : Value} {w : World} (hi : (k : Int) = i) (hr : r = (k : Int) + (l.length : Int) * 2) (hown : w.ownsRow B 44 2 v l.length (FC l)) (hl : l.length ≤ 1500000) (hk : k ≤ 4000000) (hk1 : 1 ≤ k) :
    Calls Tryz.prog 28 #[v, .int .i64 i] w fun e w' => e = .returned (.int .i64 r) ∧ w'.ownsRow B 44 2 v l.length (FC (marksF k l.length)) ∧ w.grownBy w' v.ownBlock := by
  subst hi hr
  exact markFileS_any l k B v w hown hl hk hk1
theorem markStringS_l {l : List (List UInt8)} {k B : Nat} {i r : Int} {v : Value} {w : World} (hi : (k : Int) = i) (hr : r = (k : Int) + (l.length : Int)) (hown : w.ownsRow B 9 1 v l.length (S l)) (hl : l.length ≤ 2000000) (hk : k ≤ 4000000) (hk1 : 1 ≤ k) :
    Calls Tryz.prog 29 #[v, .int .i64 i] w fun e w' => e = .returned (.int .i64 r) ∧ w'.ownsRow B 9 1 v l.length (S (marksT k l.length)) ∧ w.grownBy w' v.ownBlock := by
  subst hi hr
  exact markStringS_any l k B v w hown hl hk hk1

set_option maxRecDepth 20000 in
set_option maxHeartbeats 4000000 in
theorem markStore_any (s : StoreT) (k : Nat) (B : Nat) (v : Value) (w : World) (hst : StoreO B w v s) (hl : s.files.length + s.staged.length + s.gone.length ≤ 1200000) (hk : k ≤ 1000) (hk1 : 1 ≤ k) :
    Calls Tryz.prog 10 #[v, .int .i64 (k : Int)] w (MarkedS B v k s w) := by
  obtain ⟨vf, vs, vg, rfl, h1, h2, h3, hd⟩ := hst
  have hb0 := fun o => (Below.refl w.heap.size w).alloc (Nat.le_refl _) o
  obtain ⟨af, cf, hvf⟩ := own_sliceG h1
  obtain ⟨a2, cs, hvs⟩ := own_sliceG h2
  obtain ⟨ag, cg, hvg⟩ := own_sliceG h3
  obtain ⟨wa, hwa⟩ : ∃ wa, wa = w.alloc (.cells #[vf, vs, vg] 29) := ⟨_, rfl⟩
  have hsz : wa.heap.size = w.heap.size + 1 := by rw [hwa]; simp
  have P0 : Blk3 wa w.heap.size 29 vf vs vg := by rw [hwa]; exact Blk3.new
  have HA : Below w.heap.size w wa := by rw [hwa]; exact hb0 _
  have HWA := Lib.hid hwa
  have lf := fun j hj => (h1.lt j hj).2
  have ls := fun j hj => (h2.lt j hj).2
  have lg := fun j hj => (h3.lt j hj).2
  have H1 := own_belowG h1 HA
  have H2 := own_belowG h2 HA
  have H3 := own_belowG h3 HA
  have C1 := markFileS_l (k := k) (i := (k : Int)) (r := ((k + s.files.length * 2 : Nat) : Int)) rfl (by omega) H1 (by omega) (by omega) hk1
  have K1 : Hid (Calls Tryz.prog 28 #[vf, .int .i64 (k : Int)] wa _) := C1
  have D1 := Lib.hid hd
  have D2 := Lib.hid (own_types H1 H3 (by decide))
  have D3 := Lib.hid (own_types H2 H3 (by decide))
  have HH2 := Lib.hid H2
  have HH3 := Lib.hid H3
  have HP0 := Lib.hid P0
  have HHA := Lib.hid HA
  have HLF := Lib.hid lf
  have HLS := Lib.hid ls
  have HLG := Lib.hid lg
  clear hwa hd H1 H2 H3 h1 h2 h3 P0 HA C1 hb0 lf ls lg
  subst hvf hvs hvg
  go_enter Tryz.func10, Tryz.ntmps10
  go_wp2_with fail
  rw [← HWA.out]
  refine K1.out.mono ?_
  rintro e w1 ⟨rfl, hn1, hg1⟩
  have HN1 := Lib.hid hn1
  have HG1 := Lib.hid hg1
  have P1 := Lib.hid (show Blk3 w1 w.heap.size _ _ _ _ from (hg1.block w.heap.size (by omega) (fun h => by have := HLF.out _ h.symm; omega)).trans HP0.out)
  have p1 := P1.out.cells.2.1
  have M2 := Lib.hid (own_apart HH2.out hg1 D1.out)
  have M3 := Lib.hid (own_apart HH3.out hg1 D2.out)
  have hs1 := hg1.size
  clear hn1 hg1
  go_wp2_with fail
  refine (markFileS_l (k := k + s.files.length * 2) (r := ((k + s.files.length * 2 + s.staged.length * 2 : Nat) : Int)) rfl (by omega) M2.out (by omega) (by omega) (by omega)).mono ?_
  rintro e w2 ⟨rfl, hn2, hg2⟩
  have HN2 := Lib.hid hn2
  have HG2 := Lib.hid hg2
  have P2 := Lib.hid (show Blk3 w2 w.heap.size _ _ _ _ from (hg2.block w.heap.size (by omega) (fun h => by have := HLS.out _ h.symm; omega)).trans P1.out)
  have p2 := P2.out.cells.2.2
  have N1 := Lib.hid (own_apart HN1.out hg2 (fun j h h' => D1.out j h' h))
  have N3 := Lib.hid (own_apart M3.out hg2 D3.out)
  have hs2 := hg2.size
  clear hn2 hg2 p1
  go_wp2_with fail
  refine (markStringS_l (k := k + s.files.length * 2 + s.staged.length * 2) (r := ((sumS k s : Nat) : Int)) rfl (by unfold sumS; omega) N3.out (by omega) (by omega) (by omega)).mono ?_
  rintro e w3 ⟨rfl, hn3, hg3⟩
  have HN3 := Lib.hid hn3
  have HG3 := Lib.hid hg3
  have hs3 := hg3.size
  have Q1 := Lib.hid (own_apart N1.out hg3 (fun j h h' => D2.out j h' h))
  have Q2 := Lib.hid (own_apart HN2.out hg3 (fun j h h' => D3.out j h' h))
  clear hn3 hg3 p2
  go_wp2_with fail
  go_ret
  refine ⟨rfl, ⟨_, _, _, rfl, by simpa [marksS, marksF_len] using Q1.out, by simpa [marksS, marksF_len] using Q2.out, by simpa [marksS, marksT_len] using HN3.out, D1.out⟩, ?_⟩
  refine ⟨HG3.out.os.trans (HG2.out.os.trans (HG1.out.os.trans HHA.out.os)), HG3.out.tape.trans (HG2.out.tape.trans (HG1.out.tape.trans HHA.out.tape)), HG3.out.output.trans (HG2.out.output.trans (HG1.out.output.trans HHA.out.output)), by omega, fun j hj hno => ?_⟩
  have n1 : some j ≠ (Value.slice af s.files.length cf).ownBlock := fun h => hno ⟨_, _, _, rfl, .inl h.symm⟩
  have n2 : some j ≠ (Value.slice a2 s.staged.length cs).ownBlock := fun h => hno ⟨_, _, _, rfl, .inr (.inl h.symm)⟩
  have n3 : some j ≠ (Value.slice ag s.gone.length cg).ownBlock := fun h => hno ⟨_, _, _, rfl, .inr (.inr h.symm)⟩
  rw [HG3.out.block j (by omega) n3, HG2.out.block j (by omega) n2, HG1.out.block j (by omega) n1, HHA.out.block j hj]

end Go.Proofs.YtgcaplbeahjbmaaGreatDoor

/- Walks: whether the laws' marks are held in stores. -/
namespace Go.Proofs.YtgcaplbeahjbmaaGreatDoor
open Go.RowKit Pth

theorem heldFileS_l {k n : Nat} {i r : Int} {v : Value} {w : World} (hi : (k : Int) = i) (hr : r = (k : Int) + (n : Int) * 2) (hrow : RowF w v (marksF k n)) (hn : n ≤ 1500000) (hk : k ≤ 4000000) (hk1 : 1 ≤ k) :
    Calls Tryz.prog 30 #[v, .int .i64 i] w fun e w' => e = .returned (.int .i64 r) ∧ Below w.heap.size w w' := by
  subst hi hr
  exact heldFileS_any k n v w hrow hn hk hk1
theorem heldStringS_l {k n : Nat} {i r : Int} {v : Value} {w : World} (hi : (k : Int) = i) (hr : r = (k : Int) + (n : Int)) (hrow : RowV w v (S (marksT k n))) (hn : n ≤ 2000000) (hk : k ≤ 4000000) (hk1 : 1 ≤ k) :
    Calls Tryz.prog 31 #[v, .int .i64 i] w fun e w' => e = .returned (.int .i64 r) ∧ Below w.heap.size w w' := by
  subst hi hr
  exact heldStringS_any k n v w hrow hn hk hk1

set_option maxRecDepth 20000 in
set_option maxHeartbeats 4000000 in
theorem heldStore_any (s : StoreT) (k : Nat) (v : Value) (w : World) (hst : StoreV w v (marksS k s)) (hl : s.files.length + s.staged.length + s.gone.length ≤ 1200000) (hk : k ≤ 1000) (hk1 : 1 ≤ k) :
    Calls Tryz.prog 11 #[v, .int .i64 (k : Int)] w fun e w' => e = .returned (.int .i64 (sumS k s : Int)) ∧ Below w.heap.size w w' := by
  obtain ⟨vf, vs, vg, rfl, h1, h2, h3⟩ := hst
  have H1 := Lib.hid h1
  have H2 := Lib.hid h2
  have H3 := Lib.hid h3
  obtain ⟨af, cf, hvf, _⟩ := h1.files
  obtain ⟨a2, cs, hvs, _⟩ := h2.files
  obtain ⟨ag, cg, hvg, _⟩ := h3.texts
  obtain ⟨nf, hnf⟩ : ∃ n, n = (marksS k s).files.length := ⟨_, rfl⟩
  obtain ⟨ns, hns⟩ : ∃ n, n = (marksS k s).staged.length := ⟨_, rfl⟩
  obtain ⟨ng, hng⟩ : ∃ n, n = (marksS k s).gone.length := ⟨_, rfl⟩
  rw [← hnf] at hvf
  rw [← hns] at hvs
  rw [← hng] at hvg
  clear h1 h2 h3 hnf hns hng
  subst hvf hvs hvg
  obtain ⟨wa, hwa⟩ : ∃ wa, wa = w.alloc (.cells #[.slice af nf cf, .slice a2 ns cs, .slice ag ng cg] 29) := ⟨_, rfl⟩
  have hsz : wa.heap.size = w.heap.size + 1 := by rw [hwa]; simp
  have P0 : Hid (Blk3 wa w.heap.size 29 (.slice af nf cf) (.slice a2 ns cs) (.slice ag ng cg)) := by rw [hwa]; exact Blk3.new
  have HA : Hid (Below w.heap.size w wa) := by rw [hwa]; exact (Below.refl w.heap.size w).alloc (Nat.le_refl _) _
  have HWA := Lib.hid hwa
  clear hwa
  have t1 : decide (((k + s.files.length * 2 : Nat) : Int) < 0) = false := decide_eq_false (by omega)
  have t2 : decide (((k + s.files.length * 2 + s.staged.length * 2 : Nat) : Int) < 0) = false := decide_eq_false (by omega)
  have t3 : decide (((sumS k s : Nat) : Int) < 0) = false := decide_eq_false (by omega)
  have C1 := Lib.hid (heldFileS_l (k := k) (n := s.files.length) (i := (k : Int)) (r := ((k + s.files.length * 2 : Nat) : Int)) rfl (by omega) (H1.out.below HA.out) (by omega) (by omega) hk1)
  have C2 := Lib.hid (fun W (hr : RowF W (.slice a2 ns cs) (marksF (k + s.files.length * 2) s.staged.length)) => heldFileS_l (r := ((k + s.files.length * 2 + s.staged.length * 2 : Nat) : Int)) rfl (by omega) hr (by omega) (by omega) (by omega))
  have C3 := Lib.hid (fun W (hr : RowV W (.slice ag ng cg) (S (marksT (k + s.files.length * 2 + s.staged.length * 2) s.gone.length))) => heldStringS_l (r := ((sumS k s : Nat) : Int)) rfl (by unfold sumS; omega) hr (by omega) (by omega) (by omega))
  generalize sumS k s = m3 at t3 C3 ⊢
  generalize hm2 : k + s.files.length * 2 + s.staged.length * 2 = m2 at t2 C2 C3
  generalize hm1 : k + s.files.length * 2 = m1 at t1 C1 C2
  have H2' : Hid (RowF w (.slice a2 ns cs) (marksF m1 s.staged.length)) := by rw [← hm1]; exact H2.out
  have H3' : Hid (RowV w (.slice ag ng cg) (S (marksT m2 s.gone.length))) := by rw [← hm2]; exact H3.out
  clear H1 H2 H3 hm1 hm2
  go_enter Tryz.func11, Tryz.ntmps11
  go_wp2_with fail
  rw [← HWA.out]
  refine C1.out.mono ?_
  rintro e w1 ⟨rfl, hb1⟩
  have HB1 := Lib.hid hb1
  have p1 := (P0.out.below hb1 (by omega)).cells.2.1
  clear hb1
  go_wp2_with fail
  refine (C2.out w1 (H2'.out.below (HA.out.trans (HB1.out.mono HA.out.size)))).mono ?_
  rintro e w2 ⟨rfl, hb2⟩
  have HB2 := Lib.hid (HB1.out.trans (hb2.mono HB1.out.size))
  have p2 := (P0.out.below HB2.out (by omega)).cells.2.2
  clear hb2 p1
  go_wp2_with fail
  refine (C3.out w2 (H3'.out.below (HA.out.trans (HB2.out.mono HA.out.size)))).mono ?_
  rintro e w3 ⟨rfl, hb3⟩
  have HB3 := Lib.hid (HB2.out.trans (hb3.mono HB2.out.size))
  clear hb3 p2
  go_wp2_with fail
  go_ret
  exact ⟨rfl, HA.out.trans (HB3.out.mono HA.out.size)⟩

end Go.Proofs.YtgcaplbeahjbmaaGreatDoor

/- Walks: the laws that stores are told alike, and own their memory, given contracts of both programs. -/
namespace Go.Proofs.YtgcaplbeahjbmaaGreatDoor
open Go.RowKit Pth

/-- A store whose blocks are not those that turned. -/
theorem StoreO.grownS {B : Nat} {w w' : World} {v u : Value} {s : StoreT} (h : StoreO B w v s) (hg : GrownS w w' u) (hne : ∀ k, OwnIn u k → k < B) : StoreO B w' v s := by
  obtain ⟨vf, vs, vg, hv, h1, h2, h3, h4⟩ := h
  have one : ∀ {e z n : Nat} {x : Value} {xs : List Value}, w.ownsRow B e z x n xs → w'.ownsRow B e z x n xs := by
    intro e z n x xs h
    refine ⟨h.1, ?_⟩
    rcases h.2 with h0 | ⟨g, cap, cur, hv, hB, hh, r⟩
    · exact .inl h0
    · exact .inr ⟨g, cap, cur, hv, hB, (hg.block g (lt_of_block hh) (fun hi => by have := hne g hi; omega)).trans hh, r⟩
  exact ⟨vf, vs, vg, hv, one h1, one h2, one h3, h4⟩

end Go.Proofs.YtgcaplbeahjbmaaGreatDoor

/- Walks: what a good store tells (the reference). -/
namespace Go.Proofs.YtgcaplbeahjbmaaGreatDoor
open Go.RowKit Pth

/-- A list of the call's own, or an empty one with no room. -/
def RowL (B e z : Nat) (w : World) (v : Value) (n : Nat) (xs : List Value) : Prop := (n = 0 ∧ xs = [] ∧ ∃ g, v = .slice (some ⟨g, 0, none⟩) 0 0) ∨ w.ownsRow B e z v n xs
theorem RowL.old {B e z : Nat} {w : World} {v : Value} {n : Nat} {xs : List Value} (h : RowL B e z w v n xs) (o : Obj) : RowL B e z (w.alloc o) v n xs := h.imp id (fun h => h.alloc o)
theorem RowL.below {B e z : Nat} {w w' : World} {v : Value} {n : Nat} {xs : List Value} (h : RowL B e z w v n xs) (hb : Below w.heap.size w w') : RowL B e z w' v n xs := h.imp id (fun h => own_belowG h hb)
theorem RowL.set {B e z : Nat} {w : World} {v : Value} {n : Nat} {xs : List Value} (h : RowL B e z w v n xs) {p : Addr} (hp : p.block < B) (u : Value) : RowL B e z (w.setCell p u) v n xs := h.imp id (fun h => own_set h hp u)
theorem RowL.of_told {B e z g : Nat} {w w' : World} {v : Value} {n : Nat} {xs : List Value} (h : LitTold e z w g n xs v w') (hB : B ≤ w.heap.size) (hx : xs.length = n * z) : RowL B e z w' v n xs := by
  rcases h with ⟨h1, h2, h3⟩ | ⟨h1, h2⟩
  · exact .inl ⟨h1, List.eq_nil_of_length_eq_zero (by rw [hx, h1, Nat.zero_mul]), g, h2⟩
  · exact .inr (own_baseG h2 hB)
theorem RowL.base {B B' e z : Nat} {w : World} {v : Value} {n : Nat} {xs : List Value} (h : RowL B e z w v n xs) (hB : B' ≤ B) : RowL B' e z w v n xs := h.imp id (fun h => own_baseG h hB)
theorem RowL.row {B e z : Nat} {w : World} {v : Value} {n : Nat} {xs : List Value} (h : RowL B e z w v n xs) : RowG z w v n xs := by
  rcases h with ⟨h1, h2, g, h3⟩ | h
  · subst h1 h2
    exact ⟨_, _, h3, by simp, Nat.le_refl _, by unfold maxLen; omega, fun k hk => by simp at hk⟩
  · exact RowG.of_own h
theorem told_slice {e z g : Nat} {w w' : World} {v : Value} {n : Nat} {xs : List Value} (h : LitTold e z w g n xs v w') : ∃ a c, v = .slice a n c := by
  rcases h with ⟨h1, h2, _⟩ | ⟨_, h2⟩
  · exact ⟨_, 0, by rw [h2, h1]⟩
  · exact own_sliceG h2
theorem elemSG : ElemG 23 9 (.string ByteArray.empty) 1 16 := ⟨Tryz.underlying23, by kernel_rfl, rfl, by decide, by decide⟩
theorem RowG.of_texts {w : World} {v : Value} {l : List (List UInt8)} (h : RowV w v (S l)) : RowG 1 w v l.length (S l) := by
  obtain ⟨a, c, hv, h1, h2, hat⟩ := h
  rw [S_len] at hv h1
  exact ⟨a, c, hv, by rw [S_len, Nat.mul_one], h1, h2, hat⟩
theorem RowV.of_rowG {w : World} {v : Value} {l : List (List UInt8)} (h : RowG 1 w v l.length (S l)) : RowV w v (S l) := by
  obtain ⟨a, c, hv, h0, h1, h2, hat⟩ := h
  exact ⟨a, c, by rw [S_len]; exact hv, by rw [S_len]; exact h1, h2, hat⟩
/-- A store whose lists are the call's own, or empty with no room; no two of them share a block. -/
def StoreL (B : Nat) (w : World) (v : Value) (s : StoreT) : Prop := ∃ vf vs vg, v = .agg #[vf, vs, vg] ∧ RowL B 44 2 w vf s.files.length (FC s.files) ∧ RowL B 44 2 w vs s.staged.length (FC s.staged) ∧ RowL B 9 1 w vg s.gone.length (S s.gone)
theorem StoreL.view {B : Nat} {w : World} {v : Value} {s : StoreT} (h : StoreL B w v s) : StoreV w v s := by
  obtain ⟨vf, vs, vg, hv, h1, h2, h3⟩ := h
  exact ⟨vf, vs, vg, hv, h1.row, h2.row, RowV.of_rowG h3.row⟩
theorem StoreL.below {B : Nat} {w w' : World} {v : Value} {s : StoreT} (h : StoreL B w v s) (hb : Below w.heap.size w w') : StoreL B w' v s := by
  obtain ⟨vf, vs, vg, hv, h1, h2, h3⟩ := h
  exact ⟨vf, vs, vg, hv, h1.below hb, h2.below hb, h3.below hb⟩
theorem StoreL.base {B B' : Nat} {w : World} {v : Value} {s : StoreT} (h : StoreL B w v s) (hB : B' ≤ B) : StoreL B' w v s := by
  obtain ⟨vf, vs, vg, hv, h1, h2, h3⟩ := h
  exact ⟨vf, vs, vg, hv, h1.base hB, h2.base hB, h3.base hB⟩
theorem StoreL.of_own {B : Nat} {w : World} {v : Value} {s : StoreT} (h : StoreO B w v s) : StoreL B w v s := by
  obtain ⟨vf, vs, vg, hv, h1, h2, h3, _⟩ := h
  exact ⟨vf, vs, vg, hv, .inr h1, .inr h2, .inr h3⟩
/-- A store and a bool are handed back. -/
def StoreLOk (t : StoreT) (ok : Bool) (w : World) (e : Ending) (w' : World) : Prop := ∃ v, e = .returned (.tuple #[v, .bool ok]) ∧ StoreL w.heap.size w' v t ∧ Below w.heap.size w w'
/-- Two lists that no store into one of them makes the other another. -/
def ApartV (vf vs : Value) : Prop := (∃ g, vf = .slice (some ⟨g, 0, none⟩) 0 0) ∨ (∃ g, vs = .slice (some ⟨g, 0, none⟩) 0 0) ∨ ∀ k, vf.ownBlock = some k → vs.ownBlock ≠ some k
def ApartL (v : Value) : Prop := ∃ vf vs vg, v = .agg #[vf, vs, vg] ∧ ApartV vf vs
theorem ApartL.of {x y z : Value} (h : ApartV x y) : ApartL (.agg #[x, y, z]) := ⟨x, y, z, rfl, h⟩
theorem ApartV.none {y : Value} : ApartV (.slice none 0 0) y := .inr (.inr (fun k h => by simp [Value.ownBlock] at h))
def StoreLA (t : StoreT) (ok : Bool) (w : World) (e : Ending) (w' : World) : Prop := ∃ v, e = .returned (.tuple #[v, .bool ok]) ∧ StoreL w.heap.size w' v t ∧ Below w.heap.size w w' ∧ ApartL v
theorem StoreLA.ok {t : StoreT} {ok : Bool} {w w' : World} {e : Ending} (h : StoreLA t ok w e w') : StoreLOk t ok w e w' := by
  obtain ⟨v, h1, h2, h3, _⟩ := h
  exact ⟨v, h1, h2, h3⟩
theorem apart_told {B e z e' z' g m n : Nat} {w w' : World} {vf vs : Value} {xs ys : List Value} (ht : LitTold e' z' w g m ys vs w') (h : RowL B e z w vf n xs) : ApartV vf vs := by
  rcases h with ⟨_, _, h⟩ | h
  · exact .inl h
  · rcases ht with ⟨_, h', _⟩ | ⟨_, h'⟩
    · exact .inr (.inl ⟨g, h'⟩)
    · exact .inr (.inr (own_later h h' (Nat.le_refl _)))

/-- What holds all through the region: the parameter's cells and lists, the result's block, all that lay there. -/
structure TellT (w : World) (N : Nat) (s : StoreT) (x y z : Value) (W : World) : Prop where
  c0 : W.cell? ⟨w.heap.size, 0, none⟩ = some x
  c1 : W.cell? ⟨w.heap.size, 1, none⟩ = some y
  c2 : W.cell? ⟨w.heap.size, 2, none⟩ = some z
  f : RowF W x s.files
  g : RowF W y s.staged
  n : RowV W z (S s.gone)
  r : Blk3 W (w.heap.size + 1) 29 (.slice none 0 0) (.slice none 0 0) (.slice none 0 0)
  b : Below w.heap.size w W
  s : N ≤ W.heap.size
theorem TellT.below {w : World} {N : Nat} {s : StoreT} {x y z : Value} {W W' : World} (h : TellT w N s x y z W) (hb : Below W.heap.size W W') : TellT w N s x y z W' :=
  ⟨(hb.cell (p := ⟨w.heap.size, 0, none⟩) (World.block_lt_of_cell? _ _ h.c0)).trans h.c0, (hb.cell (p := ⟨w.heap.size, 1, none⟩) (World.block_lt_of_cell? _ _ h.c1)).trans h.c1, (hb.cell (p := ⟨w.heap.size, 2, none⟩) (World.block_lt_of_cell? _ _ h.c2)).trans h.c2,
    h.f.below hb, h.g.below hb, h.n.below hb, h.r.below hb (lt_of_block h.r), h.b.trans (hb.mono h.b.size), Nat.le_trans h.s hb.size⟩
theorem TellT.old {w : World} {N : Nat} {s : StoreT} {x y z : Value} {W : World} (h : TellT w N s x y z W) (o : Obj) : TellT w N s x y z (W.alloc o) := h.below ((Below.refl _ W).alloc (Nat.le_refl _) o)
theorem TellT.k {w : World} {N : Nat} {s : StoreT} {x y z : Value} {W : World} (h : TellT w N s x y z W) : W.cell? ⟨w.heap.size, 0, none⟩ = some x ∧ W.cell? ⟨w.heap.size, 1, none⟩ = some y ∧ W.cell? ⟨w.heap.size, 2, none⟩ = some z := ⟨h.c0, h.c1, h.c2⟩

theorem set_other (W : World) {b j i : Nat} (u : Value) : (W.setCell ⟨b + 1, j, none⟩ u).cell? ⟨b, i, none⟩ = W.cell? ⟨b, i, none⟩ :=
  World.cell?_of_block (w := W) (a := ⟨b, i, none⟩) (Below.heap_setCell W _ u b (by show b ≠ b + 1; omega))
theorem TellT.kset {w : World} {N : Nat} {s : StoreT} {x y z : Value} {W : World} (h : TellT w N s x y z W) (u0 u1 u2 : Value) :
    (((W.setCell ⟨w.heap.size + 1, 0, none⟩ u0).setCell ⟨w.heap.size + 1, 1, none⟩ u1).setCell ⟨w.heap.size + 1, 2, none⟩ u2).cell? ⟨w.heap.size, 0, none⟩ = some x ∧
    (((W.setCell ⟨w.heap.size + 1, 0, none⟩ u0).setCell ⟨w.heap.size + 1, 1, none⟩ u1).setCell ⟨w.heap.size + 1, 2, none⟩ u2).cell? ⟨w.heap.size, 1, none⟩ = some y ∧
    (((W.setCell ⟨w.heap.size + 1, 0, none⟩ u0).setCell ⟨w.heap.size + 1, 1, none⟩ u1).setCell ⟨w.heap.size + 1, 2, none⟩ u2).cell? ⟨w.heap.size, 2, none⟩ = some z := by
  rw [set_other, set_other, set_other, set_other, set_other, set_other, set_other, set_other, set_other]
  exact h.k

set_option maxRecDepth 20000 in
set_option maxHeartbeats 40000000 in
theorem l3Tell_goodA (s : StoreT) (v : Value) (w : World) (hst : StoreV w v s) (hx : Fits s) (hg : goodS s = true) :
    Calls Tryz.prog 17 #[v] w (StoreLA s true w) := by
  have HST := Lib.hid hst
  obtain ⟨vf, vs, vg, rfl, h1, h2, h3⟩ := hst
  have H1 := Lib.hid h1
  have H2 := Lib.hid h2
  have H3 := Lib.hid h3
  obtain ⟨af, cf, rfl, _⟩ := h1.files
  obtain ⟨a2, cs, rfl, _⟩ := h2.files
  obtain ⟨ag, cg, rfl, _⟩ := h3.texts
  have HG := Lib.hid (fun W hr => specGoodStore_any s (.agg #[.slice af s.files.length cf, .slice a2 s.staged.length cs, .slice ag s.gone.length cg]) W hr hx)
  rw [hg] at HG
  obtain ⟨l1, l2, l3⟩ := good_sizes hg
  clear hx h1 h2 h3 hg
  obtain ⟨wa, hwa⟩ : ∃ wa, wa = (w.alloc (.cells #[.slice af s.files.length cf, .slice a2 s.staged.length cs, .slice ag s.gone.length cg] 29)).alloc (.cells #[.slice none 0 0, .slice none 0 0, .slice none 0 0] 29) := ⟨_, rfl⟩
  have hsz : wa.heap.size = w.heap.size + 2 := by rw [hwa]; simp
  have P0 : Hid (Blk3 wa w.heap.size 29 (.slice af s.files.length cf) (.slice a2 s.staged.length cs) (.slice ag s.gone.length cg)) := by rw [hwa]; exact Blk3.new.old _
  have R0 : Hid (Blk3 wa (w.heap.size + 1) 29 (.slice none 0 0) (.slice none 0 0) (.slice none 0 0)) := by
    rw [hwa]
    have := Blk3.new (w := w.alloc (.cells #[.slice af s.files.length cf, .slice a2 s.staged.length cs, .slice ag s.gone.length cg] 29)) (t := 29) (x := .slice none 0 0) (y := .slice none 0 0) (z := .slice none 0 0)
    simpa [Hid] using this
  have HA : Hid (Below w.heap.size w wa) := by rw [hwa]; exact ((Below.refl w.heap.size w).alloc (Nat.le_refl _) _).alloc (by simp) _
  have HWA := Lib.hid hwa
  clear hwa
  go_enter Tryz.func17, Tryz.ntmps17
  go_wp2_with fail
  rw [← HWA.out]
  refine (HG.out wa (HST.out.below HA.out)).mono ?_
  rintro e w1 ⟨rfl, hb1⟩
  have hs1 : w.heap.size + 2 ≤ w1.heap.size := by have := hb1.size; omega
  have hP1 := (P0.out.below hb1 (by omega)).cells
  have hb2 : Below w.heap.size w w1.drew := Below.drew (HA.out.trans (hb1.mono HA.out.size))
  have hR1 := R0.out.below hb1 (by omega)
  have T0 : Hid (TellT w (w.heap.size + 2) s (.slice af s.files.length cf) (.slice a2 s.staged.length cs) (.slice ag s.gone.length cg) w1.drew) := ⟨hP1.1, hP1.2.1, hP1.2.2, H1.out.below hb2, H2.out.below hb2, H3.out.below hb2, hR1, hb2, hs1⟩
  clear hb1 hP1 hb2 hR1 HG P0 R0 HA HWA H1 H2 H3 HST hsz
  go_wp2_with fail
  go_region_held3 (fun W => W.cell? ⟨w.heap.size, 0, none⟩ = some (.slice af s.files.length cf) ∧ W.cell? ⟨w.heap.size, 1, none⟩ = some (.slice a2 s.staged.length cs) ∧ W.cell? ⟨w.heap.size, 2, none⟩ = some (.slice ag s.gone.length cg))
    (first | exact T0.out.k | (rw [set_other, set_other, set_other, set_other, set_other, set_other, set_other, set_other, set_other]; exact T0.out.k) | exact (T0.out.old _).k | exact ((T0.out.old _).old _).k | exact (((T0.out.old _).old _).old _).k)
    (first
      | (refine step_lit elemF rfl _ _ rfl _ s.files.length (FC s.files) (.slice af s.files.length cf) rfl rfl (TellT.f (by first | exact T0.out | exact T0.out.old _ | exact (T0.out.old _).old _ | exact ((T0.out.old _).old _).old _)) (by omega) ?_
         intro v3 w3 hb3 ht3
         have T1 := Lib.hid (TellT.below (x := .slice af s.files.length cf) (y := .slice a2 s.staged.length cs) (z := .slice ag s.gone.length cg) (N := w.heap.size + 2) (s := s) (w := w) (by first | exact T0.out | exact T0.out.old _ | exact (T0.out.old _).old _ | exact ((T0.out.old _).old _).old _) hb3)
         have L3 := Lib.hid (RowL.of_told (B := w.heap.size + 2) ht3 (TellT.s (w := w) (s := s) (x := .slice af s.files.length cf) (y := .slice a2 s.staged.length cs) (z := .slice ag s.gone.length cg) (by first | exact T0.out | exact T0.out.old _ | exact (T0.out.old _).old _ | exact ((T0.out.old _).old _).old _)) (FC_len _))
         obtain ⟨a3, c3, hv3⟩ := told_slice ht3
         subst hv3
         clear T0
         have T0 := T1
         clear T1 hb3 ht3)
      | (refine step_lit elemF rfl _ _ rfl _ s.staged.length (FC s.staged) (.slice a2 s.staged.length cs) rfl rfl (TellT.g (by first | exact T0.out | exact T0.out.old _ | exact (T0.out.old _).old _ | exact ((T0.out.old _).old _).old _)) (by omega) ?_
         intro v7 w7 hb7 ht7
         have T1 := Lib.hid (TellT.below (x := .slice af s.files.length cf) (y := .slice a2 s.staged.length cs) (z := .slice ag s.gone.length cg) (N := w.heap.size + 2) (s := s) (w := w) (by first | exact T0.out | exact T0.out.old _ | exact (T0.out.old _).old _ | exact ((T0.out.old _).old _).old _) hb7)
         have L7 := Lib.hid (RowL.of_told (B := w.heap.size + 2) ht7 (TellT.s (w := w) (s := s) (x := .slice af s.files.length cf) (y := .slice a2 s.staged.length cs) (z := .slice ag s.gone.length cg) (by first | exact T0.out | exact T0.out.old _ | exact (T0.out.old _).old _ | exact ((T0.out.old _).old _).old _)) (FC_len _))
         have AP := Lib.hid (apart_told ht7 (by first | exact L3.out | exact L3.out.old _ | exact (L3.out.old _).old _ | exact ((L3.out.old _).old _).old _))
         have M3 := Lib.hid (RowL.below (by first | exact L3.out | exact L3.out.old _ | exact (L3.out.old _).old _ | exact ((L3.out.old _).old _).old _) hb7)
         obtain ⟨a7, c7, hv7⟩ := told_slice ht7
         subst hv7
         clear T0
         have T0 := T1
         clear T1 L3 hb7 ht7)
      | (refine step_lit elemSG rfl _ _ rfl _ s.gone.length (S s.gone) (.slice ag s.gone.length cg) rfl rfl (RowG.of_texts (TellT.n (by first | exact T0.out | exact T0.out.old _ | exact (T0.out.old _).old _ | exact ((T0.out.old _).old _).old _))) (by omega) ?_
         intro v11 w11 hb11 ht11
         have T1 := Lib.hid (TellT.below (x := .slice af s.files.length cf) (y := .slice a2 s.staged.length cs) (z := .slice ag s.gone.length cg) (N := w.heap.size + 2) (s := s) (w := w) (by first | exact T0.out | exact T0.out.old _ | exact (T0.out.old _).old _ | exact ((T0.out.old _).old _).old _) hb11)
         have L11 := Lib.hid (RowL.of_told (B := w.heap.size + 2) ht11 (TellT.s (w := w) (s := s) (x := .slice af s.files.length cf) (y := .slice a2 s.staged.length cs) (z := .slice ag s.gone.length cg) (by first | exact T0.out | exact T0.out.old _ | exact (T0.out.old _).old _ | exact ((T0.out.old _).old _).old _)) (by rw [S_len, Nat.mul_one]))
         have N3 := Lib.hid (RowL.below (by first | exact M3.out | exact M3.out.old _ | exact (M3.out.old _).old _ | exact ((M3.out.old _).old _).old _) hb11)
         have N7 := Lib.hid (RowL.below (by first | exact L7.out | exact L7.out.old _ | exact (L7.out.old _).old _ | exact ((L7.out.old _).old _).old _) hb11)
         obtain ⟨a11, c11, hv11⟩ := told_slice ht11
         subst hv11
         clear T0
         have T0 := T1
         obtain ⟨k0, k1, k2⟩ := T0.out.r.cells
         have z0 := T0.out.r.soft 0
         have z1 := T0.out.r.soft 1
         have z2 := T0.out.r.soft 2
         clear T1 L7 M3 hb11 ht11))
  all_goals
    go_wp2_with fail
    have Z := ((T0.out.r.set0 (.slice a3 s.files.length c3)).set1 (.slice a7 s.staged.length c7)).set2 (.slice a11 s.gone.length c11)
    refine bodyPost_ret (results_cell2 rfl rfl (load_store Z.cells.1 Z.cells.2.1 Z.cells.2.2)) rfl ?_
    have q1 : w.heap.size + 1 < w.heap.size + 2 := by omega
    refine ⟨_, rfl, ⟨_, _, _, rfl, (((N3.out.set (p := ⟨w.heap.size + 1, 0, none⟩) q1 _).set (p := ⟨w.heap.size + 1, 1, none⟩) q1 _).set (p := ⟨w.heap.size + 1, 2, none⟩) q1 _).base (by omega), (((N7.out.set (p := ⟨w.heap.size + 1, 0, none⟩) q1 _).set (p := ⟨w.heap.size + 1, 1, none⟩) q1 _).set (p := ⟨w.heap.size + 1, 2, none⟩) q1 _).base (by omega), (((L11.out.set (p := ⟨w.heap.size + 1, 0, none⟩) q1 _).set (p := ⟨w.heap.size + 1, 1, none⟩) q1 _).set (p := ⟨w.heap.size + 1, 2, none⟩) q1 _).base (by omega)⟩, ?_, ApartL.of AP.out⟩
    exact ((T0.out.b.setCell (p := ⟨w.heap.size + 1, 0, none⟩) (Nat.le_succ _) _).setCell (p := ⟨w.heap.size + 1, 1, none⟩) (Nat.le_succ _) _).setCell (p := ⟨w.heap.size + 1, 2, none⟩) (Nat.le_succ _) _
theorem l3Tell_good (s : StoreT) (v : Value) (w : World) (hst : StoreV w v s) (hx : Fits s) (hg : goodS s = true) : Calls Tryz.prog 17 #[v] w (StoreLOk s true w) :=
  (l3Tell_goodA s v w hst hx hg).mono fun _ _ h => h.ok

end Go.Proofs.YtgcaplbeahjbmaaGreatDoor

/- Walks: what is staged, and what is discarded (the reference). -/
namespace Go.Proofs.YtgcaplbeahjbmaaGreatDoor
open Go.RowKit Pth

theorem StoreL.slices {B : Nat} {w : World} {v : Value} {s : StoreT} (h : StoreL B w v s) : ∃ a c b d e f, v = .agg #[.slice a s.files.length c, .slice b s.staged.length d, .slice e s.gone.length f] := by
  obtain ⟨vf, vs, vg, rfl, h1, h2, h3⟩ := h
  obtain ⟨a, c, rfl, _⟩ := h1.row
  obtain ⟨b, d, rfl, _⟩ := h2.row
  obtain ⟨e, f, rfl, _⟩ := h3.row
  exact ⟨a, c, b, d, e, f, rfl⟩
theorem StoreL.set {B : Nat} {w : World} {v : Value} {s : StoreT} (h : StoreL B w v s) {p : Addr} (hp : p.block < B) (u : Value) : StoreL B (w.setCell p u) v s := by
  obtain ⟨vf, vs, vg, hv, h1, h2, h3⟩ := h
  exact ⟨vf, vs, vg, hv, h1.set hp u, h2.set hp u, h3.set hp u⟩
theorem noStore_L (B : Nat) (w : World) : StoreL B w (.agg #[.slice none 0 0, .slice none 0 0, .slice none 0 0]) noStore := StoreL.of_own (noStore_own B w)
def C3 (w : World) (W : World) (x y z : Value) : Prop := W.cell? ⟨w.heap.size, 0, none⟩ = some x ∧ W.cell? ⟨w.heap.size, 1, none⟩ = some y ∧ W.cell? ⟨w.heap.size, 2, none⟩ = some z
theorem C3.below {w W W' : World} {x y z : Value} (h : C3 w W x y z) (hb : Below W.heap.size W W') : C3 w W' x y z :=
  ⟨(hb.cell (p := ⟨w.heap.size, 0, none⟩) (World.block_lt_of_cell? _ _ h.1)).trans h.1, (hb.cell (p := ⟨w.heap.size, 1, none⟩) (World.block_lt_of_cell? _ _ h.2.1)).trans h.2.1, (hb.cell (p := ⟨w.heap.size, 2, none⟩) (World.block_lt_of_cell? _ _ h.2.2)).trans h.2.2⟩
theorem C3.set {w W : World} {x y z : Value} (h : C3 w W x y z) (u0 u1 u2 : Value) : C3 w (((W.setCell ⟨w.heap.size + 1, 0, none⟩ u0).setCell ⟨w.heap.size + 1, 1, none⟩ u1).setCell ⟨w.heap.size + 1, 2, none⟩ u2) x y z := by
  unfold C3
  rw [set_other, set_other, set_other, set_other, set_other, set_other, set_other, set_other, set_other]
  exact h

set_option maxRecDepth 20000 in
set_option maxHeartbeats 4000000 in
theorem l3Tell_badA (s : StoreT) (v : Value) (w : World) (hst : StoreV w v s) (hx : Fits s) (hg : goodS s = false) :
    Calls Tryz.prog 17 #[v] w (StoreLA noStore false w) := by
  have HST := Lib.hid hst
  obtain ⟨vf, vs, vg, rfl, h1, h2, h3⟩ := hst
  have H1 := Lib.hid h1
  have H2 := Lib.hid h2
  have H3 := Lib.hid h3
  obtain ⟨af, cf, rfl, _⟩ := h1.files
  obtain ⟨a2, cs, rfl, _⟩ := h2.files
  obtain ⟨ag, cg, rfl, _⟩ := h3.texts
  have HG := Lib.hid (fun W hr => specGoodStore_any s (.agg #[.slice af s.files.length cf, .slice a2 s.staged.length cs, .slice ag s.gone.length cg]) W hr hx)
  clear h1 h2 h3
  obtain ⟨wa, hwa⟩ : ∃ wa, wa = (w.alloc (.cells #[.slice af s.files.length cf, .slice a2 s.staged.length cs, .slice ag s.gone.length cg] 29)).alloc (.cells #[.slice none 0 0, .slice none 0 0, .slice none 0 0] 29) := ⟨_, rfl⟩
  have hsz : wa.heap.size = w.heap.size + 2 := by rw [hwa]; simp
  have P0 : Hid (Blk3 wa w.heap.size 29 (.slice af s.files.length cf) (.slice a2 s.staged.length cs) (.slice ag s.gone.length cg)) := by rw [hwa]; exact Blk3.new.old _
  have R0 : Hid (Blk3 wa (w.heap.size + 1) 29 (.slice none 0 0) (.slice none 0 0) (.slice none 0 0)) := by
    rw [hwa]
    have := Blk3.new (w := w.alloc (.cells #[.slice af s.files.length cf, .slice a2 s.staged.length cs, .slice ag s.gone.length cg] 29)) (t := 29) (x := .slice none 0 0) (y := .slice none 0 0) (z := .slice none 0 0)
    simpa [Hid] using this
  have HA : Hid (Below w.heap.size w wa) := by rw [hwa]; exact ((Below.refl w.heap.size w).alloc (Nat.le_refl _) _).alloc (by simp) _
  have HWA := Lib.hid hwa
  clear hwa
  rw [hg] at HG
  clear hx hg
  go_enter Tryz.func17, Tryz.ntmps17
  go_wp2_with fail
  rw [← HWA.out]
  refine (HG.out wa (HST.out.below HA.out)).mono ?_
  rintro e w1 ⟨rfl, hb1⟩
  have HB1 := Lib.hid hb1
  have R1 := Lib.hid (R0.out.below hb1 (by omega))
  obtain ⟨k0, k1, k2⟩ := R1.out.cells
  have z0 := R1.out.soft 0
  have z1 := R1.out.soft 1
  have z2 := R1.out.soft 2
  clear hb1
  go_wp2_with fail
  have Z := ((R1.out.set0 (.slice none 0 0)).set1 (.slice none 0 0)).set2 (.slice none 0 0)
  refine bodyPost_ret (results_cell2 rfl rfl (load_store Z.cells.1 Z.cells.2.1 Z.cells.2.2)) rfl ?_
  refine ⟨_, rfl, noStore_L _ _, ?_, ApartL.of ApartV.none⟩
  have HW := HA.out.trans (HB1.out.mono HA.out.size)
  exact ((HW.setCell (p := ⟨w.heap.size + 1, 0, none⟩) (Nat.le_succ _) _).setCell (p := ⟨w.heap.size + 1, 1, none⟩) (Nat.le_succ _) _).setCell (p := ⟨w.heap.size + 1, 2, none⟩) (Nat.le_succ _) _
theorem l3Tell_anyA (s : StoreT) (v : Value) (w : World) (hst : StoreV w v s) (hx : Fits s) : Calls Tryz.prog 17 #[v] w (StoreLA (tellT s) (goodS s) w) := by
  rcases h : goodS s with _ | _
  · rw [tellT, h]
    exact l3Tell_badA s v w hst hx h
  · rw [tellT, h]
    exact l3Tell_goodA s v w hst hx h
theorem l3Tell_any (s : StoreT) (v : Value) (w : World) (hst : StoreV w v s) (hx : Fits s) : Calls Tryz.prog 17 #[v] w (StoreLOk (tellT s) (goodS s) w) :=
  (l3Tell_anyA s v w hst hx).mono fun _ _ h => h.ok

theorem goodS_only {s : StoreT} (h : goodS s = true) : goodS ⟨s.files, [], []⟩ = true := by
  have hf : goodF s.files = true := by
    rw [goodS, Bool.and_eq_true] at h
    exact h.1
  have ht : takenF ⟨s.files, [], []⟩ = s.files := rfl
  have hg : goneOk ⟨s.files, [], []⟩ = true := by simp [goneOk, riseN]
  have he : goodF [] = true := by simp [goodF, riseN]
  rw [goodS, ht, hg, hf, he]; rfl
theorem RowF_nil (w : World) : RowF w (.slice none 0 0) [] := ⟨none, 0, rfl, rfl, Nat.le_refl _, by unfold maxLen; omega, fun k hk => by simp [FC] at hk⟩
theorem RowV_nil (w : World) : RowV w (.slice none 0 0) (S []) := ⟨none, 0, rfl, Nat.le_refl _, by unfold maxLen; omega, fun k hk => by simp [S] at hk⟩
def discardL (s : StoreT) : StoreT := if goodS s = true then ⟨s.files, [], []⟩ else noStore

end Go.Proofs.YtgcaplbeahjbmaaGreatDoor

/- Walks: the laws that what is staged and what is discarded is told alike, and owns its memory, given contracts of both programs. -/
namespace Go.Proofs.YtgcaplbeahjbmaaGreatDoor
open Go.RowKit Pth

set_option maxRecDepth 20000 in
set_option maxHeartbeats 16000000 in
theorem exactStageFile_of (s : StoreT) (n : List UInt8) (b : List UInt8) (t : StoreT) (ok : Bool) (v : Value) (w : World) (hst : StoreV w v s) (hx : Fits s) (hn : n.length ≤ maxLen) (hb : b.length ≤ maxLen) (hm : MaxAt w) (ht : t.files.length + t.staged.length + t.gone.length ≤ 1000)
    (hsp : ∀ W u, StoreV W u s → Calls Tryz.prog 6 #[u, .string ⟨n.toArray⟩, .string ⟨b.toArray⟩] W (StoreLOk t ok W))
    (him : ∀ W u, StoreV W u s → MaxAt W → Calls Tryz.prog 8 #[u, .string ⟨n.toArray⟩, .string ⟨b.toArray⟩] W (StoreBOk t ok W)) :
    Calls Tryz.prog 3 #[v, .string ⟨n.toArray⟩, .string ⟨b.toArray⟩] w (YesP w) := by
  have HST := Lib.hid hst
  have HM := Lib.hid hm
  have HSP := Lib.hid hsp
  have HIM := Lib.hid him
  clear hsp him
  unfold maxLen at hn
  unfold maxLen at hb
  obtain ⟨vf, vs, vg, rfl, h1, h2, h3⟩ := hst
  obtain ⟨af, cf, rfl, hf1, hf2, _⟩ := h1.files
  obtain ⟨a2, cs, rfl, hs1, hs2, _⟩ := h2.files
  obtain ⟨ag, cg, rfl, hg1, hg2, _⟩ := h3.texts
  clear h1 h2 h3 hm
  unfold maxLen at hf2 hs2 hg2
  obtain ⟨wa, hwa⟩ : ∃ wa, wa = w.alloc (.cells #[.slice af s.files.length cf, .slice a2 s.staged.length cs, .slice ag s.gone.length cg] 25) := ⟨_, rfl⟩
  have hsz : wa.heap.size = w.heap.size + 1 := by rw [hwa]; simp
  have P0 : Hid (Blk3 wa w.heap.size 25 (.slice af s.files.length cf) (.slice a2 s.staged.length cs) (.slice ag s.gone.length cg)) := by rw [hwa]; exact Blk3.new
  have HA : Hid (Below w.heap.size w wa) := by rw [hwa]; exact (Below.refl w.heap.size w).alloc (Nat.le_refl _) _
  obtain ⟨c0, c1, c2⟩ := P0.out.cells
  have HWA := Lib.hid hwa
  have HS := Lib.hid (szStore_any s 1048576 _ wa (HST.out.below HA.out) hx (by omega))
  clear hwa hx
  by_cases hbign : 1048576 < n.length
  · have hdn : decide ((n.length : Int) > 1048576) = true := decide_eq_true (by omega)
    go_enter Tryz.func3, Tryz.ntmps3
    go_wp2_with fail
    rw [← HWA.out]
    go_ret
    exact ⟨rfl, HA.out⟩
  have hdn : decide ((n.length : Int) > 1048576) = false := decide_eq_false (by omega)
  by_cases hbigb : 1048576 < b.length
  · have hdb : decide ((b.length : Int) > 1048576) = true := decide_eq_true (by omega)
    go_enter Tryz.func3, Tryz.ntmps3
    go_wp2_with fail
    rw [← HWA.out]
    go_ret
    exact ⟨rfl, HA.out⟩
  have hdb : decide ((b.length : Int) > 1048576) = false := decide_eq_false (by omega)
  go_enter Tryz.func3, Tryz.ntmps3
  go_wp2_with fail
  rw [← HWA.out]
  refine HS.out.mono ?_
  rintro e w1 ⟨r, rfl, hr, hb1⟩
  have HB1 := Lib.hid (bth HA.out hb1)
  have P1 := Lib.hid (P0.out.below hb1 (by omega))
  have z1 : w.heap.size < w1.heap.size := by have := hb1.size; omega
  clear hb1 HS c0 c1 c2
  obtain ⟨c0, c1, c2⟩ := P1.out.cells
  by_cases h0 : r < 0
  · clear hr
    go_wp2_with fail
    go_ret
    exact ⟨rfl, HB1.out⟩
  · obtain ⟨hl1, hl2, hl3⟩ := (hr (by omega)).small (by omega)
    have hls : s.files.length + s.staged.length + s.gone.length ≤ 1200000 := by have := (hr (by omega)).1; omega
    clear hr P0 HA
    have HTO := Lib.hid (fun W (hb : StoreV W (.agg #[.slice af s.files.length cf, .slice a2 s.staged.length cs, .slice ag s.gone.length cg]) s) => toStore_any s (.agg #[.slice af s.files.length cf, .slice a2 s.staged.length cs, .slice ag s.gone.length cg]) W hb hl1 hl2 hl3)
    have HEQ := Lib.hid (fun W u u' (h : StoreV W u t) (h' : StoreV W u' t) => eqStore_any t t u u' W h h' (by omega) (by omega) (by omega))
    rw [sameS_self] at HEQ
    have HES := Lib.hid (fun W u u' (h : StoreV W u s) (h' : StoreV W u' s) => eqStore_any s s u u' W h h' hl1 hl2 hl3)
    rw [sameS_self] at HES
    have hm1 : decide (((sumS 1 s : Nat) : Int) < 0) = false := decide_eq_false (by omega)
    have hm2 : decide (((sumS 1 t : Nat) : Int) < 0) = false := decide_eq_false (by omega)
    have hm3 : (((sumS 1 t : Nat) : Int) != ((sumS 1 t : Nat) : Int)) = false := by simp
    have HMS := Lib.hid (fun B u W (h : StoreO B W u s) => markStore_any s 1 B u W h hls (by omega) (by omega))
    have HMT := Lib.hid (fun B u W (h : StoreO B W u t) => markStore_any t 1 B u W h (by omega) (by omega) (by omega))
    have HHT := Lib.hid (fun u W (h : StoreV W u (marksS 1 t)) => heldStore_any t 1 u W h (by omega) (by omega) (by omega))
    unfold MarkedS at HMS HMT
    generalize sumS 1 s = k1 at hm1 HMS
    generalize sumS 1 t = k2 at hm2 hm3 HMT HHT
    have hok : (ok != ok) = false := by cases ok <;> rfl
    have hone : ((1 : Nat) : Int) = 1 := rfl
    rw [hone] at HMS HMT HHT
    clear hone
    -- the reference's answer
    go_wp2_with fail
    refine (HTO.out w1 (HST.out.below HB1.out)).mono ?_
    rintro e w2 ⟨v2, rfl, ho2, hb2⟩
    have HB2 := Lib.hid (bth HB1.out hb2)
    have P2 := Lib.hid (P1.out.below hb2 z1)
    have z2 := Nat.lt_of_lt_of_le z1 hb2.size
    have HC := Lib.hid (HSP.out w2 v2 ho2.view)
    clear hb2 ho2 c0 c1 c2 P1 HSP
    go_wp2_with fail
    refine HC.out.mono ?_
    rintro e w3 ⟨v3, rfl, ho3, hb3⟩
    have HV3 := Lib.hid ho3.view
    have HB3 := Lib.hid (bth HB2.out hb3)
    have P3 := Lib.hid (P2.out.below hb3 z2)
    have z3 := Nat.lt_of_lt_of_le z2 hb3.size
    obtain ⟨b1, d1, b2, d2, b3, d3, rfl⟩ := ho3.slices
    obtain ⟨w4, hw4⟩ : ∃ w4, w4 = w3.alloc (.cells #[.slice b1 t.files.length d1, .slice b2 t.staged.length d2, .slice b3 t.gone.length d3] 29) := ⟨_, rfl⟩
    have hA4 : Below w3.heap.size w3 w4 := by rw [hw4]; exact (Below.refl w3.heap.size w3).alloc (Nat.le_refl _) _
    have A4 := Lib.hid hA4
    have W4 : Hid (Blk3 w4 w3.heap.size 29 (.slice b1 t.files.length d1) (.slice b2 t.staged.length d2) (.slice b3 t.gone.length d3)) := by rw [hw4]; exact Blk3.new
    have s4 : w4.heap.size = w3.heap.size + 1 := by rw [hw4]; simp
    have HB4 := Lib.hid (bth HB3.out hA4)
    have P4 := Lib.hid (P3.out.below hA4 z3)
    have HW4 := Lib.hid hw4
    obtain ⟨c0, c1, c2⟩ := P3.out.cells
    clear hb3 ho3 hA4 hw4 HC P2 P3
    go_wp2_with fail
    rw [← HW4.out]
    -- a copy of the argument
    refine (HTO.out w4 (HST.out.below HB4.out)).mono ?_
    rintro e w5 ⟨v5, rfl, ho5, hb5⟩
    have HO5 := Lib.hid ho5
    have HB5 := Lib.hid (bth HB4.out hb5)
    have P5 := Lib.hid (P4.out.below hb5 (by omega))
    have W5 := Lib.hid (W4.out.below hb5 (by omega))
    have A5 := Lib.hid (bth A4.out hb5)
    obtain ⟨x1, y1, x2, y2, x3, y3, rfl⟩ := ho5.slices
    have HX5 := Lib.hid (fun k h => (ho5.lt (k := k) h).2)
    obtain ⟨w6, hw6⟩ : ∃ w6, w6 = w5.alloc (.cells #[.slice x1 s.files.length y1, .slice x2 s.staged.length y2, .slice x3 s.gone.length y3] 29) := ⟨_, rfl⟩
    have hA6 : Below w5.heap.size w5 w6 := by rw [hw6]; exact (Below.refl w5.heap.size w5).alloc (Nat.le_refl _) _
    have X6 : Hid (Blk3 w6 w5.heap.size 29 (.slice x1 s.files.length y1) (.slice x2 s.staged.length y2) (.slice x3 s.gone.length y3)) := by rw [hw6]; exact Blk3.new
    have s6 : w6.heap.size = w5.heap.size + 1 := by rw [hw6]; simp
    have s5 := hb5.size
    have HB6 := Lib.hid (bth HB5.out hA6)
    have P6 := Lib.hid (P5.out.below hA6 (by omega))
    have W6 := Lib.hid (W5.out.below hA6 (by omega))
    have A6 := Lib.hid (bth A5.out hA6)
    have HO6 := Lib.hid (HO5.out.below hA6)
    have HC := Lib.hid (HIM.out w6 _ HO6.out.view (HM.out.below HB6.out))
    have HW6 := Lib.hid hw6
    clear hb5 ho5 hA6 hw6 c0 c1 c2 P4 P5 W4 W5 HO5 A5 HW4
    go_wp2_with fail
    rw [← HW6.out]
    -- the program's answer
    refine HC.out.mono ?_
    rintro e w7 ⟨v7, rfl, ho7, hb7⟩
    have s7 := hb7.size
    have HB7 := Lib.hid (bth HB6.out hb7)
    have P7 := Lib.hid (P6.out.below hb7 (by omega))
    have W7 := Lib.hid (W6.out.below hb7 (by omega))
    have X7 := Lib.hid (X6.out.below hb7 (by omega))
    have A7 := Lib.hid (bth A6.out hb7)
    have HO7 := Lib.hid (HO6.out.below hb7)
    have HG7 := Lib.hid ho7
    obtain ⟨g1, e1, g2, e2, g3, e3, rfl⟩ := ho7.slices
    have HX7 := Lib.hid (fun k h => (ho7.lt (k := k) h).2)
    obtain ⟨w8, hw8⟩ : ∃ w8, w8 = w7.alloc (.cells #[.slice g1 t.files.length e1, .slice g2 t.staged.length e2, .slice g3 t.gone.length e3] 29) := ⟨_, rfl⟩
    have hA8 : Below w7.heap.size w7 w8 := by rw [hw8]; exact (Below.refl w7.heap.size w7).alloc (Nat.le_refl _) _
    have G8 : Hid (Blk3 w8 w7.heap.size 29 (.slice g1 t.files.length e1) (.slice g2 t.staged.length e2) (.slice g3 t.gone.length e3)) := by rw [hw8]; exact Blk3.new
    have s8 : w8.heap.size = w7.heap.size + 1 := by rw [hw8]; simp
    have HB8 := Lib.hid (bth HB7.out hA8)
    have P8 := Lib.hid (P7.out.below hA8 (by omega))
    have W8 := Lib.hid (W7.out.below hA8 (by omega))
    have X8 := Lib.hid (X7.out.below hA8 (by omega))
    have A8 := Lib.hid (bth A7.out hA8)
    have HO8 := Lib.hid (HO7.out.below hA8)
    have HG8 := Lib.hid (HG7.out.below hA8)
    have HW8 := Lib.hid hw8
    obtain ⟨c3, c4, c5⟩ := W7.out.cells
    clear hb7 ho7 hA8 hw8 P6 P7 W6 W7 X6 X7 HO6 HO7 HG7 A6 A7 HC HW6
    have z7 : w3.heap.size < w7.heap.size := by omega
    go_wp2_with fail
    rw [← HW8.out]
    refine (HEQ.out w8 _ _ HG8.out.view (HV3.out.below A8.out)).mono ?_
    rintro e w9 ⟨rfl, hb9⟩
    have s9 := hb9.size
    have hb9d : Below w8.heap.size w8 w9.drew := Below.drew hb9
    have HB9 : Hid (Below w.heap.size w w9.drew) := bth HB8.out hb9d
    have P9 : Hid (Blk3 w9.drew w.heap.size 25 (.slice af s.files.length cf) (.slice a2 s.staged.length cs) (.slice ag s.gone.length cg)) := P8.out.below hb9d (show w.heap.size < w8.heap.size by omega)
    have W9 : Hid (Blk3 w9.drew w3.heap.size 29 (.slice b1 t.files.length d1) (.slice b2 t.staged.length d2) (.slice b3 t.gone.length d3)) := W8.out.below hb9d (show w3.heap.size < w8.heap.size by omega)
    have X9 : Hid (Blk3 w9.drew w5.heap.size 29 (.slice x1 s.files.length y1) (.slice x2 s.staged.length y2) (.slice x3 s.gone.length y3)) := X8.out.below hb9d (show w5.heap.size < w8.heap.size by omega)
    have G9 : Hid (Blk3 w9.drew w7.heap.size 29 (.slice g1 t.files.length e1) (.slice g2 t.staged.length e2) (.slice g3 t.gone.length e3)) := G8.out.below hb9d (show w7.heap.size < w8.heap.size by omega)
    have A9 : Hid (Below w3.heap.size w3 w9.drew) := bth A8.out hb9d
    have HO9 : Hid (StoreO w4.heap.size w9.drew (.agg #[.slice x1 s.files.length y1, .slice x2 s.staged.length y2, .slice x3 s.gone.length y3]) s) := HO8.out.below hb9d
    have HG9 : Hid (StoreO w6.heap.size w9.drew (.agg #[.slice g1 t.files.length e1, .slice g2 t.staged.length e2, .slice g3 t.gone.length e3]) t) := HG8.out.below hb9d
    have s9' : w9.drew.heap.size = w9.heap.size := rfl
    clear hb9 hb9d c3 c4 c5 P8 W8 X8 G8 HO8 HG8 A8 HW8
    have ks := And.intro P9.out.cells X9.out.cells
    go_wp2_with fail
    -- the copy is as it was
    go_region_held3 (fun w' => (w'.cell? ⟨w.heap.size, 0, none⟩ = some (.slice af s.files.length cf) ∧ w'.cell? ⟨w.heap.size, 1, none⟩ = some (.slice a2 s.staged.length cs) ∧ w'.cell? ⟨w.heap.size, 2, none⟩ = some (.slice ag s.gone.length cg)) ∧ (w'.cell? ⟨w5.heap.size, 0, none⟩ = some (.slice x1 s.files.length y1) ∧ w'.cell? ⟨w5.heap.size, 1, none⟩ = some (.slice x2 s.staged.length y2) ∧ w'.cell? ⟨w5.heap.size, 2, none⟩ = some (.slice x3 s.gone.length y3))) (first | exact ks)
      (first
        | (go_at_call 7; refine (HTO.out _ (HST.out.below HB9.out)).mono ?_; rintro e w10 ⟨v10, rfl, ho10, hb10⟩
           have ks := And.intro (P9.out.below hb10 (Nat.lt_of_lt_of_le z3 (Nat.le_trans A9.out.size (Nat.le_refl _)))).cells (X9.out.below hb10 (lt_of_block X9.out)).cells
           have HV10 := Lib.hid ho10.view
           have C10 := Lib.hid hb10
           clear ho10 hb10)
        | (go_at_call 9; refine (HES.out _ _ _ (HO9.out.view.below C10.out) HV10.out).mono ?_; rintro e w11 ⟨rfl, hb11⟩
           have C11 := Lib.hid (bth C10.out hb11)
           have ks := And.intro (P9.out.below C11.out (lt_of_block P9.out)).cells (X9.out.below C11.out (lt_of_block X9.out)).cells
           clear hb11))
    all_goals
      have s11 := C11.out.size
      have HB11 := Lib.hid (bth HB9.out C11.out)
      have P11 := Lib.hid (P9.out.below C11.out (lt_of_block P9.out))
      have W11 := Lib.hid (W9.out.below C11.out (lt_of_block W9.out))
      have X11 := Lib.hid (X9.out.below C11.out (lt_of_block X9.out))
      have G11 := Lib.hid (G9.out.below C11.out (lt_of_block G9.out))
      have A11 := Lib.hid (bth A9.out C11.out)
      have HO11 := Lib.hid (HO9.out.below C11.out)
      have HG11 := Lib.hid (HG9.out.below C11.out)
      clear ks P9 W9 X9 G9 HO9 HG9 A9 C10 C11 HV10 HB9
      obtain ⟨c0, c1, c2⟩ := X11.out.cells
      -- marks in the copy
      go_wp2_with fail
      refine (HMS.out w4.heap.size _ _ HO11.out).mono ?_
      rintro e w12 ⟨rfl, _, hg12⟩
      have C12 := Lib.hid (hg12.below HO11.out (by omega))
      have s12 := hg12.size
      have HB12 := Lib.hid (HB11.out.trans (C12.out.mono (by omega)))
      have P12 := Lib.hid (P11.out.below C12.out (by omega))
      have W12 := Lib.hid (W11.out.below C12.out (by omega))
      have A12 := Lib.hid (A11.out.trans (C12.out.mono (by omega)))
      have hin : ∀ k, OwnIn (.agg #[.slice x1 s.files.length y1, .slice x2 s.staged.length y2, .slice x3 s.gone.length y3]) k → k < w5.heap.size := HX5.out
      have G12 := Lib.hid (show Blk3 w12 w7.heap.size 29 _ _ _ from (hg12.block w7.heap.size (by omega) (fun h => by have := hin _ h; omega)).trans G11.out)
      have HG12 := Lib.hid (HG11.out.grownS hg12 (fun k h => by have := hin _ h; omega))
      clear hg12 c0 c1 c2 P11 W11 X11 G11 HO11 HG11 A11 HB11 C12 hin
      obtain ⟨c0, c1, c2⟩ := G12.out.cells
      obtain ⟨c3, c4, c5⟩ := W12.out.cells
      go_wp2_with fail
      refine (HEQ.out w12 _ _ HG12.out.view (HV3.out.below A12.out)).mono ?_
      rintro e w13 ⟨rfl, hb13⟩
      have s13 := hb13.size
      have HB13 := Lib.hid (bth HB12.out hb13)
      have P13 := Lib.hid (P12.out.below hb13 (by omega))
      have W13 := Lib.hid (W12.out.below hb13 (by omega))
      have G13 := Lib.hid (G12.out.below hb13 (by omega))
      have A13 := Lib.hid (bth A12.out hb13)
      have HG13 := Lib.hid (HG12.out.below hb13)
      clear hb13 c0 c1 c2 c3 c4 c5 P12 W12 G12 A12 HG12 HB12
      obtain ⟨c0, c1, c2⟩ := G13.out.cells
      -- marks in the answer
      go_wp2_with fail
      refine (HMT.out w6.heap.size _ _ HG13.out).mono ?_
      rintro e w14 ⟨rfl, hk14, hg14⟩
      have C14 := Lib.hid (hg14.below HG13.out (by omega))
      have s14 := hg14.size
      have HB14 := Lib.hid (HB13.out.trans (C14.out.mono (by omega)))
      have P14 := Lib.hid (P13.out.below C14.out (by omega))
      have W14 := Lib.hid (W13.out.below C14.out (by omega))
      have A14 := Lib.hid (A13.out.trans (C14.out.mono (by omega)))
      have hin : ∀ k, OwnIn (.agg #[.slice g1 t.files.length e1, .slice g2 t.staged.length e2, .slice g3 t.gone.length e3]) k → k < w7.heap.size := HX7.out
      have G14 := Lib.hid (show Blk3 w14 w7.heap.size 29 _ _ _ from (hg14.block w7.heap.size (by omega) (fun h => by have := hin _ h; omega)).trans G13.out)
      have HK14 := Lib.hid hk14
      clear hk14 hg14 c0 c1 c2 P13 W13 G13 A13 HG13 HB13 C14 hin
      obtain ⟨c0, c1, c2⟩ := G14.out.cells
      go_wp2_with fail
      refine (HHT.out _ w14 HK14.out.view).mono ?_
      rintro e w15 ⟨rfl, hb15⟩
      have s15 := hb15.size
      have HB15 := Lib.hid (bth HB14.out hb15)
      have P15 := Lib.hid (P14.out.below hb15 (by omega))
      have W15 := Lib.hid (W14.out.below hb15 (by omega))
      have G15 := Lib.hid (G14.out.below hb15 (by omega))
      have A15 := Lib.hid (bth A14.out hb15)
      have HK15 := Lib.hid (HK14.out.below hb15)
      clear hb15 c0 c1 c2 P14 W14 G14 A14 HK14 HB14
      obtain ⟨c0, c1, c2⟩ := P15.out.cells
      -- asked again
      go_wp2_with fail
      refine (HTO.out w15 (HST.out.below HB15.out)).mono ?_
      rintro e w16 ⟨v16, rfl, ho16, hb16⟩
      have s16 := hb16.size
      have HB16 := Lib.hid (bth HB15.out hb16)
      have W16 := Lib.hid (W15.out.below hb16 (by omega))
      have G16 := Lib.hid (G15.out.below hb16 (by omega))
      have A16 := Lib.hid (bth A15.out hb16)
      have HK16 := Lib.hid (HK15.out.below hb16)
      have HC := Lib.hid (HIM.out w16 v16 ho16.view (HM.out.below HB16.out))
      clear hb16 ho16 c0 c1 c2 P15 W15 G15 A15 HK15 HB15
      go_wp2_with fail
      refine HC.out.mono ?_
      rintro e w17 ⟨v17, rfl, ho17, hb17⟩
      have s17 := hb17.size
      have HB17 := Lib.hid (bth HB16.out hb17)
      have W17 := Lib.hid (W16.out.below hb17 (by omega))
      have G17 := Lib.hid (G16.out.below hb17 (by omega))
      have A17 := Lib.hid (bth A16.out hb17)
      have HK17 := Lib.hid (HK16.out.below hb17)
      have HV17 := Lib.hid ho17.view
      obtain ⟨i1, j1, i2, j2, i3, j3, rfl⟩ := ho17.slices
      obtain ⟨w18, hw18⟩ : ∃ w18, w18 = w17.alloc (.cells #[.slice i1 t.files.length j1, .slice i2 t.staged.length j2, .slice i3 t.gone.length j3] 29) := ⟨_, rfl⟩
      have hA18 : Below w17.heap.size w17 w18 := by rw [hw18]; exact (Below.refl w17.heap.size w17).alloc (Nat.le_refl _) _
      have I18 : Hid (Blk3 w18 w17.heap.size 29 (.slice i1 t.files.length j1) (.slice i2 t.staged.length j2) (.slice i3 t.gone.length j3)) := by rw [hw18]; exact Blk3.new
      have s18 : w18.heap.size = w17.heap.size + 1 := by rw [hw18]; simp
      have HB18 := Lib.hid (bth HB17.out hA18)
      have W18 := Lib.hid (W17.out.below hA18 (by omega))
      have G18 := Lib.hid (G17.out.below hA18 (by omega))
      have A18 := Lib.hid (bth A17.out hA18)
      have HK18 := Lib.hid (HK17.out.below hA18)
      have HV18 := Lib.hid (HV17.out.below hA18)
      have HW18 := Lib.hid hw18
      obtain ⟨c3, c4, c5⟩ := W17.out.cells
      clear hb17 ho17 hA18 hw18 W16 W17 G16 G17 A16 A17 HK16 HK17 HV17 HB16 HB17 HC
      have z17 : w3.heap.size < w17.heap.size := by omega
      go_wp2_with fail
      rw [← HW18.out]
      refine (HEQ.out w18 _ _ HV18.out (HV3.out.below A18.out)).mono ?_
      rintro e w19 ⟨rfl, hb19⟩
      have HB19 := Lib.hid (bth HB18.out hb19)
      have G19 := Lib.hid (G18.out.below hb19 (by omega))
      have HK19 := Lib.hid (HK18.out.below hb19)
      clear hb19 c3 c4 c5 W18 G18 A18 HK18 HV18 HB18 I18 HW18
      obtain ⟨c0, c1, c2⟩ := G19.out.cells
      go_wp2_with fail
      refine (HHT.out _ w19 HK19.out.view).mono ?_
      rintro e w20 ⟨rfl, hb20⟩
      have HB20 := Lib.hid (bth HB19.out hb20)
      clear hb20 c0 c1 c2
      go_wp2_with fail
      go_ret
      exact ⟨rfl, HB20.out⟩

set_option maxRecDepth 20000 in
set_option maxHeartbeats 16000000 in
theorem exactStageGone_of (s : StoreT) (n : List UInt8) (t : StoreT) (ok : Bool) (v : Value) (w : World) (hst : StoreV w v s) (hx : Fits s) (hn : n.length ≤ maxLen) (hm : MaxAt w) (ht : t.files.length + t.staged.length + t.gone.length ≤ 1000)
    (hsp : ∀ W u, StoreV W u s → Calls Tryz.prog 12 #[u, .string ⟨n.toArray⟩] W (StoreLOk t ok W))
    (him : ∀ W u, StoreV W u s → MaxAt W → Calls Tryz.prog 13 #[u, .string ⟨n.toArray⟩] W (StoreBOk t ok W)) :
    Calls Tryz.prog 4 #[v, .string ⟨n.toArray⟩] w (YesP w) := by
  have HST := Lib.hid hst
  have HM := Lib.hid hm
  have HSP := Lib.hid hsp
  have HIM := Lib.hid him
  clear hsp him
  unfold maxLen at hn
  obtain ⟨vf, vs, vg, rfl, h1, h2, h3⟩ := hst
  obtain ⟨af, cf, rfl, hf1, hf2, _⟩ := h1.files
  obtain ⟨a2, cs, rfl, hs1, hs2, _⟩ := h2.files
  obtain ⟨ag, cg, rfl, hg1, hg2, _⟩ := h3.texts
  clear h1 h2 h3 hm
  unfold maxLen at hf2 hs2 hg2
  obtain ⟨wa, hwa⟩ : ∃ wa, wa = w.alloc (.cells #[.slice af s.files.length cf, .slice a2 s.staged.length cs, .slice ag s.gone.length cg] 25) := ⟨_, rfl⟩
  have hsz : wa.heap.size = w.heap.size + 1 := by rw [hwa]; simp
  have P0 : Hid (Blk3 wa w.heap.size 25 (.slice af s.files.length cf) (.slice a2 s.staged.length cs) (.slice ag s.gone.length cg)) := by rw [hwa]; exact Blk3.new
  have HA : Hid (Below w.heap.size w wa) := by rw [hwa]; exact (Below.refl w.heap.size w).alloc (Nat.le_refl _) _
  obtain ⟨c0, c1, c2⟩ := P0.out.cells
  have HWA := Lib.hid hwa
  have HS := Lib.hid (szStore_any s 1048576 _ wa (HST.out.below HA.out) hx (by omega))
  clear hwa hx
  by_cases hbign : 1048576 < n.length
  · have hdn : decide ((n.length : Int) > 1048576) = true := decide_eq_true (by omega)
    go_enter Tryz.func4, Tryz.ntmps4
    go_wp2_with fail
    rw [← HWA.out]
    go_ret
    exact ⟨rfl, HA.out⟩
  have hdn : decide ((n.length : Int) > 1048576) = false := decide_eq_false (by omega)
  go_enter Tryz.func4, Tryz.ntmps4
  go_wp2_with fail
  rw [← HWA.out]
  refine HS.out.mono ?_
  rintro e w1 ⟨r, rfl, hr, hb1⟩
  have HB1 := Lib.hid (bth HA.out hb1)
  have P1 := Lib.hid (P0.out.below hb1 (by omega))
  have z1 : w.heap.size < w1.heap.size := by have := hb1.size; omega
  clear hb1 HS c0 c1 c2
  obtain ⟨c0, c1, c2⟩ := P1.out.cells
  by_cases h0 : r < 0
  · clear hr
    go_wp2_with fail
    go_ret
    exact ⟨rfl, HB1.out⟩
  · obtain ⟨hl1, hl2, hl3⟩ := (hr (by omega)).small (by omega)
    have hls : s.files.length + s.staged.length + s.gone.length ≤ 1200000 := by have := (hr (by omega)).1; omega
    clear hr P0 HA
    have HTO := Lib.hid (fun W (hb : StoreV W (.agg #[.slice af s.files.length cf, .slice a2 s.staged.length cs, .slice ag s.gone.length cg]) s) => toStore_any s (.agg #[.slice af s.files.length cf, .slice a2 s.staged.length cs, .slice ag s.gone.length cg]) W hb hl1 hl2 hl3)
    have HEQ := Lib.hid (fun W u u' (h : StoreV W u t) (h' : StoreV W u' t) => eqStore_any t t u u' W h h' (by omega) (by omega) (by omega))
    rw [sameS_self] at HEQ
    have HES := Lib.hid (fun W u u' (h : StoreV W u s) (h' : StoreV W u' s) => eqStore_any s s u u' W h h' hl1 hl2 hl3)
    rw [sameS_self] at HES
    have hm1 : decide (((sumS 1 s : Nat) : Int) < 0) = false := decide_eq_false (by omega)
    have hm2 : decide (((sumS 1 t : Nat) : Int) < 0) = false := decide_eq_false (by omega)
    have hm3 : (((sumS 1 t : Nat) : Int) != ((sumS 1 t : Nat) : Int)) = false := by simp
    have HMS := Lib.hid (fun B u W (h : StoreO B W u s) => markStore_any s 1 B u W h hls (by omega) (by omega))
    have HMT := Lib.hid (fun B u W (h : StoreO B W u t) => markStore_any t 1 B u W h (by omega) (by omega) (by omega))
    have HHT := Lib.hid (fun u W (h : StoreV W u (marksS 1 t)) => heldStore_any t 1 u W h (by omega) (by omega) (by omega))
    unfold MarkedS at HMS HMT
    generalize sumS 1 s = k1 at hm1 HMS
    generalize sumS 1 t = k2 at hm2 hm3 HMT HHT
    have hok : (ok != ok) = false := by cases ok <;> rfl
    have hone : ((1 : Nat) : Int) = 1 := rfl
    rw [hone] at HMS HMT HHT
    clear hone
    -- the reference's answer
    go_wp2_with fail
    refine (HTO.out w1 (HST.out.below HB1.out)).mono ?_
    rintro e w2 ⟨v2, rfl, ho2, hb2⟩
    have HB2 := Lib.hid (bth HB1.out hb2)
    have P2 := Lib.hid (P1.out.below hb2 z1)
    have z2 := Nat.lt_of_lt_of_le z1 hb2.size
    have HC := Lib.hid (HSP.out w2 v2 ho2.view)
    clear hb2 ho2 c0 c1 c2 P1 HSP
    go_wp2_with fail
    refine HC.out.mono ?_
    rintro e w3 ⟨v3, rfl, ho3, hb3⟩
    have HV3 := Lib.hid ho3.view
    have HB3 := Lib.hid (bth HB2.out hb3)
    have P3 := Lib.hid (P2.out.below hb3 z2)
    have z3 := Nat.lt_of_lt_of_le z2 hb3.size
    obtain ⟨b1, d1, b2, d2, b3, d3, rfl⟩ := ho3.slices
    obtain ⟨w4, hw4⟩ : ∃ w4, w4 = w3.alloc (.cells #[.slice b1 t.files.length d1, .slice b2 t.staged.length d2, .slice b3 t.gone.length d3] 29) := ⟨_, rfl⟩
    have hA4 : Below w3.heap.size w3 w4 := by rw [hw4]; exact (Below.refl w3.heap.size w3).alloc (Nat.le_refl _) _
    have A4 := Lib.hid hA4
    have W4 : Hid (Blk3 w4 w3.heap.size 29 (.slice b1 t.files.length d1) (.slice b2 t.staged.length d2) (.slice b3 t.gone.length d3)) := by rw [hw4]; exact Blk3.new
    have s4 : w4.heap.size = w3.heap.size + 1 := by rw [hw4]; simp
    have HB4 := Lib.hid (bth HB3.out hA4)
    have P4 := Lib.hid (P3.out.below hA4 z3)
    have HW4 := Lib.hid hw4
    obtain ⟨c0, c1, c2⟩ := P3.out.cells
    clear hb3 ho3 hA4 hw4 HC P2 P3
    go_wp2_with fail
    rw [← HW4.out]
    -- a copy of the argument
    refine (HTO.out w4 (HST.out.below HB4.out)).mono ?_
    rintro e w5 ⟨v5, rfl, ho5, hb5⟩
    have HO5 := Lib.hid ho5
    have HB5 := Lib.hid (bth HB4.out hb5)
    have P5 := Lib.hid (P4.out.below hb5 (by omega))
    have W5 := Lib.hid (W4.out.below hb5 (by omega))
    have A5 := Lib.hid (bth A4.out hb5)
    obtain ⟨x1, y1, x2, y2, x3, y3, rfl⟩ := ho5.slices
    have HX5 := Lib.hid (fun k h => (ho5.lt (k := k) h).2)
    obtain ⟨w6, hw6⟩ : ∃ w6, w6 = w5.alloc (.cells #[.slice x1 s.files.length y1, .slice x2 s.staged.length y2, .slice x3 s.gone.length y3] 29) := ⟨_, rfl⟩
    have hA6 : Below w5.heap.size w5 w6 := by rw [hw6]; exact (Below.refl w5.heap.size w5).alloc (Nat.le_refl _) _
    have X6 : Hid (Blk3 w6 w5.heap.size 29 (.slice x1 s.files.length y1) (.slice x2 s.staged.length y2) (.slice x3 s.gone.length y3)) := by rw [hw6]; exact Blk3.new
    have s6 : w6.heap.size = w5.heap.size + 1 := by rw [hw6]; simp
    have s5 := hb5.size
    have HB6 := Lib.hid (bth HB5.out hA6)
    have P6 := Lib.hid (P5.out.below hA6 (by omega))
    have W6 := Lib.hid (W5.out.below hA6 (by omega))
    have A6 := Lib.hid (bth A5.out hA6)
    have HO6 := Lib.hid (HO5.out.below hA6)
    have HC := Lib.hid (HIM.out w6 _ HO6.out.view (HM.out.below HB6.out))
    have HW6 := Lib.hid hw6
    clear hb5 ho5 hA6 hw6 c0 c1 c2 P4 P5 W4 W5 HO5 A5 HW4
    go_wp2_with fail
    rw [← HW6.out]
    -- the program's answer
    refine HC.out.mono ?_
    rintro e w7 ⟨v7, rfl, ho7, hb7⟩
    have s7 := hb7.size
    have HB7 := Lib.hid (bth HB6.out hb7)
    have P7 := Lib.hid (P6.out.below hb7 (by omega))
    have W7 := Lib.hid (W6.out.below hb7 (by omega))
    have X7 := Lib.hid (X6.out.below hb7 (by omega))
    have A7 := Lib.hid (bth A6.out hb7)
    have HO7 := Lib.hid (HO6.out.below hb7)
    have HG7 := Lib.hid ho7
    obtain ⟨g1, e1, g2, e2, g3, e3, rfl⟩ := ho7.slices
    have HX7 := Lib.hid (fun k h => (ho7.lt (k := k) h).2)
    obtain ⟨w8, hw8⟩ : ∃ w8, w8 = w7.alloc (.cells #[.slice g1 t.files.length e1, .slice g2 t.staged.length e2, .slice g3 t.gone.length e3] 29) := ⟨_, rfl⟩
    have hA8 : Below w7.heap.size w7 w8 := by rw [hw8]; exact (Below.refl w7.heap.size w7).alloc (Nat.le_refl _) _
    have G8 : Hid (Blk3 w8 w7.heap.size 29 (.slice g1 t.files.length e1) (.slice g2 t.staged.length e2) (.slice g3 t.gone.length e3)) := by rw [hw8]; exact Blk3.new
    have s8 : w8.heap.size = w7.heap.size + 1 := by rw [hw8]; simp
    have HB8 := Lib.hid (bth HB7.out hA8)
    have P8 := Lib.hid (P7.out.below hA8 (by omega))
    have W8 := Lib.hid (W7.out.below hA8 (by omega))
    have X8 := Lib.hid (X7.out.below hA8 (by omega))
    have A8 := Lib.hid (bth A7.out hA8)
    have HO8 := Lib.hid (HO7.out.below hA8)
    have HG8 := Lib.hid (HG7.out.below hA8)
    have HW8 := Lib.hid hw8
    obtain ⟨c3, c4, c5⟩ := W7.out.cells
    clear hb7 ho7 hA8 hw8 P6 P7 W6 W7 X6 X7 HO6 HO7 HG7 A6 A7 HC HW6
    have z7 : w3.heap.size < w7.heap.size := by omega
    go_wp2_with fail
    rw [← HW8.out]
    refine (HEQ.out w8 _ _ HG8.out.view (HV3.out.below A8.out)).mono ?_
    rintro e w9 ⟨rfl, hb9⟩
    have s9 := hb9.size
    have hb9d : Below w8.heap.size w8 w9.drew := Below.drew hb9
    have HB9 : Hid (Below w.heap.size w w9.drew) := bth HB8.out hb9d
    have P9 : Hid (Blk3 w9.drew w.heap.size 25 (.slice af s.files.length cf) (.slice a2 s.staged.length cs) (.slice ag s.gone.length cg)) := P8.out.below hb9d (show w.heap.size < w8.heap.size by omega)
    have W9 : Hid (Blk3 w9.drew w3.heap.size 29 (.slice b1 t.files.length d1) (.slice b2 t.staged.length d2) (.slice b3 t.gone.length d3)) := W8.out.below hb9d (show w3.heap.size < w8.heap.size by omega)
    have X9 : Hid (Blk3 w9.drew w5.heap.size 29 (.slice x1 s.files.length y1) (.slice x2 s.staged.length y2) (.slice x3 s.gone.length y3)) := X8.out.below hb9d (show w5.heap.size < w8.heap.size by omega)
    have G9 : Hid (Blk3 w9.drew w7.heap.size 29 (.slice g1 t.files.length e1) (.slice g2 t.staged.length e2) (.slice g3 t.gone.length e3)) := G8.out.below hb9d (show w7.heap.size < w8.heap.size by omega)
    have A9 : Hid (Below w3.heap.size w3 w9.drew) := bth A8.out hb9d
    have HO9 : Hid (StoreO w4.heap.size w9.drew (.agg #[.slice x1 s.files.length y1, .slice x2 s.staged.length y2, .slice x3 s.gone.length y3]) s) := HO8.out.below hb9d
    have HG9 : Hid (StoreO w6.heap.size w9.drew (.agg #[.slice g1 t.files.length e1, .slice g2 t.staged.length e2, .slice g3 t.gone.length e3]) t) := HG8.out.below hb9d
    have s9' : w9.drew.heap.size = w9.heap.size := rfl
    clear hb9 hb9d c3 c4 c5 P8 W8 X8 G8 HO8 HG8 A8 HW8
    have ks := And.intro P9.out.cells X9.out.cells
    go_wp2_with fail
    -- the copy is as it was
    go_region_held3 (fun w' => (w'.cell? ⟨w.heap.size, 0, none⟩ = some (.slice af s.files.length cf) ∧ w'.cell? ⟨w.heap.size, 1, none⟩ = some (.slice a2 s.staged.length cs) ∧ w'.cell? ⟨w.heap.size, 2, none⟩ = some (.slice ag s.gone.length cg)) ∧ (w'.cell? ⟨w5.heap.size, 0, none⟩ = some (.slice x1 s.files.length y1) ∧ w'.cell? ⟨w5.heap.size, 1, none⟩ = some (.slice x2 s.staged.length y2) ∧ w'.cell? ⟨w5.heap.size, 2, none⟩ = some (.slice x3 s.gone.length y3))) (first | exact ks)
      (first
        | (go_at_call 7; refine (HTO.out _ (HST.out.below HB9.out)).mono ?_; rintro e w10 ⟨v10, rfl, ho10, hb10⟩
           have ks := And.intro (P9.out.below hb10 (Nat.lt_of_lt_of_le z3 (Nat.le_trans A9.out.size (Nat.le_refl _)))).cells (X9.out.below hb10 (lt_of_block X9.out)).cells
           have HV10 := Lib.hid ho10.view
           have C10 := Lib.hid hb10
           clear ho10 hb10)
        | (go_at_call 9; refine (HES.out _ _ _ (HO9.out.view.below C10.out) HV10.out).mono ?_; rintro e w11 ⟨rfl, hb11⟩
           have C11 := Lib.hid (bth C10.out hb11)
           have ks := And.intro (P9.out.below C11.out (lt_of_block P9.out)).cells (X9.out.below C11.out (lt_of_block X9.out)).cells
           clear hb11))
    all_goals
      have s11 := C11.out.size
      have HB11 := Lib.hid (bth HB9.out C11.out)
      have P11 := Lib.hid (P9.out.below C11.out (lt_of_block P9.out))
      have W11 := Lib.hid (W9.out.below C11.out (lt_of_block W9.out))
      have X11 := Lib.hid (X9.out.below C11.out (lt_of_block X9.out))
      have G11 := Lib.hid (G9.out.below C11.out (lt_of_block G9.out))
      have A11 := Lib.hid (bth A9.out C11.out)
      have HO11 := Lib.hid (HO9.out.below C11.out)
      have HG11 := Lib.hid (HG9.out.below C11.out)
      clear ks P9 W9 X9 G9 HO9 HG9 A9 C10 C11 HV10 HB9
      obtain ⟨c0, c1, c2⟩ := X11.out.cells
      -- marks in the copy
      go_wp2_with fail
      refine (HMS.out w4.heap.size _ _ HO11.out).mono ?_
      rintro e w12 ⟨rfl, _, hg12⟩
      have C12 := Lib.hid (hg12.below HO11.out (by omega))
      have s12 := hg12.size
      have HB12 := Lib.hid (HB11.out.trans (C12.out.mono (by omega)))
      have P12 := Lib.hid (P11.out.below C12.out (by omega))
      have W12 := Lib.hid (W11.out.below C12.out (by omega))
      have A12 := Lib.hid (A11.out.trans (C12.out.mono (by omega)))
      have hin : ∀ k, OwnIn (.agg #[.slice x1 s.files.length y1, .slice x2 s.staged.length y2, .slice x3 s.gone.length y3]) k → k < w5.heap.size := HX5.out
      have G12 := Lib.hid (show Blk3 w12 w7.heap.size 29 _ _ _ from (hg12.block w7.heap.size (by omega) (fun h => by have := hin _ h; omega)).trans G11.out)
      have HG12 := Lib.hid (HG11.out.grownS hg12 (fun k h => by have := hin _ h; omega))
      clear hg12 c0 c1 c2 P11 W11 X11 G11 HO11 HG11 A11 HB11 C12 hin
      obtain ⟨c0, c1, c2⟩ := G12.out.cells
      obtain ⟨c3, c4, c5⟩ := W12.out.cells
      go_wp2_with fail
      refine (HEQ.out w12 _ _ HG12.out.view (HV3.out.below A12.out)).mono ?_
      rintro e w13 ⟨rfl, hb13⟩
      have s13 := hb13.size
      have HB13 := Lib.hid (bth HB12.out hb13)
      have P13 := Lib.hid (P12.out.below hb13 (by omega))
      have W13 := Lib.hid (W12.out.below hb13 (by omega))
      have G13 := Lib.hid (G12.out.below hb13 (by omega))
      have A13 := Lib.hid (bth A12.out hb13)
      have HG13 := Lib.hid (HG12.out.below hb13)
      clear hb13 c0 c1 c2 c3 c4 c5 P12 W12 G12 A12 HG12 HB12
      obtain ⟨c0, c1, c2⟩ := G13.out.cells
      -- marks in the answer
      go_wp2_with fail
      refine (HMT.out w6.heap.size _ _ HG13.out).mono ?_
      rintro e w14 ⟨rfl, hk14, hg14⟩
      have C14 := Lib.hid (hg14.below HG13.out (by omega))
      have s14 := hg14.size
      have HB14 := Lib.hid (HB13.out.trans (C14.out.mono (by omega)))
      have P14 := Lib.hid (P13.out.below C14.out (by omega))
      have W14 := Lib.hid (W13.out.below C14.out (by omega))
      have A14 := Lib.hid (A13.out.trans (C14.out.mono (by omega)))
      have hin : ∀ k, OwnIn (.agg #[.slice g1 t.files.length e1, .slice g2 t.staged.length e2, .slice g3 t.gone.length e3]) k → k < w7.heap.size := HX7.out
      have G14 := Lib.hid (show Blk3 w14 w7.heap.size 29 _ _ _ from (hg14.block w7.heap.size (by omega) (fun h => by have := hin _ h; omega)).trans G13.out)
      have HK14 := Lib.hid hk14
      clear hk14 hg14 c0 c1 c2 P13 W13 G13 A13 HG13 HB13 C14 hin
      obtain ⟨c0, c1, c2⟩ := G14.out.cells
      go_wp2_with fail
      refine (HHT.out _ w14 HK14.out.view).mono ?_
      rintro e w15 ⟨rfl, hb15⟩
      have s15 := hb15.size
      have HB15 := Lib.hid (bth HB14.out hb15)
      have P15 := Lib.hid (P14.out.below hb15 (by omega))
      have W15 := Lib.hid (W14.out.below hb15 (by omega))
      have G15 := Lib.hid (G14.out.below hb15 (by omega))
      have A15 := Lib.hid (bth A14.out hb15)
      have HK15 := Lib.hid (HK14.out.below hb15)
      clear hb15 c0 c1 c2 P14 W14 G14 A14 HK14 HB14
      obtain ⟨c0, c1, c2⟩ := P15.out.cells
      -- asked again
      go_wp2_with fail
      refine (HTO.out w15 (HST.out.below HB15.out)).mono ?_
      rintro e w16 ⟨v16, rfl, ho16, hb16⟩
      have s16 := hb16.size
      have HB16 := Lib.hid (bth HB15.out hb16)
      have W16 := Lib.hid (W15.out.below hb16 (by omega))
      have G16 := Lib.hid (G15.out.below hb16 (by omega))
      have A16 := Lib.hid (bth A15.out hb16)
      have HK16 := Lib.hid (HK15.out.below hb16)
      have HC := Lib.hid (HIM.out w16 v16 ho16.view (HM.out.below HB16.out))
      clear hb16 ho16 c0 c1 c2 P15 W15 G15 A15 HK15 HB15
      go_wp2_with fail
      refine HC.out.mono ?_
      rintro e w17 ⟨v17, rfl, ho17, hb17⟩
      have s17 := hb17.size
      have HB17 := Lib.hid (bth HB16.out hb17)
      have W17 := Lib.hid (W16.out.below hb17 (by omega))
      have G17 := Lib.hid (G16.out.below hb17 (by omega))
      have A17 := Lib.hid (bth A16.out hb17)
      have HK17 := Lib.hid (HK16.out.below hb17)
      have HV17 := Lib.hid ho17.view
      obtain ⟨i1, j1, i2, j2, i3, j3, rfl⟩ := ho17.slices
      obtain ⟨w18, hw18⟩ : ∃ w18, w18 = w17.alloc (.cells #[.slice i1 t.files.length j1, .slice i2 t.staged.length j2, .slice i3 t.gone.length j3] 29) := ⟨_, rfl⟩
      have hA18 : Below w17.heap.size w17 w18 := by rw [hw18]; exact (Below.refl w17.heap.size w17).alloc (Nat.le_refl _) _
      have I18 : Hid (Blk3 w18 w17.heap.size 29 (.slice i1 t.files.length j1) (.slice i2 t.staged.length j2) (.slice i3 t.gone.length j3)) := by rw [hw18]; exact Blk3.new
      have s18 : w18.heap.size = w17.heap.size + 1 := by rw [hw18]; simp
      have HB18 := Lib.hid (bth HB17.out hA18)
      have W18 := Lib.hid (W17.out.below hA18 (by omega))
      have G18 := Lib.hid (G17.out.below hA18 (by omega))
      have A18 := Lib.hid (bth A17.out hA18)
      have HK18 := Lib.hid (HK17.out.below hA18)
      have HV18 := Lib.hid (HV17.out.below hA18)
      have HW18 := Lib.hid hw18
      obtain ⟨c3, c4, c5⟩ := W17.out.cells
      clear hb17 ho17 hA18 hw18 W16 W17 G16 G17 A16 A17 HK16 HK17 HV17 HB16 HB17 HC
      have z17 : w3.heap.size < w17.heap.size := by omega
      go_wp2_with fail
      rw [← HW18.out]
      refine (HEQ.out w18 _ _ HV18.out (HV3.out.below A18.out)).mono ?_
      rintro e w19 ⟨rfl, hb19⟩
      have HB19 := Lib.hid (bth HB18.out hb19)
      have G19 := Lib.hid (G18.out.below hb19 (by omega))
      have HK19 := Lib.hid (HK18.out.below hb19)
      clear hb19 c3 c4 c5 W18 G18 A18 HK18 HV18 HB18 I18 HW18
      obtain ⟨c0, c1, c2⟩ := G19.out.cells
      go_wp2_with fail
      refine (HHT.out _ w19 HK19.out.view).mono ?_
      rintro e w20 ⟨rfl, hb20⟩
      have HB20 := Lib.hid (bth HB19.out hb20)
      clear hb20 c0 c1 c2
      go_wp2_with fail
      go_ret
      exact ⟨rfl, HB20.out⟩

end Go.Proofs.YtgcaplbeahjbmaaGreatDoor

/- What is staged, as mathematics. -/
namespace Go.Proofs.YtgcaplbeahjbmaaGreatDoor
open Go.RowKit Pth

def stFT (s : StoreT) (n b : List UInt8) : StoreT := if goodS s = true then tellT (stageFT s n b) else noStore
def stFB (s : StoreT) (n b : List UInt8) : Bool := goodS s && goodS (stageFT s n b)
def stGT (s : StoreT) (n : List UInt8) : StoreT := if goodS s = true then tellT (stageGT s n) else noStore
def stGB (s : StoreT) (n : List UInt8) : Bool := goodS s && goodS (stageGT s n)
theorem putF_mem {l : List FileT} {f g : FileT} (h : g ∈ putF l f) : g = f ∨ g ∈ l := mem_putF h
theorem putN_mem {l : List (List UInt8)} {n g : List UInt8} (h : g ∈ putN l n) : g = n ∨ g ∈ l := by
  induction l with
  | nil => simp [putN] at h; exact .inl h
  | cons x t ih =>
    unfold putN at h
    split at h
    · rcases List.mem_cons.1 h with rfl | h
      · exact .inr (by simp)
      · rcases ih h with h | h
        · exact .inl h
        · exact .inr (by simp [h])
    · split at h
      · exact .inr h
      · rcases List.mem_cons.1 h with h | h
        · exact .inl h
        · exact .inr h
theorem stageFT_fits {s : StoreT} {n b : List UInt8} (hx : Fits s) (hn : n.length ≤ maxLen) (hb : b.length ≤ maxLen) : Fits (stageFT s n b) :=
  ⟨hx.1, fun f hf => (putF_mem hf).elim (fun e => by rw [e]; exact ⟨hn, hb⟩) (fun h => hx.2.1 f h), fun m hm => hx.2.2 m ((List.mem_filter.1 hm).1)⟩
theorem stageGT_fits {s : StoreT} {n : List UInt8} (hx : Fits s) (hn : n.length ≤ maxLen) : Fits (stageGT s n) :=
  ⟨hx.1, fun f hf => hx.2.1 f ((List.mem_filter.1 hf).1), fun m hm => (putN_mem hm).elim (fun e => by rw [e]; exact hn) (fun h => hx.2.2 m h)⟩
theorem tell_small (s : StoreT) : (tellT s).files.length + (tellT s).staged.length + (tellT s).gone.length ≤ 1000 := by
  unfold tellT
  split
  · rename_i h
    obtain ⟨l1, l2, l3⟩ := good_sizes h
    omega
  · show 0 + 0 + 0 ≤ 1000
    omega
theorem stFT_small (s : StoreT) (n b : List UInt8) : (stFT s n b).files.length + (stFT s n b).staged.length + (stFT s n b).gone.length ≤ 1000 := by
  unfold stFT
  split
  · exact tell_small _
  · show 0 + 0 + 0 ≤ 1000
    omega
theorem stGT_small (s : StoreT) (n : List UInt8) : (stGT s n).files.length + (stGT s n).staged.length + (stGT s n).gone.length ≤ 1000 := by
  unfold stGT
  split
  · exact tell_small _
  · show 0 + 0 + 0 ≤ 1000
    omega

end Go.Proofs.YtgcaplbeahjbmaaGreatDoor
