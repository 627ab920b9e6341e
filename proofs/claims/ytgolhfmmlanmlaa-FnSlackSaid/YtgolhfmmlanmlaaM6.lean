/- Texts of one claim, joined in their order. -/
import Derived.Deep.CutBlock
import Derived.ArgAppend
import Derived.Laws.CopyOwn
import Derived.Test.YtgolhfmmlanmlaaM4

/- Walks: new graphs. -/
namespace Go.Proofs.Ytgolhfmmlanmlaa
open Go.RowKit Pth

/-- A graph of the call's own, and whether it is told. -/
def GraphOk (ls : List (List Int)) (l : List Int) (b : Bool) (w : World) (e : Ending) (w' : World) : Prop := ∃ v', e = .returned (.tuple #[v', .bool b]) ∧ GraphO w.heap.size w' v' ls l ∧ Below w.heap.size w w'
theorem GraphO.none (B : Nat) (w : World) : GraphO B w (.agg #[.slice none 0 0, .slice none 0 0]) [] [] :=
  ⟨_, _, [], rfl, rfl, ⟨rfl, .inl ⟨rfl, rfl⟩⟩, fun p hp => by
    simp only [List.zip_nil_left, List.nil_append, List.mem_singleton] at hp
    subst hp
    exact ⟨rfl, .inl ⟨rfl, rfl⟩⟩, by simp⟩

/-- What a new list's block holds. -/
theorem make_alloc {t e : TypeId} {z : Value} {bytes : Nat} (E : Elem t e z bytes) (hz : z.cells = #[z]) (n : Nat) (hn : n ≤ 2000000) :
    ∃ cs : Array Value, cs.toList = List.replicate n z ∧ ∀ w : World, (Instr.makeSlice t (.int .i64 (n : Int)) (.int .i64 (n : Int))).run Try.prog w = .ok (.slice (some ⟨w.heap.size, 0, none⟩) n n) (w.alloc (.cells cs e)) := by
  obtain ⟨i0, hi, hz0, hz1, hz2⟩ := info_parts E.info
  refine ⟨madeCells z.cells (n * i0.size), by rw [hz, hz1, Nat.mul_one, toList_madeCells_one], fun w => ?_⟩
  have hb : ((i0.bytes : Int)) * (n : Int) ≤ 281474976710656 := by
    have h : i0.bytes * n ≤ 281474976710656 := by rw [hz2]; exact Nat.le_trans (Nat.mul_le_mul E.small hn) (by decide)
    have h' : ((i0.bytes * n : Nat) : Int) ≤ 281474976710656 := by omega
    rwa [Int.natCast_mul] at h'
  have hr := run_make (P := Try.prog) w t e i0 z E.under hi hz0 .i64 .i64 n n (by omega) (Int.le_refl _) hb (by omega)
  simp only [Int.toNat_natCast] at hr
  exact hr
theorem own_of_heap {w : World} {B e n g : Nat} {cs : Array Value} {xs : List Value} (hh : w.heap[g]? = some (.cells cs e (0, 0))) (hg : B ≤ g) (hx : cs.toList = xs) (hl : xs.length = n) (hn : n ≤ maxLen) : w.ownsRow B e 1 (.slice (some ⟨g, 0, none⟩) n n) n xs := by
  subst hx
  have hs : cs.size = n := by rw [Array.length_toList] at hl; exact hl
  refine ⟨by rw [hl, Nat.mul_one], .inr ⟨g, n, cs, rfl, hg, hh, Nat.le_refl _, hn, by omega, ?_⟩⟩
  rw [Nat.mul_one, ← hl, List.take_length]

/-- Four blocks laid one behind the other. -/
theorem four_new (w : World) (A X Y Z : Array Value) (a x y z : TypeId) :
    let W := ((((w.alloc (.cells A a)).alloc (.cells X x)).alloc (.cells Y y)).alloc (.cells Z z)).drew
    W.heap[w.heap.size]? = some (.cells A a (0, 0)) ∧ W.heap[w.heap.size + 1]? = some (.cells X x (0, 0)) ∧ W.heap[w.heap.size + 1 + 1]? = some (.cells Y y (0, 0)) ∧ W.heap[w.heap.size + 1 + 1 + 1]? = some (.cells Z z (0, 0)) ∧ Below w.heap.size w W := by
  have e1 : (w.alloc (.cells A a)).heap.size = w.heap.size + 1 := by simp
  have e2 : ((w.alloc (.cells A a)).alloc (.cells X x)).heap.size = w.heap.size + 1 + 1 := by simp
  have e3 : (((w.alloc (.cells A a)).alloc (.cells X x)).alloc (.cells Y y)).heap.size = w.heap.size + 1 + 1 + 1 := by simp
  have h0 := heap_alloc_new w (.cells A a)
  have h1 := heap_alloc_new (w.alloc (.cells A a)) (.cells X x)
  have h2 := heap_alloc_new ((w.alloc (.cells A a)).alloc (.cells X x)) (.cells Y y)
  have h3 := heap_alloc_new (((w.alloc (.cells A a)).alloc (.cells X x)).alloc (.cells Y y)) (.cells Z z)
  rw [e1] at h1
  rw [e2] at h2
  rw [e3] at h3
  have o1 := Below.heap_alloc (w.alloc (.cells A a)) (.cells X x)
  have o2 := Below.heap_alloc ((w.alloc (.cells A a)).alloc (.cells X x)) (.cells Y y)
  have o3 := Below.heap_alloc (((w.alloc (.cells A a)).alloc (.cells X x)).alloc (.cells Y y)) (.cells Z z)
  refine ⟨?_, ?_, ?_, h3, ?_⟩
  · exact (o3 _ (by omega)).trans ((o2 _ (by omega)).trans ((o1 _ (by omega)).trans h0))
  · exact (o3 _ (by omega)).trans ((o2 _ (by omega)).trans h1)
  · exact (o3 _ (by omega)).trans h2
  · exact Below.drew (((((Below.refl w.heap.size w).alloc (Nat.le_refl _) _).alloc (by omega) _).alloc (by omega) _).alloc (by omega) _)

theorem own_setNe {w : World} {B e n : Nat} {v : Value} {xs : List Value} (h : w.ownsRow B e 1 v n xs) {p : Addr} (hp : v.ownBlock ≠ some p.block) (u : Value) : (w.setCell p u).ownsRow B e 1 v n xs := by
  refine ⟨h.1, ?_⟩
  rcases h.2 with h0 | ⟨g, cap, cur, hv, hg, hh, r⟩
  · exact .inl h0
  · exact .inr ⟨g, cap, cur, hv, hg, (Below.heap_setCell w p u g (fun e => hp (by rw [hv, ← e]; rfl))).trans hh, r⟩
theorem Blk2.setNe {w : World} {b t : Nat} {x y : Value} (h : Blk2 w b t x y) {p : Addr} (hp : b ≠ p.block) (u : Value) : Blk2 (w.setCell p u) b t x y := (Below.heap_setCell w p u b hp).trans h
/-- The blocks of a new graph. -/
structure NewAt (w : World) (csN csI : Array Value) (n b g1 g2 : Nat) (wx : World) : Prop where
  hb : w.heap.size < b
  hg1 : w.heap.size < g1
  hg2 : w.heap.size < g2
  res : Blk2 wx w.heap.size 26 (.slice none 0 0) (.slice none 0 0)
  blk : Blk2 wx b 26 (.slice (some ⟨g1, 0, none⟩) n n) (.slice (some ⟨g2, 0, none⟩) n n)
  needs : wx.heap[g1]? = some (.cells csN 24 (0, 0))
  order : wx.heap[g2]? = some (.cells csI 3 (0, 0))
  below : Below w.heap.size w wx
theorem blk_ne {w : World} {b t n B e : Nat} {x y : Value} {v : Value} {xs : List Value} (h : Blk2 w b t x y) (ho : w.ownsRow B e 1 v n xs) (he : e ≠ t) : ∀ k, v.ownBlock = some k → b ≠ k := by
  intro k hk hbk
  subst hbk
  rcases ho.2 with ⟨hv, _⟩ | ⟨g, cap, cur, hv, _, hg, _⟩
  · rw [hv] at hk; simp [Value.ownBlock] at hk
  · rw [hv] at hk
    simp only [Value.ownBlock, Option.some.injEq] at hk
    subst hk
    unfold Blk2 at h
    rw [h] at hg
    simp at hg
    exact he hg.2.symm
theorem Blk2.beside {w w' : World} {b t : Nat} {x y : Value} {r : Option Nat} (h : Blk2 w b t x y) (hg : w.grownBy w' r) (hr : r ≠ some b) : Blk2 w' b t x y := (hg.block b (lt_of_block h) (fun e => hr e.symm)).trans h
theorem nil_lists (B : Nat) (w : World) (n : Nat) : Lists B w ((List.replicate n (Value.slice none 0 0)).zip (List.replicate n [])) := by
  rw [List.zip_replicate']
  refine ⟨fun p hp => ?_, ?_⟩
  · rw [List.eq_of_mem_replicate hp]; exact ⟨rfl, .inl ⟨rfl, rfl⟩⟩
  · rw [List.pairwise_replicate]
    exact .inr (fun b h => by simp [Value.ownBlock] at h)
theorem Lists.more {B : Nat} {w : World} {L : List (Value × List Int)} {v : Value} {l : List Int} (h : Lists B w L) (hown : w.ownsRow B 3 1 v l.length (I l)) (ha : ∀ p ∈ L, Apart p (v, l)) : Lists B w (L ++ [(v, l)]) := by
  refine ⟨fun p hp => ?_, ?_⟩
  · rw [List.mem_append, List.mem_singleton] at hp
    rcases hp with hp | rfl
    · exact h.1 p hp
    · exact hown
  · rw [List.pairwise_append]
    refine ⟨h.2, by simp, fun p hp q hq => ?_⟩
    rw [List.mem_singleton] at hq
    subst hq
    exact ha p hp

set_option maxRecDepth 20000 in
set_option maxHeartbeats 2000000 in
theorem specNew_no (n : Int) (w : World) (h : ¬ (1 ≤ n ∧ n ≤ 10)) :
    Calls Try.prog 84 #[.int .i64 n] w (GraphOk [] [] false w) := by
  have e1 : (decide ((1 : Int) ≤ n) && decide (n ≤ 10)) = false := by
    rw [Bool.eq_false_iff]; intro h'; rw [Bool.and_eq_true, decide_eq_true_iff, decide_eq_true_iff] at h'; exact h h'
  have HI := fun W => l1In_any n 1 10 W
  rw [e1] at HI
  have HC := Lib.hid HI
  clear HI e1 h
  go_enter Try.func84, Try.ntmps84
  go_wp2_with fail
  refine (HC.out _).mono ?_
  rintro e w1 ⟨rfl, rfl⟩
  go_wp2_with fail
  refine bodyPost_ret (results_cell2 rfl rfl (load_store2 (x := .slice none 0 0) (y := .slice none 0 0) (by simp) (by simp))) rfl ?_
  exact ⟨_, rfl, GraphO.none _ _, (Below.refl w.heap.size w).alloc (Nat.le_refl _) _⟩

set_option maxRecDepth 20000 in
set_option maxHeartbeats 2000000 in
theorem specNew_yes (n : Nat) (w : World) (h1 : 1 ≤ n) (h2 : n ≤ 10) :
    Calls Try.prog 84 #[.int .i64 (n : Int)] w (GraphOk (List.replicate n []) (upto n) true w) := by
  have e1 : (decide ((1 : Int) ≤ (n : Int)) && decide ((n : Int) ≤ 10)) = true := by simp; omega
  have HI := fun W => l1In_any (n : Int) 1 10 W
  rw [e1] at HI
  have HC := Lib.hid HI
  obtain ⟨csN, hcN, mN⟩ := make_alloc elemN rfl n (by omega)
  have HCN := Lib.hid hcN
  clear HI e1 hcN
  go_enter Try.func84, Try.ntmps84
  go_wp2_with fail
  refine (HC.out _).mono ?_
  rintro e w1 ⟨rfl, rfl⟩
  go_wp2_with fail
  have h3 : Hid (Blk2 (((w.alloc (.cells #[.slice none 0 0, .slice none 0 0] 26)).alloc (.cells csN 24)).alloc (.cells #[.slice (some ⟨w.heap.size + 1, 0, none⟩) n n, .slice none 0 0] 26)) (w.heap.size + 1 + 1) 26 (.slice (some ⟨w.heap.size + 1, 0, none⟩) n n) (.slice none 0 0) ∧
      Blk2 (((w.alloc (.cells #[.slice none 0 0, .slice none 0 0] 26)).alloc (.cells csN 24)).alloc (.cells #[.slice (some ⟨w.heap.size + 1, 0, none⟩) n n, .slice none 0 0] 26)) w.heap.size 26 (.slice none 0 0) (.slice none 0 0) ∧
      (((w.alloc (.cells #[.slice none 0 0, .slice none 0 0] 26)).alloc (.cells csN 24)).alloc (.cells #[.slice (some ⟨w.heap.size + 1, 0, none⟩) n n, .slice none 0 0] 26)).ownsRow (w.heap.size + 1) 24 1 (.slice (some ⟨w.heap.size + 1, 0, none⟩) n n) n (List.replicate n (.slice none 0 0)) ∧
      Below w.heap.size w (((w.alloc (.cells #[.slice none 0 0, .slice none 0 0] 26)).alloc (.cells csN 24)).alloc (.cells #[.slice (some ⟨w.heap.size + 1, 0, none⟩) n n, .slice none 0 0] 26))) := by
    obtain ⟨k0, k1, k2, k3, kb⟩ := four_new w #[.slice none 0 0, .slice none 0 0] csN #[.slice (some ⟨w.heap.size + 1, 0, none⟩) n n, .slice none 0 0] #[] 26 24 26 0
    have e3 : (((w.alloc (.cells #[.slice none 0 0, .slice none 0 0] 26)).alloc (.cells csN 24)).alloc (.cells #[.slice (some ⟨w.heap.size + 1, 0, none⟩) n n, .slice none 0 0] 26)).heap.size = w.heap.size + 1 + 1 + 1 := by simp
    have o3 := Below.heap_alloc (((w.alloc (.cells #[.slice none 0 0, .slice none 0 0] 26)).alloc (.cells csN 24)).alloc (.cells #[.slice (some ⟨w.heap.size + 1, 0, none⟩) n n, .slice none 0 0] 26)) (.cells #[] 0)
    refine ⟨(o3 _ (by omega)).symm.trans k2, (o3 _ (by omega)).symm.trans k0, own_of_heap ((o3 _ (by omega)).symm.trans k1) (Nat.le_refl _) HCN.out (by simp) (by unfold maxLen; omega), ?_⟩
    exact (((Below.refl w.heap.size w).alloc (Nat.le_refl _) _).alloc (by simp) _).alloc (by simp; omega) _
  have e3 : w.heap.size + 1 + 1 + 1 ≤ (((w.alloc (.cells #[.slice none 0 0, .slice none 0 0] 26)).alloc (.cells csN 24)).alloc (.cells #[.slice (some ⟨w.heap.size + 1, 0, none⟩) n n, .slice none 0 0] 26)).heap.size := by simp
  clear mN HCN HC
  generalize (((w.alloc (.cells #[.slice none 0 0, .slice none 0 0] 26)).alloc (.cells csN 24)).alloc (.cells #[.slice (some ⟨w.heap.size + 1, 0, none⟩) n n, .slice none 0 0] 26)) = wb at *
  go_loopw [5] (fun i wr => ∃ (k : Nat) (qv : Value), k ≤ n ∧ i = .int .i64 k ∧ Hid (wr.ownsRow (w.heap.size + 1 + 1 + 1) 3 1 qv (upto k).length (I (upto k))) ∧ Hid (wr.ownsRow (w.heap.size + 1) 24 1 (.slice (some ⟨w.heap.size + 1, 0, none⟩) n n) n (List.replicate n (.slice none 0 0))) ∧ Hid (Blk2 wr (w.heap.size + 1 + 1) 26 (.slice (some ⟨w.heap.size + 1, 0, none⟩) n n) qv) ∧ Hid (Blk2 wr w.heap.size 26 (.slice none 0 0) (.slice none 0 0)) ∧ Hid (Below w.heap.size w wr) ∧ w.heap.size + 1 + 1 + 1 ≤ wr.heap.size) (fun i _ => n - (intOf i).toNat)
  case atStart => exact ⟨0, _, Nat.zero_le _, rfl, none_ownZ _ _ _, h3.out.2.2.1, h3.out.1, h3.out.2.1, h3.out.2.2.2, e3⟩
  case round =>
    clear h3 e3
    obtain ⟨k, qv, hk, rfl, HO, HR, HP, HQ, HB, hz⟩ := hrel
    obtain ⟨qa, qc, rfl⟩ := own_slice HO.out
    rw [upto_len] at HO HP
    have p0 := HP.out.cells.1
    have p1 := HP.out.cells.2
    by_cases hlt : k < n
    · have HNA : Hid (wr.ownsRow (w.heap.size + 1 + 1 + 1) 3 1 (.slice qa k qc) (I (upto k)).length (I (upto k))) := by rw [I_len, upto_len]; exact HO.out
      have hIl : (I (upto k)).length ≤ 1000000 := by rw [I_len, upto_len]; omega
      have hq : ∀ i, (Value.slice qa k qc).ownBlock = some i → w.heap.size + 1 + 1 + 1 ≤ i := fun i hi => (HO.out.lt i hi).1
      have HQB := Lib.hid hq
      have HUS := Lib.hid (upto_succ k)
      clear HO hq
      go_wp2_with (at_builtin; refine wpAppOne elemI rfl _ _ rfl (w.heap.size + 1 + 1 + 1) _ (I (upto k)) rfl HNA.out _ rfl rfl rfl hIl hz ?_; intro v7 w7 hown7 hg7; have HO7 := Lib.hid (own_Z2 hown7); have HP7 := Lib.hid (HP.out.beside hg7 (fun e => by have := HQB.out _ e; omega)); have HQ7 := Lib.hid (HQ.out.beside hg7 (fun e => by have := HQB.out _ e; omega)); have HR7 := Lib.hid (own_apartI HR.out hg7 (fun i hi hi' => by have h1 := HQB.out _ hi; have h2 : w.heap.size + 1 = i := Option.some.inj hi'; omega)); have HB7 := Lib.hid (HB.out.trans ((Below.refl w.heap.size wr).grown hg7 HB.out.size (fun i hi => by have := HQB.out _ hi; omega))); have hz7 := Nat.le_trans hz hg7.size; obtain ⟨ya, yc, rfl⟩ := own_slice HO7.out; rw [← HUS.out] at HO7; have r1 := HP7.out.cells.2; have f1 := HP7.out.soft 1; clear hown7 hg7)
      have HO9 : Hid (w7.ownsRow (w.heap.size + 1 + 1 + 1) 3 1 (.slice ya ((upto k).length + 1) yc) (upto (k + 1)).length (I (upto (k + 1)))) := by
        have h := HO7.out
        have hle : (upto (k + 1)).length = (upto k).length + 1 := by rw [upto_len, upto_len]
        rw [hle] at h ⊢
        exact h
      have HO8 := Lib.hid (own_setI HO9.out (p := ⟨w.heap.size + 1 + 1, 1, none⟩) (Nat.lt_succ_self _) (.slice ya ((upto k).length + 1) yc))
      have HR8 := Lib.hid (own_setNe HR7.out (p := ⟨w.heap.size + 1 + 1, 1, none⟩) (fun e => by have h2 : w.heap.size + 1 = w.heap.size + 1 + 1 := Option.some.inj e; omega) (.slice ya ((upto k).length + 1) yc))
      have HP8 := Lib.hid (HP7.out.set1 (.slice ya ((upto k).length + 1) yc))
      have HQ8 := Lib.hid (HQ7.out.setNe (p := ⟨w.heap.size + 1 + 1, 1, none⟩) (by show w.heap.size ≠ w.heap.size + 1 + 1; omega) (.slice ya ((upto k).length + 1) yc))
      have HB8 := Lib.hid (HB7.out.setCell (p := ⟨w.heap.size + 1 + 1, 1, none⟩) (by show w.heap.size ≤ w.heap.size + 1 + 1; omega) (.slice ya ((upto k).length + 1) yc))
      have hz8 : w.heap.size + 1 + 1 + 1 ≤ (w7.setCell ⟨w.heap.size + 1 + 1, 1, none⟩ (.slice ya ((upto k).length + 1) yc)).heap.size := by simpa using hz7
      go_roundw
      case rel => exact ⟨k + 1, _, by omega, by go_num, HO8, HR8, HP8, HQ8, HB8, hz8⟩
      case measure => simp [intOf]; omega
    · obtain rfl : k = n := by omega
      have q0 := HQ.out.cells.1
      have q1 := HQ.out.cells.2
      have f0 := HQ.out.soft 0
      have f1 := HQ.out.soft 1
      have HZ := Lib.hid ((HQ.out.set0 (.slice (some ⟨w.heap.size + 1, 0, none⟩) k k)).set1 (.slice qa k qc))
      go_wp2_with fail
      refine bodyPost_ret (results_cell2 rfl rfl (load_store2 HZ.out.cells.1 HZ.out.cells.2)) rfl ?_
      have hz : w.heap.size < w.heap.size + 1 := Nat.lt_succ_self _
      have r1 := own_setI (own_setI HR.out (p := ⟨w.heap.size, 0, none⟩) hz (.slice (some ⟨w.heap.size + 1, 0, none⟩) k k)) (p := ⟨w.heap.size, 1, none⟩) hz (.slice qa k qc)
      have r2 := own_setI (own_setI HO.out (p := ⟨w.heap.size, 0, none⟩) (by show w.heap.size < w.heap.size + 1 + 1 + 1; omega) (.slice (some ⟨w.heap.size + 1, 0, none⟩) k k)) (p := ⟨w.heap.size, 1, none⟩) (by show w.heap.size < w.heap.size + 1 + 1 + 1; omega) (.slice qa k qc)
      refine ⟨_, rfl, ⟨_, _, List.replicate k (.slice none 0 0), rfl, by simp, by rw [List.length_replicate]; exact own_base r1 (Nat.le_succ _), (nil_lists _ _ k).more (by rw [upto_len]; exact own_base r2 (by omega)) (fun p hp i hi => ?_)⟩, (HB.out.setCell (p := ⟨w.heap.size, 0, none⟩) (Nat.le_refl _) _).setCell (p := ⟨w.heap.size, 1, none⟩) (Nat.le_refl _) _⟩
      rw [List.zip_replicate'] at hp
      rw [List.eq_of_mem_replicate hp] at hi
      simp [Value.ownBlock] at hi
end Go.Proofs.Ytgolhfmmlanmlaa

/- A queue of numbers in memory of the call's own: cut at its front, put behind. -/
namespace Go.Proofs.Ytgolhfmmlanmlaa
open Go.RowKit Pth

/-- A queue in block g. -/
structure OwnQ (B g : Nat) (w : World) (v : Value) (xs : List Int) : Prop where
  hB : B ≤ g
  lies : ∃ o cap cur, v = .slice (some ⟨g, o, none⟩) xs.length cap ∧ w.heap[g]? = some (.cells cur 3 (0, 0)) ∧ xs.length ≤ cap ∧ cap ≤ maxLen ∧ o + cap ≤ cur.size ∧ ∀ j (hj : j < xs.length), w.cell? ⟨g, o + j, none⟩ = some (.int .i64 xs[j])
theorem OwnQ.row {B g : Nat} {w : World} {v : Value} {xs : List Int} (h : OwnQ B g w v xs) : RowV w v (I xs) := by
  obtain ⟨o, cap, cur, hv, hh, h1, h2, h3, hc⟩ := h.lies
  refine ⟨_, cap, by rw [hv, I_len], by rw [I_len]; exact h1, h2, fun k hk => ⟨g, o, rfl, lt_of_block hh, ?_⟩⟩
  rw [I_len] at hk
  rw [hc k hk]
  simp [I]
theorem OwnQ.keep {B g : Nat} {w w' : World} {v : Value} {xs : List Int} (h : OwnQ B g w v xs) (hg : w'.heap[g]? = w.heap[g]?) : OwnQ B g w' v xs := by
  obtain ⟨o, cap, cur, hv, hh, h1, h2, h3, hc⟩ := h.lies
  have hh' := hg.trans hh
  refine ⟨h.hB, o, cap, cur, hv, hh', h1, h2, h3, fun j hj => ?_⟩
  have := hc j hj
  rw [cell_of_row w g (o + j) cur _ (0, 0) hh] at this
  rw [cell_of_row w' g (o + j) cur _ (0, 0) hh']
  exact this
theorem OwnQ.lt {B g : Nat} {w : World} {v : Value} {xs : List Int} (h : OwnQ B g w v xs) : g < w.heap.size := by
  obtain ⟨o, cap, cur, hv, hh, _⟩ := h.lies
  exact lt_of_block hh
theorem OwnQ.below {B g : Nat} {w w' : World} {v : Value} {xs : List Int} (h : OwnQ B g w v xs) (hb : Below w.heap.size w w') : OwnQ B g w' v xs := h.keep (hb.block g h.lt)
/-- Without its first. -/
theorem OwnQ.pop {B g : Nat} {w : World} {v : Value} {x : Int} {xs : List Int} (h : OwnQ B g w v (x :: xs)) :
    ∃ a cap v', v = .slice a (xs.length + 1) cap ∧ (∀ W, (Instr.slice 24 (.slice a (xs.length + 1) cap) (some (.int .i64 1)) none none).run Try.prog W = .ok v' W) ∧ OwnQ B g w v' xs := by
  obtain ⟨o, cap, cur, hv, hh, h1, h2, h3, hc⟩ := h.lies
  rw [List.length_cons] at hv h1
  refine ⟨_, cap, _, hv, fun W => run_cutI (some ⟨g, o, none⟩) (xs.length + 1) cap 1 (by omega) h1 W, h.hB, ?_⟩
  have rest : ∀ j (hj : j < xs.length), w.cell? ⟨g, o + 1 + j, none⟩ = some (.int .i64 xs[j]) := by
    intro j hj
    have := hc (j + 1) (by simp; omega)
    rw [show o + 1 + j = o + (j + 1) by omega, this]
    simp
  by_cases hcap : cap = 1
  · refine ⟨o, 0, cur, ?_, hh, by omega, by unfold maxLen; omega, by omega, fun j hj => by omega⟩
    have : xs.length = 0 := by omega
    rw [if_pos hcap, hcap, this]
  · refine ⟨o + 1, cap - 1, cur, ?_, hh, by omega, by omega, by omega, rest⟩
    rw [if_neg hcap]
    simp [add_addr]
/-- One put behind. -/
theorem OwnQ.push {B g : Nat} {w : World} {v : Value} {xs : List Int} (h : OwnQ B g w v xs) (k : Int) (hl : xs.length ≤ 1000) (ty : TypeId) :
    ∃ v' w' g', (Builtin.append_ #[24, 24] ty #[v, .slice (some ⟨w.heap.size, 0, none⟩) 1 1]).run Try.prog (w.alloc (.cells #[.int .i64 k] 3)) = .ok v' w' ∧ OwnQ B g' w' v' (xs ++ [k]) ∧ w.grownBy w' (some g) ∧ (g' = g ∨ w.heap.size < g') := by
  obtain ⟨i0, hi, hz0, hz1, hz2⟩ := info_parts elemI.info
  have hgs := h.lt
  obtain ⟨o, cap, cur, hv, hh, h1, h2, h3, hc⟩ := h.lies
  have hB := h.hB
  subst hv
  have hnews : ∀ j u, [Value.int .i64 k][j]? = some u → (w.alloc (.cells #[.int .i64 k] 3)).cell? ((⟨w.heap.size, 0, none⟩ : Addr).add j) = some u := one_new w _ _
  have hone : ∀ u ∈ [Value.int .i64 k], u.oneCell' = true := by intro u hu; simp at hu; subst hu; rfl
  have hha : (w.alloc (.cells #[.int .i64 k] 3)).heap[g]? = some (.cells cur 3 (0, 0)) := (Below.heap_alloc w _ g hgs).trans hh
  have hca : ∀ j (hj : j < xs.length), (w.alloc (.cells #[.int .i64 k] 3)).cell? ⟨g, o + j, none⟩ = some (.int .i64 xs[j]) := fun j hj => (World.cell?_alloc_lt w _ _ hgs).trans (hc j hj)
  by_cases hroom : xs.length + 1 ≤ cap
  · have hr := run_append_room_cells (P := Try.prog) (w.alloc (.cells #[.int .i64 k] 3)) 24 ty 3 i0 elemI.under hi g o xs.length cap ⟨w.heap.size, 0, none⟩ 1 1 [.int .i64 k] (by rw [hz1]; rfl) hnews hone hroom
      (fun j hj => by
        have : j = 0 := by simp at hj; omega
        subst this
        rw [hz1, Nat.mul_one, Nat.add_zero, cell_of_row _ g _ cur _ (0, 0) hha, Array.getElem?_eq_getElem (by omega)]; rfl)
      (fun j hj => frozen_of_row _ g _ cur _ hha)
    have e1 : (w.alloc (.cells #[.int .i64 k] 3)).setCells g (o + xs.length * i0.size) [.int .i64 k] = (w.alloc (.cells #[.int .i64 k] 3)).setCell ⟨g, o + xs.length, none⟩ (.int .i64 k) := by rw [hz1, Nat.mul_one]; rfl
    rw [e1] at hr
    have hset := heap_setCell_same (w.alloc (.cells #[.int .i64 k] 3)) g (o + xs.length) cur 3 (.int .i64 k) hha
    refine ⟨_, _, g, hr, ⟨hB, o, cap, _, by rw [List.length_append]; rfl, hset, by simp; omega, h2, by simpa using h3, fun j hj => ?_⟩, ⟨rfl, rfl, rfl, by simp, fun i hi hne => ?_⟩, .inl rfl⟩
    · rw [cell_of_row _ g _ _ _ (0, 0) hset]
      rw [List.length_append, List.length_singleton] at hj
      by_cases hjl : j < xs.length
      · have := hca j hjl
        rw [cell_of_row _ g _ cur _ (0, 0) hha] at this
        rw [List.getElem_append_left hjl, ← this]
        rw [Array.getElem?_setIfInBounds_ne (by omega)]
      · have hje : j = xs.length := by omega
        subst hje
        rw [Array.getElem?_setIfInBounds_self_of_lt (by omega)]
        simp
    · rw [Below.heap_setCell _ _ _ _ (fun e => hne (by rw [e]))]
      exact Below.heap_alloc w _ i hi
  · obtain ⟨v', w', hr, hown, hg⟩ := run_append_arg_grows (P := Try.prog) (w.alloc (.cells #[.int .i64 k] 3)) 24 ty 3 i0 (.int .i64 0) 1 8 elemI.under hi hz0 hz1 hz2 rfl (by decide) ⟨g, o, none⟩ xs.length cap (I xs) (by rw [I_len, Nat.mul_one])
      (fun j u hj => by
        obtain ⟨hj1, hj2⟩ := List.getElem?_eq_some_iff.1 hj
        rw [I_len] at hj1
        rw [add_addr, hca j hj1, ← hj2, I_get hj1])
      ⟨w.heap.size, 0, none⟩ 1 1 [.int .i64 k] rfl hnews (by omega) (by unfold maxLen; omega) (by omega)
    have hcat : I xs ++ [Value.int .i64 k] = I (xs ++ [k]) := by rw [I_append]; rfl
    rw [hcat] at hown
    rcases hown.2 with ⟨_, h0⟩ | ⟨g', cap', cur', hv', hBg, hh', hn', hm', hs', ht'⟩
    · omega
    · have hsz : w.heap.size < g' := by simp at hBg; omega
      refine ⟨v', w', g', hr, ⟨by omega, 0, cap', cur', by rw [hv', List.length_append]; rfl, hh', by rw [List.length_append]; exact hn', hm', by omega, fun j hj => ?_⟩, ⟨hg.os, hg.tape, hg.output, Nat.le_trans (by simp) hg.size, fun i hi hne => (hg.block i (by simp; omega) (by simp)).trans (Below.heap_alloc w _ i hi)⟩, .inr hsz⟩
      subst hv'
      have := hown.cellAt j (by rw [List.length_append] at hj; simpa using hj)
      rw [Nat.zero_add, this, List.getElem?_eq_getElem (by rw [I_len]; exact hj), I_get hj]
end Go.Proofs.Ytgolhfmmlanmlaa

/- Walks: copies of graphs. -/
namespace Go.Proofs.Ytgolhfmmlanmlaa
open Go.RowKit Pth

/-- All of a list copied into a new one. -/
theorem copy_all (l : List Int) (a : Option Addr) (cap : Nat) (W : World) (g : Nat) (cs : Array Value) (hrow : RowV W (.slice a l.length cap) (I l)) (hg : W.heap[g]? = some (.cells cs 3 (0, 0))) (hcs : cs.size = l.length) (hl : l.length ≤ 2000000) (B : Nat) (hB : B ≤ g) (_hBW : B ≤ W.heap.size) :
    ∃ W', (∀ ty, (Builtin.copy_ #[24, 24] ty #[.slice (some ⟨g, 0, none⟩) l.length l.length, .slice a l.length cap]).run Try.prog W = .ok (goInt l.length) W') ∧ W'.ownsRow B 3 1 (.slice (some ⟨g, 0, none⟩) l.length l.length) l.length (I l) ∧ W.grownBy W' (some g) := by
  obtain ⟨a', c', he, h1, h2, hat⟩ := hrow.ints
  injection he with he1 _ he3
  subst he1 he3
  by_cases h0 : l.length = 0
  · have hl0 : l = [] := List.eq_nil_of_length_eq_zero h0
    subst hl0
    refine ⟨W, fun ty => run_copy_none (P := Try.prog) W 24 24 ty 3 _ _ _ _ _ _ Try.underlying24 (by kernel_rfl) rfl, ?_, grown_refl _ _⟩
    exact own_of_heap hg hB (by have : cs.size = 0 := hcs; rw [Array.eq_empty_of_size_eq_zero this]; rfl) rfl (by unfold maxLen; omega)
  · obtain ⟨g0, o0, rfl, hg0, _⟩ := hat 0 (by omega)
    have hsrc : ∀ j u, (I l)[j]? = some u → W.cell? ((⟨g0, o0, none⟩ : Addr).add j) = some u := by
      intro j u hj
      obtain ⟨hj1, hj2⟩ := List.getElem?_eq_some_iff.1 hj
      rw [I_len] at hj1
      obtain ⟨g', o', he, hg', hc⟩ := hat j hj1
      obtain ⟨rfl, rfl⟩ := addr_inj he
      rw [add_addr, hc, ← hj2, I_get hj1]
    have hrun := fun ty => run_copy_row (P := Try.prog) W 24 24 ty 3 g 0 l.length l.length ⟨g0, o0, none⟩ l.length cap cs 3 (I l) Try.underlying24 (by kernel_rfl) hg (by rw [I_len]; simp) hsrc (by rw [I_len, hcs]; omega) (I_one l)
    rw [I_len] at hrun
    refine ⟨_, hrun, ?_, ?_⟩
    · have hn := setRow_heap W g _ (cs.toList.take 0 ++ I l ++ cs.toList.drop (0 + l.length)).toArray _ _ hg
      have he : (cs.toList.take 0 ++ I l ++ cs.toList.drop (0 + l.length)) = I l := by
        rw [List.take_zero, List.nil_append, List.drop_of_length_le (by rw [Array.length_toList]; omega), List.append_nil]
      rw [he] at hn ⊢
      exact own_of_heap hn hB (by simp) (I_len l) (by unfold maxLen; omega)
    · exact ⟨rfl, rfl, rfl, by simp [World.setRow], fun k _ hk => setRow_other W g k _ (fun e => hk (by rw [e]))⟩

set_option maxRecDepth 20000 in
set_option maxHeartbeats 2000000 in
theorem ownTasks_any (l : List Int) (v : Value) (w : World) (hrow : RowV w v (I l)) (hl : l.length ≤ 2000000) :
    Calls Try.prog 52 #[v] w (IntsPost w.heap.size l w) := by
  obtain ⟨a, cap, rfl, hc1, hc2, _⟩ := hrow.ints
  unfold maxLen at hc2
  obtain ⟨cs, hcs, mI⟩ := make_alloc elemI rfl l.length hl
  obtain ⟨w7, hrun, hown, hg⟩ := copy_all l a cap (w.alloc (.cells cs 3)) w.heap.size cs (hrow.alloc _) (heap_alloc_new w _) (by rw [← Array.length_toList, hcs]; simp) hl w.heap.size (Nat.le_refl _) (by simp)
  have HO := Lib.hid hown
  have HB : Hid (Below w.heap.size w w7) := ((Below.refl w.heap.size w).alloc (Nat.le_refl _) _).trans (only_below hg (Nat.le_refl _) (by simp))
  clear hown hg hcs hrow
  go_enter Try.func52, Try.ntmps52
  go_wp2_with fail
  go_ret
  exact ⟨_, rfl, HO.out, HB.out⟩
end Go.Proofs.Ytgolhfmmlanmlaa

/- Walks: copies of graphs. -/
namespace Go.Proofs.Ytgolhfmmlanmlaa
open Go.RowKit Pth

/-- Both cells of the argument are read as they were. -/
def Arg2 (w : World) (S : Nat) (x y : Value) : Prop := w.cell? ⟨S, 0, none⟩ = some x ∧ w.cell? ⟨S, 1, none⟩ = some y
theorem Arg2.alloc {w : World} {S : Nat} {x y : Value} (h : Arg2 w S x y) (o : Obj) : Arg2 (w.alloc o) S x y :=
  ⟨(World.cell?_alloc_lt _ _ _ (World.block_lt_of_cell? _ _ h.1)).trans h.1, (World.cell?_alloc_lt _ _ _ (World.block_lt_of_cell? _ _ h.2)).trans h.2⟩
theorem Arg2.below {w w' : World} {S : Nat} {x y : Value} (h : Arg2 w S x y) (hb : Below w.heap.size w w') : Arg2 w' S x y :=
  ⟨(hb.cell (World.block_lt_of_cell? _ _ h.1)).trans h.1, (hb.cell (World.block_lt_of_cell? _ _ h.2)).trans h.2⟩

theorem Arg2.set2 {w : World} {S b : Nat} {x y : Value} (h : Arg2 w S x y) (hne : b ≠ S) (u u' : Value) : Arg2 ((w.setCell ⟨b, 0, none⟩ u).setCell ⟨b, 1, none⟩ u') S x y := by
  have one : ∀ {W : World} {p q : Addr} {z v : Value}, W.cell? q = some z → p.block ≠ q.block → (W.setCell p v).cell? q = some z := by
    intro W p q z v hq hpq
    exact (World.cell?_setCell_far W p q v hpq).trans hq
  exact ⟨one (one h.1 hne) hne, one (one h.2 hne) hne⟩
theorem ka {w : World} {S : Nat} {x y : Value} (h : (w.cell? ⟨S, 0, none⟩ = some x ∧ w.cell? ⟨S, 1, none⟩ = some y)) (o : Obj) : ((w.alloc o).cell? ⟨S, 0, none⟩ = some x ∧ (w.alloc o).cell? ⟨S, 1, none⟩ = some y) := Arg2.alloc h o
theorem kst {w : World} {S b : Nat} {x y : Value} (h : (w.cell? ⟨S, 0, none⟩ = some x ∧ w.cell? ⟨S, 1, none⟩ = some y)) (hne : b ≠ S) (u u' : Value) : (((w.setCell ⟨b, 0, none⟩ u).setCell ⟨b, 1, none⟩ u').cell? ⟨S, 0, none⟩ = some x ∧ ((w.setCell ⟨b, 0, none⟩ u).setCell ⟨b, 1, none⟩ u').cell? ⟨S, 1, none⟩ = some y) := Arg2.set2 h hne u u'
theorem kb {w w' : World} {S : Nat} {x y : Value} (h : (w.cell? ⟨S, 0, none⟩ = some x ∧ w.cell? ⟨S, 1, none⟩ = some y)) (hb : Below w.heap.size w w') : (w'.cell? ⟨S, 0, none⟩ = some x ∧ w'.cell? ⟨S, 1, none⟩ = some y) := Arg2.below h hb
theorem undrew {B : Nat} {X w5 : World} (hb : Below B X.drew w5) : Below B X w5 := ⟨hb.os, hb.tape, hb.output, hb.size, hb.block⟩
/-- What a block of two cells lets one do, there and behind another new block. -/
theorem Blk2.all {w : World} {b t : Nat} {x y : Value} (h : Blk2 w b t x y) (o : Obj) : (w.cell? ⟨b, 0, none⟩ = some x ∧ w.cell? ⟨b, 1, none⟩ = some y ∧ w.frozen? ⟨b, 0, none⟩ = false ∧ w.frozen? ⟨b, 1, none⟩ = false ∧ b < w.heap.size) ∧ ((w.alloc o).cell? ⟨b, 0, none⟩ = some x ∧ (w.alloc o).cell? ⟨b, 1, none⟩ = some y ∧ (w.alloc o).frozen? ⟨b, 0, none⟩ = false ∧ (w.alloc o).frozen? ⟨b, 1, none⟩ = false) :=
  ⟨⟨h.cells.1, h.cells.2, h.soft 0, h.soft 1, lt_of_block h⟩, (h.old o).cells.1, (h.old o).cells.2, (h.old o).soft 0, (h.old o).soft 1⟩

theorem zk1 {P : Prop} {W w5 : World} {x y : Value} {t S : Nat} (hb5 : Below (W.alloc (.cells #[x, y] t)).drew.heap.size (W.alloc (.cells #[x, y] t)) w5) (hS : W.heap.size = S) (o' : Obj) (k : (w5.cell? ⟨S, 0, none⟩ = some x → w5.cell? ⟨S, 1, none⟩ = some y → w5.frozen? ⟨S, 0, none⟩ = false → w5.frozen? ⟨S, 1, none⟩ = false → S < w5.heap.size → (w5.alloc o').cell? ⟨S, 0, none⟩ = some x → (w5.alloc o').cell? ⟨S, 1, none⟩ = some y → (w5.alloc o').frozen? ⟨S, 0, none⟩ = false → (w5.alloc o').frozen? ⟨S, 1, none⟩ = false → (∀ v, (w5.setCell ⟨S, 0, none⟩ v).cell? ⟨S, 1, none⟩ = some y) → (∀ v, (w5.setCell ⟨S, 0, none⟩ v).frozen? ⟨S, 1, none⟩ = false) → (∀ v, ((w5.alloc o').setCell ⟨S, 0, none⟩ v).cell? ⟨S, 1, none⟩ = some y) → (∀ v, ((w5.alloc o').setCell ⟨S, 0, none⟩ v).frozen? ⟨S, 1, none⟩ = false) → P)) : P := by
  have z : Blk2 w5 S t x y := by subst hS; exact Blk2.new.below hb5 (by show _ < (W.alloc (.cells #[x, y] t)).heap.size; simp)
  obtain ⟨⟨y0, y1, y2, y3, y4⟩, y5, y6, y7, y8⟩ := z.all o'
  exact k y0 y1 y2 y3 y4 y5 y6 y7 y8 (fun v => (z.set0 v).cells.2) (fun v => (z.set0 v).soft 1) (fun v => ((z.old o').set0 v).cells.2) (fun v => ((z.old o').set0 v).soft 1)
theorem zk2 {P : Prop} {W w5 : World} {x y : Value} {t S : Nat} {o : Obj} (hb5 : Below ((W.alloc (.cells #[x, y] t)).alloc o).drew.heap.size ((W.alloc (.cells #[x, y] t)).alloc o) w5) (hS : W.heap.size = S) (o' : Obj) (k : (w5.cell? ⟨S, 0, none⟩ = some x → w5.cell? ⟨S, 1, none⟩ = some y → w5.frozen? ⟨S, 0, none⟩ = false → w5.frozen? ⟨S, 1, none⟩ = false → S < w5.heap.size → (w5.alloc o').cell? ⟨S, 0, none⟩ = some x → (w5.alloc o').cell? ⟨S, 1, none⟩ = some y → (w5.alloc o').frozen? ⟨S, 0, none⟩ = false → (w5.alloc o').frozen? ⟨S, 1, none⟩ = false → (∀ v, (w5.setCell ⟨S, 0, none⟩ v).cell? ⟨S, 1, none⟩ = some y) → (∀ v, (w5.setCell ⟨S, 0, none⟩ v).frozen? ⟨S, 1, none⟩ = false) → (∀ v, ((w5.alloc o').setCell ⟨S, 0, none⟩ v).cell? ⟨S, 1, none⟩ = some y) → (∀ v, ((w5.alloc o').setCell ⟨S, 0, none⟩ v).frozen? ⟨S, 1, none⟩ = false) → P)) : P := by
  have z : Blk2 w5 S t x y := by subst hS; exact (Blk2.new.old _).below hb5 (by show _ < ((W.alloc (.cells #[x, y] t)).alloc o).heap.size; simp; omega)
  obtain ⟨⟨y0, y1, y2, y3, y4⟩, y5, y6, y7, y8⟩ := z.all o'
  exact k y0 y1 y2 y3 y4 y5 y6 y7 y8 (fun v => (z.set0 v).cells.2) (fun v => (z.set0 v).soft 1) (fun v => ((z.old o').set0 v).cells.2) (fun v => ((z.old o').set0 v).soft 1)

/-- The blocks of a copy that is begun. -/
structure OwnAt (W0 : World) (csN : Array Value) (n : Nat) (l : List Int) (b g1 : Nat) (qv : Value) (wx : World) : Prop where
  hb : W0.heap.size ≤ b
  hg1 : W0.heap.size ≤ g1
  blk : Blk2 wx b 26 (.slice (some ⟨g1, 0, none⟩) n n) qv
  needs : wx.heap[g1]? = some (.cells csN 24 (0, 0))
  order : wx.ownsRow W0.heap.size 3 1 qv l.length (I l)
  below : Below W0.heap.size W0 wx
theorem ownAt1 {W0 w5 : World} {csN : Array Value} {n : Nat} {l : List Int} {qv : Value} (hu5 : Below (W0.alloc (.cells csN 24)).drew.heap.size (W0.alloc (.cells csN 24)) w5) (ho5 : w5.ownsRow (W0.alloc (.cells csN 24)).drew.heap.size 3 1 qv l.length (I l)) :
    OwnAt W0 csN n l w5.heap.size W0.heap.size qv (w5.alloc (.cells #[.slice (some ⟨W0.heap.size, 0, none⟩) n n, qv] 26)) := by
  have e : (W0.alloc (.cells csN 24)).drew.heap.size = W0.heap.size + 1 := by show (W0.alloc (.cells csN 24)).heap.size = _; simp
  rw [e] at hu5 ho5
  have s5 := hu5.size
  have s5' : W0.heap.size + 1 ≤ w5.heap.size := by simpa using s5
  have k1 : w5.heap[W0.heap.size]? = some (.cells csN 24 (0, 0)) := (hu5.block _ (by omega)).trans (heap_alloc_new W0 _)
  exact ⟨by omega, Nat.le_refl _, Blk2.new, (Below.heap_alloc w5 _ _ (by omega)).trans k1, own_base (ho5.alloc _) (by omega), ((((Below.refl W0.heap.size W0).alloc (Nat.le_refl _) _).trans (hu5.mono (by omega)))).alloc (by omega) _⟩
theorem ownAt2 {W0 w5 : World} {csN : Array Value} {n : Nat} {l : List Int} {qv : Value} (hu5 : Below ((W0.alloc (.cells csN 24)).alloc (.cells #[.slice none 0 0, .slice none 0 0] 26)).drew.heap.size ((W0.alloc (.cells csN 24)).alloc (.cells #[.slice none 0 0, .slice none 0 0] 26)) w5) (ho5 : w5.ownsRow ((W0.alloc (.cells csN 24)).alloc (.cells #[.slice none 0 0, .slice none 0 0] 26)).drew.heap.size 3 1 qv l.length (I l)) :
    OwnAt W0 csN n l (W0.heap.size + 1) W0.heap.size qv ((w5.setCell ⟨W0.heap.size + 1, 0, none⟩ (.slice (some ⟨W0.heap.size, 0, none⟩) n n)).setCell ⟨W0.heap.size + 1, 1, none⟩ qv) := by
  have e1 : (W0.alloc (.cells csN 24)).heap.size = W0.heap.size + 1 := by simp
  have e : ((W0.alloc (.cells csN 24)).alloc (.cells #[.slice none 0 0, .slice none 0 0] 26)).drew.heap.size = W0.heap.size + 2 := by show ((W0.alloc (.cells csN 24)).alloc (.cells #[.slice none 0 0, .slice none 0 0] 26)).heap.size = _; simp
  rw [e] at hu5 ho5
  have z := Blk2.new (w := W0.alloc (.cells csN 24)) (t := 26) (x := .slice none 0 0) (y := .slice none 0 0)
  rw [e1] at z
  have z5 := z.below hu5 (by omega)
  have k1 : w5.heap[W0.heap.size]? = some (.cells csN 24 (0, 0)) := (hu5.block _ (by omega)).trans ((Below.heap_alloc _ _ _ (by rw [e1]; omega)).trans (heap_alloc_new W0 _))
  refine ⟨by omega, Nat.le_refl _, (z5.set0 _).set1 _, ?_, own_base (own_setI (own_setI ho5 (p := ⟨W0.heap.size + 1, 0, none⟩) (by show W0.heap.size + 1 < _; omega) _) (p := ⟨W0.heap.size + 1, 1, none⟩) (by show W0.heap.size + 1 < _; omega) _) (by omega), ?_⟩
  · rw [Below.heap_setCell _ _ _ _ (by show W0.heap.size ≠ W0.heap.size + 1; omega), Below.heap_setCell _ _ _ _ (by show W0.heap.size ≠ W0.heap.size + 1; omega)]; exact k1
  · exact (((((Below.refl W0.heap.size W0).alloc (Nat.le_refl _) _).alloc (by omega) _).trans (hu5.mono (by omega))).setCell (p := ⟨W0.heap.size + 1, 0, none⟩) (by show W0.heap.size ≤ W0.heap.size + 1; omega) _).setCell (p := ⟨W0.heap.size + 1, 1, none⟩) (by show W0.heap.size ≤ W0.heap.size + 1; omega) _
theorem ownAt3 {W0 w5 : World} {csN : Array Value} {n : Nat} {l : List Int} {qv : Value} (hu5 : Below W0.drew.heap.size W0 w5) (ho5 : w5.ownsRow W0.drew.heap.size 3 1 qv l.length (I l)) :
    OwnAt W0 csN n l (w5.heap.size + 1) w5.heap.size qv ((w5.alloc (.cells csN 24)).alloc (.cells #[.slice (some ⟨w5.heap.size, 0, none⟩) n n, qv] 26)) := by
  have e : W0.drew.heap.size = W0.heap.size := rfl
  rw [e] at hu5 ho5
  have e1 : (w5.alloc (.cells csN 24)).heap.size = w5.heap.size + 1 := by simp
  have s5 := hu5.size
  have z := Blk2.new (w := w5.alloc (.cells csN 24)) (t := 26) (x := .slice (some ⟨w5.heap.size, 0, none⟩) n n) (y := qv)
  rw [e1] at z
  exact ⟨by omega, s5, z, (Below.heap_alloc _ _ _ (by rw [e1]; omega)).trans (heap_alloc_new w5 _), (ho5.alloc _).alloc _, (hu5.alloc s5 _).alloc (by rw [e1]; omega) _⟩
theorem ownAt4 {W0 w5 : World} {csN : Array Value} {n : Nat} {l : List Int} {qv : Value} (hu5 : Below W0.drew.heap.size W0 w5) (ho5 : w5.ownsRow W0.drew.heap.size 3 1 qv l.length (I l)) :
    OwnAt W0 csN n l w5.heap.size (w5.heap.size + 1) qv ((w5.alloc (.cells #[.slice (some ⟨w5.heap.size + 1, 0, none⟩) n n, qv] 26)).alloc (.cells csN 24)) := by
  have e : W0.drew.heap.size = W0.heap.size := rfl
  rw [e] at hu5 ho5
  have e1 : (w5.alloc (.cells #[.slice (some ⟨w5.heap.size + 1, 0, none⟩) n n, qv] 26)).heap.size = w5.heap.size + 1 := by simp
  have s5 := hu5.size
  have k1 := heap_alloc_new (w5.alloc (.cells #[.slice (some ⟨w5.heap.size + 1, 0, none⟩) n n, qv] 26)) (.cells csN 24)
  rw [e1] at k1
  exact ⟨s5, by omega, Blk2.new.old _, k1, (ho5.alloc _).alloc _, (hu5.alloc s5 _).alloc (by rw [e1]; omega) _⟩
theorem ownAt5 {W0 w5 : World} {csN : Array Value} {n : Nat} {l : List Int} {qv : Value} (hu5 : Below ((W0.alloc (.cells #[.slice none 0 0, .slice none 0 0] 26)).alloc (.cells csN 24)).drew.heap.size ((W0.alloc (.cells #[.slice none 0 0, .slice none 0 0] 26)).alloc (.cells csN 24)) w5) (ho5 : w5.ownsRow ((W0.alloc (.cells #[.slice none 0 0, .slice none 0 0] 26)).alloc (.cells csN 24)).drew.heap.size 3 1 qv l.length (I l)) :
    OwnAt W0 csN n l W0.heap.size (W0.heap.size + 1) qv ((w5.setCell ⟨W0.heap.size, 0, none⟩ (.slice (some ⟨W0.heap.size + 1, 0, none⟩) n n)).setCell ⟨W0.heap.size, 1, none⟩ qv) := by
  have e1 : (W0.alloc (.cells #[.slice none 0 0, .slice none 0 0] 26)).heap.size = W0.heap.size + 1 := by simp
  have e : ((W0.alloc (.cells #[.slice none 0 0, .slice none 0 0] 26)).alloc (.cells csN 24)).drew.heap.size = W0.heap.size + 2 := by show ((W0.alloc (.cells #[.slice none 0 0, .slice none 0 0] 26)).alloc (.cells csN 24)).heap.size = _; simp
  rw [e] at hu5 ho5
  have z5 := ((Blk2.new (w := W0) (t := 26) (x := .slice none 0 0) (y := .slice none 0 0)).old (.cells csN 24)).below hu5 (by omega)
  have k0 := heap_alloc_new (W0.alloc (.cells #[.slice none 0 0, .slice none 0 0] 26)) (.cells csN 24)
  rw [e1] at k0
  have k1 := (hu5.block (W0.heap.size + 1) (by omega)).trans k0
  refine ⟨Nat.le_refl _, by omega, (z5.set0 _).set1 _, ?_, own_base (own_setI (own_setI ho5 (p := ⟨W0.heap.size, 0, none⟩) (by show W0.heap.size < _; omega) _) (p := ⟨W0.heap.size, 1, none⟩) (by show W0.heap.size < _; omega) _) (by omega), ?_⟩
  · rw [Below.heap_setCell _ _ _ _ (by show W0.heap.size + 1 ≠ W0.heap.size; omega), Below.heap_setCell _ _ _ _ (by show W0.heap.size + 1 ≠ W0.heap.size; omega)]; exact k1
  · exact (((((Below.refl W0.heap.size W0).alloc (Nat.le_refl _) _).alloc (by omega) _).trans (hu5.mono (by omega))).setCell (p := ⟨W0.heap.size, 0, none⟩) (Nat.le_refl _) _).setCell (p := ⟨W0.heap.size, 1, none⟩) (Nat.le_refl _) _
theorem ownAt6 {W0 w5 : World} {csN : Array Value} {n : Nat} {l : List Int} {qv : Value} (hu5 : Below (W0.alloc (.cells #[.slice none 0 0, .slice none 0 0] 26)).drew.heap.size (W0.alloc (.cells #[.slice none 0 0, .slice none 0 0] 26)) w5) (ho5 : w5.ownsRow (W0.alloc (.cells #[.slice none 0 0, .slice none 0 0] 26)).drew.heap.size 3 1 qv l.length (I l)) :
    OwnAt W0 csN n l W0.heap.size w5.heap.size qv (((w5.setCell ⟨W0.heap.size, 0, none⟩ (.slice (some ⟨w5.heap.size, 0, none⟩) n n)).setCell ⟨W0.heap.size, 1, none⟩ qv).alloc (.cells csN 24)) := by
  have e : (W0.alloc (.cells #[.slice none 0 0, .slice none 0 0] 26)).drew.heap.size = W0.heap.size + 1 := by show (W0.alloc (.cells #[.slice none 0 0, .slice none 0 0] 26)).heap.size = _; simp
  rw [e] at hu5 ho5
  have s5' : W0.heap.size + 1 ≤ w5.heap.size := by have := hu5.size; simpa using this
  have z5 := (Blk2.new (w := W0) (t := 26) (x := .slice none 0 0) (y := .slice none 0 0)).below hu5 (by omega)
  have k1 := heap_alloc_new ((w5.setCell ⟨W0.heap.size, 0, none⟩ (.slice (some ⟨w5.heap.size, 0, none⟩) n n)).setCell ⟨W0.heap.size, 1, none⟩ qv) (.cells csN 24)
  have e3 : ((w5.setCell ⟨W0.heap.size, 0, none⟩ (.slice (some ⟨w5.heap.size, 0, none⟩) n n)).setCell ⟨W0.heap.size, 1, none⟩ qv).heap.size = w5.heap.size := by simp
  rw [e3] at k1
  refine ⟨Nat.le_refl _, by omega, ((z5.set0 _).set1 _).old _, k1, own_base ((own_setI (own_setI ho5 (p := ⟨W0.heap.size, 0, none⟩) (by show W0.heap.size < _; omega) _) (p := ⟨W0.heap.size, 1, none⟩) (by show W0.heap.size < _; omega) _).alloc _) (by omega), ?_⟩
  exact ((((((Below.refl W0.heap.size W0).alloc (Nat.le_refl _) _).trans (hu5.mono (by omega))).setCell (p := ⟨W0.heap.size, 0, none⟩) (Nat.le_refl _) _).setCell (p := ⟨W0.heap.size, 1, none⟩) (Nat.le_refl _) _)).alloc (by rw [e3]; omega) _

end Go.Proofs.Ytgolhfmmlanmlaa

/- Walks: the reference's copies of graphs. -/
namespace Go.Proofs.Ytgolhfmmlanmlaa
open Go.RowKit Pth

/-- An append whose run is known. -/
theorem wpList_runApp {t : TypeId} {ops : Array Oper} {rest : List Oper} {o : Oper} {a : Act} {Q : Exit → Act → World → Prop} {w w' : World} {v u r : Value} (hgd : o.guard = none) (s x : Operand)
    (ho : o.op = .call { callee := .builtin .append, args := #[s, x], argTypes := #[t, t] }) (hs : a.eval s = v) (hx : a.eval x = u) (hrun : (Builtin.append_ #[t, t] o.type #[v, u]).run Try.prog w = .ok r w')
    (h : wpList Try.prog ops Q rest (a.put o.dst r) w') : wpList Try.prog ops Q (o :: rest) a w := by
  refine wpList_plain hgd fun K hK => ?_
  unfold Oper.wp execOp
  simp only [ho, resolve, invoke, builtin, Sem.run_bind, Sem.run_pure, Result.andThen_ok, List.map_toArray, List.map_cons, List.map_nil, hs, hx, hrun]
  exact hK _ _ h
theorem step_runApp {t : TypeId} {ops : Array Oper} {o : Oper} {a : Act} {K : Act → World → Prop} {Q : Exit → Act → World → Prop} {F : Prop} {w w' : World} {v u r : Value} (hgd : o.guard = none) (s x : Operand)
    (ho : o.op = .call { callee := .builtin .append, args := #[s, x], argTypes := #[t, t] }) (hs : a.eval s = v) (hx : a.eval x = u) (hrun : (Builtin.append_ #[t, t] o.type #[v, u]).run Try.prog w = .ok r w')
    (h : K (a.put o.dst r) w') : if Region.wanted o (yielded ops a.tmps) = true then Oper.wp Try.prog o a w K Q else F := by
  have hw : Region.wanted o (yielded ops a.tmps) = true := by simp [Region.wanted, hgd]
  rw [if_pos hw]
  unfold Oper.wp execOp
  simp only [ho, resolve, invoke, builtin, Sem.run_bind, Sem.run_pure, Result.andThen_ok, List.map_toArray, List.map_cons, List.map_nil, hs, hx, hrun]
  exact h
/-- A list put behind an empty literal. -/
theorem lit_row (x : List Int) (a : Option Addr) (c : Nat) (w W : World) (hW : W = w.alloc (.cells #[] 3)) (hrow : RowV w (.slice a x.length c) (I x)) (hx : x.length ≤ 1000) (ty : TypeId) :
    ∃ qa qc w1, (Builtin.append_ #[24, 24] ty #[.slice (some ⟨w.heap.size, 0, none⟩) 0 0, .slice a x.length c]).run Try.prog W = .ok (.slice qa x.length qc) w1 ∧ w1.ownsRow w.heap.size 3 1 (.slice qa x.length qc) x.length (I x) ∧ Below w.heap.size w w1 := by
  subst hW
  have hown : (w.alloc (.cells #[] 3)).ownsRow w.heap.size 3 1 (.slice (some ⟨w.heap.size, 0, none⟩) 0 0) 0 [] := World.ownsRow_lit w #[] 0 (Nat.le_refl _) (by unfold maxLen; omega) rfl
  have hr := hrow.alloc (.cells #[] 3)
  have hle : (I x).length = x.length := I_len x
  rw [← hle] at hr
  obtain ⟨v1, w1, r1, o1, g1⟩ := run_app_row elemI (w.alloc (.cells #[] 3)) w.heap.size ty _ [] (I x) a c hown hr (I_one x) (by simp [hle]; omega) (by simp)
  rw [List.nil_append] at o1
  rw [hle] at o1 r1
  obtain ⟨qa, qc, rfl⟩ := own_slice o1
  exact ⟨qa, qc, w1, r1, o1, ((Below.refl _ w).alloc (Nat.le_refl _) _).trans (only_below g1 (Nat.le_refl _) (by simp))⟩
/-- A list put as one more behind a list of lists. -/
theorem more_lists (sl : List Value) (nv v1 : Value) (B : Nat) (w1 : World) (hown : w1.ownsRow B 24 1 nv sl.length sl) (hv : v1.oneCell' = true) (hl : sl.length ≤ 1000) (hB : B ≤ w1.heap.size) (ty : TypeId) :
    ∃ v2 w2, (Builtin.append_ #[23, 23] ty #[nv, .slice (some ⟨w1.heap.size, 0, none⟩) 1 1]).run Try.prog (w1.alloc (.cells #[v1] 24)) = .ok v2 w2 ∧ w2.ownsRow B 24 1 v2 (sl ++ [v1]).length (sl ++ [v1]) ∧ w1.grownBy w2 nv.ownBlock := by
  have hr : RowV (w1.alloc (.cells #[v1] 24)) (.slice (some ⟨w1.heap.size, 0, none⟩) 1 1) [v1] :=
    ⟨_, _, rfl, Nat.le_refl _, by unfold maxLen; omega, fun k hk => ⟨w1.heap.size, 0, rfl, by simp, by
      have : k = 0 := by simp at hk; omega
      subst this
      have := one_new w1 v1 24 0 v1 rfl
      rw [add_addr] at this
      exact this⟩⟩
  obtain ⟨v2, w2, r2, o2, g2⟩ := run_app_row elemN (w1.alloc (.cells #[v1] 24)) B ty nv sl [v1] _ _ (hown.alloc _) hr (by intro u hu; simp at hu; subst hu; exact hv) (by simp; omega) (by simp; omega)
  exact ⟨v2, w2, r2, o2, ⟨g2.os, g2.tape, g2.output, Nat.le_trans (by simp) g2.size, fun k hk hne => (g2.block k (by simp; omega) hne).trans (Below.heap_alloc _ _ _ hk)⟩⟩

set_option maxRecDepth 20000 in
set_option maxHeartbeats 4000000 in
theorem l5Own_any (ls : List (List Int)) (l : List Int) (v : Value) (w : World) (hst : GraphV w v ls l) (hl : ls.length + total ls + l.length ≤ 1000) :
    Calls Try.prog 96 #[v] w fun e w' => ∃ v', e = .returned v' ∧ GraphO w.heap.size w' v' ls l ∧ Below w.heap.size w w' := by
  have HV := Lib.hid hst
  obtain ⟨nv, ov, rfl, h1, h2⟩ := hst
  have H1 := Lib.hid h1
  have H2 := Lib.hid h2
  obtain ⟨an, cn, rfl, hn1, hn2, hat⟩ := h1.lists
  obtain ⟨ao, co, rfl, ho1, ho2, _⟩ := h2.ints
  clear h1 h2
  unfold maxLen at hn2 ho2
  go_enter Try.func96, Try.ntmps96
  go_upto_region 1 with (fail)
  have k0 : Hid (Arg2 ((w.alloc (.cells #[.slice an ls.length cn, .slice ao l.length co] 26)).alloc (.cells #[.slice none 0 0, .slice none 0 0] 26)) w.heap.size (.slice an ls.length cn) (.slice ao l.length co)) := ⟨by simp, by simp⟩
  have hb0 : Below w.heap.size w ((w.alloc (.cells #[.slice an ls.length cn, .slice ao l.length co] 26)).alloc (.cells #[.slice none 0 0, .slice none 0 0] 26)) := ((Below.refl w.heap.size w).alloc (Nat.le_refl _) _).alloc (by simp) _
  have R0 := Lib.hid (Blk2.new (w := w.alloc (.cells #[.slice an ls.length cn, .slice ao l.length co] 26)) (t := 26) (x := .slice none 0 0) (y := .slice none 0 0))
  have e1 : (w.alloc (.cells #[.slice an ls.length cn, .slice ao l.length co] 26)).heap.size = w.heap.size + 1 := by simp
  have e2 : ((w.alloc (.cells #[.slice an ls.length cn, .slice ao l.length co] 26)).alloc (.cells #[.slice none 0 0, .slice none 0 0] 26)).heap.size = w.heap.size + 2 := by simp
  rw [e1] at R0
  have HE2 := Lib.hid e2
  have r0 := Lib.hid (H2.out.below hb0)
  have HB0 := Lib.hid hb0
  clear hb0 e1 e2
  generalize (w.alloc (.cells #[.slice an ls.length cn, .slice ao l.length co] 26)).alloc (.cells #[.slice none 0 0, .slice none 0 0] 26) = W0 at *
  obtain ⟨c0, c1⟩ := k0.out
  obtain ⟨qa, qc, w1, run1, o1, b1⟩ := lit_row l ao co W0 _ rfl r0.out (by omega) 24
  have s1 := b1.size
  have HP := Lib.hid (Blk2.new (w := w1) (t := 26) (x := .slice none 0 0) (y := .slice qa l.length qc))
  have HL : Hid (Lists W0.heap.size (w1.alloc (.cells #[.slice none 0 0, .slice qa l.length qc] 26)) ([(.slice qa l.length qc, l)] ++ ([] : List Value).zip (ls.take 0))) := by
    refine ⟨fun p hp => ?_, by simp⟩
    simp only [List.zip_nil_left, List.append_nil, List.mem_singleton] at hp
    subst hp
    exact o1.alloc _
  have HB := Lib.hid (b1.alloc s1 (.cells #[.slice none 0 0, .slice qa l.length qc] 26))
  have d0 := (HB.out.cell (p := ⟨w.heap.size, 0, none⟩) (World.block_lt_of_cell? _ _ c0)).trans c0
  have HC0 := Lib.hid c0
  have hbW : W0.heap.size ≤ w1.heap.size := s1
  have c2 := (ka k0.out (.cells #[] 3)).2
  have HRUN := Lib.hid run1
  clear o1 b1 run1
  go_wp2_with (at_builtin; refine wpList_runApp rfl _ _ rfl rfl rfl HRUN.out ?_)
  clear d0 c0 c1 c2 r0 k0
  go_loopw [14] (fun i wr => ∃ (k : Nat) (sl : List Value) (na : Option Addr) (nc : Nat), k ≤ ls.length ∧ i = .int .i64 k ∧ sl.length = k ∧ Hid (wr.ownsRow W0.heap.size 24 1 (.slice na k nc) k sl) ∧ Hid (Lists W0.heap.size wr ([(.slice qa l.length qc, l)] ++ sl.zip (ls.take k))) ∧ Hid (Blk2 wr w1.heap.size 26 (.slice na k nc) (.slice qa l.length qc)) ∧ Hid (Below W0.heap.size W0 wr)) (fun i _ => ls.length - (intOf i).toNat)
  case atStart => exact ⟨0, [], none, 0, Nat.zero_le _, rfl, rfl, ⟨rfl, .inl ⟨rfl, rfl⟩⟩, HL, HP, HB⟩
  case round =>
    clear HL HP HB
    obtain ⟨k, sl, na, nc, hk, rfl, hsl, HO, HL, HP, HB⟩ := hrel
    have HBW := Lib.hid (HB0.out.trans (HB.out.mono HB0.out.size))
    have p0 := HP.out.cells.1
    by_cases hlt : k < ls.length
    · obtain ⟨g, o, a2, c2, rfl, hg, hcell0, hrk⟩ := hat k hlt
      have hcell : wr.cell? ⟨g, o + k, none⟩ = some (.slice a2 ls[k].length c2) := by rw [HBW.out.cell (p := ⟨g, o + k, none⟩) hg]; exact hcell0
      have hxl : ls[k].length ≤ 1000 := by have := total_at hlt; omega
      obtain ⟨ya, yc, w5, run5, o5, b5⟩ := lit_row ls[k] a2 c2 wr.drew _ rfl (hrk.below (Below.drew HBW.out)) hxl 24
      have u5 := undrew b5
      have hO5 := own_below HO.out u5
      have hle : (Value.slice ya ls[k].length yc).oneCell' = true := rfl
      have HZ := Lib.hid (zip_snoc sl ls k hlt hsl)
      have HSL := Lib.hid hsl
      rw [← hsl] at hO5
      obtain ⟨v6, w6, run6, o6, g6⟩ := more_lists sl _ (.slice ya ls[k].length yc) W0.heap.size w5 hO5 hle (by omega) (Nat.le_trans HB.out.size u5.size) 23
      rw [hsl] at hO5 run6 g6
      rw [List.length_append, List.length_singleton, hsl] at o6
      obtain ⟨za, zc, rfl⟩ := own_slice o6
      have hbl : w1.heap.size < wr.heap.size := lt_of_block HP.out
      have P5 := HP.out.below u5 hbl
      have nb : (Value.slice na k nc).ownBlock ≠ some w1.heap.size := fun e => blk_ne HP.out HO.out (by decide) w1.heap.size e rfl
      have P6 := P5.beside g6 nb
      have p5 := P5.cells.1
      have p6 := P6.cells.1
      have f6 := P6.soft 0
      have hbl5 : w1.heap.size < w5.heap.size := lt_of_block P5
      have pa := (World.cell?_alloc_lt wr (.cells #[] 3) ⟨w1.heap.size, 0, none⟩ hbl).trans p0
      have pb := (World.cell?_alloc_lt w5 (.cells #[.slice ya ls[k].length yc] 24) ⟨w1.heap.size, 0, none⟩ hbl5).trans p5
      have R5 := Lib.hid run5
      have R6 := Lib.hid run6
      have HP6 := Lib.hid P6
      have O6 := Lib.hid o6
      have hL5 := HL.out.snoc u5 o5 (Nat.le_refl _) HB.out.size
      rw [List.append_assoc, ← HZ.out] at hL5
      have HL6 := Lib.hid (hL5.outer hO5 (by decide) g6)
      have HB6 := Lib.hid ((HB.out.trans (u5.mono HB.out.size)).trans ((Below.refl W0.heap.size w5).grown g6 (Nat.le_trans HB.out.size u5.size) (fun i hi => (hO5.lt i hi).1)))
      clear run5 run6 o5 b5 u5 hO5 g6 o6 P5 P6 hL5 hcell0 hrk hat hxl hle HO HL HP HB nb hsl
      generalize ls[k].length = n1 at *
      go_wp2_with fail
      go_region_law
        (first
          | (refine step_runApp (t := 24) rfl _ _ rfl rfl rfl R5.out ?_)
          | (refine step_runApp (t := 23) rfl _ _ rfl rfl rfl R6.out ?_))
      all_goals
        have O7 := Lib.hid (own_setNe O6.out (p := ⟨w1.heap.size, 0, none⟩) (fun e => blk_ne HP6.out O6.out (by decide) w1.heap.size e rfl) (.slice za (k + 1) zc))
        have L7 : Hid (Lists W0.heap.size (w6.setCell ⟨w1.heap.size, 0, none⟩ (.slice za (k + 1) zc)) ([(.slice qa l.length qc, l)] ++ (sl ++ [Value.slice ya n1 yc]).zip (ls.take (k + 1)))) :=
          ⟨fun p hp => own_setNe (HL6.out.1 p hp) (p := ⟨w1.heap.size, 0, none⟩) (fun e => blk_ne HP6.out (HL6.out.1 p hp) (by decide) w1.heap.size e rfl) _, HL6.out.2⟩
        have P7 := Lib.hid (HP6.out.set0 (.slice za (k + 1) zc))
        have B7 := Lib.hid (HB6.out.setCell (p := ⟨w1.heap.size, 0, none⟩) hbW (.slice za (k + 1) zc))
        go_wp2_with fail
        go_roundw
        case rel => exact ⟨k + 1, _, za, zc, by omega, by go_num, by simp [HSL.out], O7, L7, P7, B7⟩
        case measure => simp [intOf]; omega
    · obtain rfl : k = ls.length := by omega
      have R1 := Lib.hid (R0.out.below HB.out (by have := HE2.out; omega))
      have HM : Hid (Lists W0.heap.size wr (sl.zip ls ++ [(.slice qa l.length qc, l)])) := by
        have := HL.out
        rw [List.take_length] at this
        exact this.perm List.perm_append_comm
      have p1 := HP.out.cells.2
      have q0 := R1.out.cells.1
      have q1 := R1.out.cells.2
      have f0 := R1.out.soft 0
      have f1 := R1.out.soft 1
      have HZ := Lib.hid ((R1.out.set0 (.slice na ls.length nc)).set1 (.slice qa l.length qc))
      have hz : w.heap.size + 1 < W0.heap.size := by have := HE2.out; omega
      clear HL hat
      go_wp2_with fail
      refine bodyPost_ret (results_cell rfl rfl (load_store2 HZ.out.cells.1 HZ.out.cells.2)) rfl ?_
      refine ⟨_, rfl, ⟨_, _, sl, rfl, hsl, own_base (own_setI (own_setI HO.out (p := ⟨w.heap.size + 1, 0, none⟩) hz _) (p := ⟨w.heap.size + 1, 1, none⟩) hz _) (by omega), ((HM.out.set (p := ⟨w.heap.size + 1, 0, none⟩) hz _).set (p := ⟨w.heap.size + 1, 1, none⟩) hz _).base (by omega)⟩, ?_⟩
      exact (HBW.out.setCell (p := ⟨w.heap.size + 1, 0, none⟩) (by show w.heap.size ≤ w.heap.size + 1; omega) _).setCell (p := ⟨w.heap.size + 1, 1, none⟩) (by show w.heap.size ≤ w.heap.size + 1; omega) _
end Go.Proofs.Ytgolhfmmlanmlaa

/- Walks: how far tasks are, by a queue. -/
namespace Go.Proofs.Ytgolhfmmlanmlaa
open Go.RowKit Pth

theorem I_set (l : List Int) (k : Nat) (x : Int) : (I l).set k (.int .i64 x) = I (l.set k x) := by simp [I, List.map_set]
theorem good_in {ls : List (List Int)} {l : List Int} (h : GoodG ls l) : ∀ k (hk : k < ls.length), ∀ x ∈ ls[k], 0 ≤ x ∧ x < (ls.length : Int) := by
  intro k hk x hx
  have := (h.each k hk).1.2 x hx
  omega
theorem at_get {out : List Int} {k : Nat} (hk : k < out.length) : at' out (k : Int) = out[k] := by
  unfold at'
  rw [show ((k : Int)).toNat = k by omega, List.getD_eq_getElem?_getD, List.getElem?_eq_getElem hk]; rfl
theorem I_at {l : List Int} {k : Nat} (hk : k < l.length) : (I l)[k]? = some (.int .i64 l[k]) := by rw [List.getElem?_eq_getElem (by rw [I_len]; exact hk), I_get hk]
theorem far_len (ls : List (List Int)) (t : Int) : ((upto ls.length).map (farI ls t)).length = ls.length := by rw [List.length_map, upto_len]
theorem own_belowQ {w w' : World} {B e n : Nat} {v : Value} {xs : List Value} (h : w.ownsRow B e 1 v n xs) {C : Nat} (hb : Below C w w') (hC : ∀ k, v.ownBlock = some k → k < C) : w'.ownsRow B e 1 v n xs := by
  refine ⟨h.1, ?_⟩
  rcases h.2 with h0 | ⟨g, cap, cur, hv, hg, hh, r⟩
  · exact .inl h0
  · exact .inr ⟨g, cap, cur, hv, hg, (hb.block g (hC g (by rw [hv]; rfl))).trans hh, r⟩

set_option maxRecDepth 20000 in
set_option maxHeartbeats 8000000 in
theorem l5Far_any (ls : List (List Int)) (l : List Int) (t : Nat) (v : Value) (w : World) (hst : GraphV w v ls l) (hG : GoodG ls l) (ht : t < ls.length) :
    Calls Try.prog 111 #[v, .int .i64 (t : Int)] w (IntsPost w.heap.size ((upto ls.length).map (farI ls t)) w) := by
  have HV := Lib.hid hst
  obtain ⟨nv, ov, rfl, h1, h2⟩ := hst
  obtain ⟨an, cn, rfl, hn1, hn2, _⟩ := h1.lists
  obtain ⟨ao, co, rfl, ho1, ho2, _⟩ := h2.ints
  clear h1 h2
  unfold maxLen at hn2 ho2
  have h10 := hG.high
  have HIN := Lib.hid (good_in hG)
  obtain ⟨csI, hcI, mI⟩ := make_alloc elemI rfl ls.length (by omega)
  have HCI := Lib.hid hcI
  clear hcI hG
  obtain ⟨wa, hwa⟩ : ∃ wa, wa = w.alloc (.cells #[.slice an ls.length cn, .slice ao l.length co] 26) := ⟨_, rfl⟩
  have P0 : Hid (Blk2 wa w.heap.size 26 (.slice an ls.length cn) (.slice ao l.length co)) := by rw [hwa]; exact Blk2.new
  have HA : Hid (Below w.heap.size w wa) := by rw [hwa]; exact (Below.refl w.heap.size w).alloc (Nat.le_refl _) _
  have hsa : wa.heap.size = w.heap.size + 1 := by rw [hwa]; simp
  have HSA := Lib.hid hsa
  have HWA := Lib.hid hwa
  have HH := Lib.hid (own_of_heap (w := wa.alloc (.cells csI 3)) (B := wa.heap.size) (heap_alloc_new wa _) (Nat.le_refl _) HCI.out (by simp) (show ls.length ≤ maxLen by unfold maxLen; omega))
  have HB1 : Hid (Below wa.heap.size wa (wa.alloc (.cells csI 3))) := (Below.refl wa.heap.size wa).alloc (Nat.le_refl _) _
  rw [HSA.out] at HH
  clear hwa hsa
  go_enter Try.func111, Try.ntmps111
  go_wp2_with fail
  rw [← HWA.out]
  clear mI
  go_loopw [17] (fun i wr => ∃ k : Nat, k ≤ ls.length ∧ i = .int .i64 k ∧ Hid (wr.ownsRow (w.heap.size + 1) 3 1 (.slice (some ⟨w.heap.size + 1, 0, none⟩) ls.length ls.length) ls.length ((I (List.replicate ls.length (-1))).take k ++ List.replicate ((I (List.replicate ls.length (-1))).length - k) (.int .i64 0))) ∧ Hid (Below wa.heap.size wa wr)) (fun i _ => ls.length - (intOf i).toNat)
  case atStart => exact ⟨0, Nat.zero_le _, rfl, by rw [I_len, List.length_replicate]; simpa [Hid] using HH.out, HB1⟩
  case round =>
    clear HH HB1
    obtain ⟨k, hk, rfl, HO, HB⟩ := hrel
    by_cases hlt : k < ls.length
    · have hIl : k < (I (List.replicate ls.length (-1))).length := by rw [I_len, List.length_replicate]; exact hlt
      have hfz := HO.out.frozenAt k
      have hcz : wr.cell? ⟨w.heap.size + 1, k, none⟩ = some (.int .i64 0) := by rw [HO.out.cellAt k (by omega), get_row _ _ _ hIl]
      have hst := HO.out.stored k (.int .i64 (-1))
      have e := set_row (I (List.replicate ls.length (-1))) (.int .i64 0) k hIl
      rw [I_get (by rw [List.length_replicate]; exact hlt), List.getElem_replicate] at e
      rw [e] at hst
      have HO1 := Lib.hid hst.1
      have HB2 := Lib.hid (HB.out.trans (only_below hst.2 (by have := HSA.out; omega) HB.out.size))
      clear hst e HO HB hIl
      go_wp2_with fail
      go_roundw
      case rel => exact ⟨k + 1, by omega, by go_num, HO1, HB2⟩
      case measure => simp [intOf]; omega
    · have HO1 : Hid (wr.ownsRow (w.heap.size + 1) 3 1 (.slice (some ⟨w.heap.size + 1, 0, none⟩) ls.length ls.length) ls.length (I (List.replicate ls.length (-1)))) := by
        have := HO.out
        rw [List.take_of_length_le (by rw [I_len, List.length_replicate]; omega), I_len, List.length_replicate, show ls.length - k = 0 by omega, List.replicate_zero, List.append_nil] at this
        exact this
      have hfz := HO1.out.frozenAt t
      have hcz : wr.cell? ⟨w.heap.size + 1, t, none⟩ = some (.int .i64 (-1)) := by rw [HO1.out.cellAt t (by omega), I_at (by rw [List.length_replicate]; exact ht), List.getElem_replicate]
      have hst := HO1.out.stored t (.int .i64 0)
      rw [I_set] at hst
      have HO2 := Lib.hid hst.1
      have HB2 := Lib.hid (HB.out.trans (only_below hst.2 (by have := HSA.out; omega) HB.out.size))
      have s2 : w.heap.size + 2 ≤ wr.heap.size := by have := (HO1.out.lt (w.heap.size + 1) rfl).2; omega
      have ht2 : (t : Int) < (ls.length : Int) := by omega
      obtain ⟨w2, hw2⟩ : ∃ w2, w2 = wr.setCell ⟨w.heap.size + 1, t, none⟩ (.int .i64 0) := ⟨_, rfl⟩
      have hz2 : w2.heap.size = wr.heap.size := by rw [hw2]; simp
      rw [← hw2] at HO2 HB2
      have HW2 := Lib.hid hw2
      have HZ2 := Lib.hid hz2
      have HS2 := Lib.hid s2
      have HQ : Hid (OwnQ (w.heap.size + 2) w2.heap.size (w2.alloc (.cells #[.int .i64 (t : Int)] 3)) (.slice (some ⟨w2.heap.size, 0, none⟩) 1 1) [(t : Int)]) :=
        ⟨by omega, 0, 1, #[.int .i64 (t : Int)], rfl, heap_alloc_new w2 _, Nat.le_refl _, by unfold maxLen; omega, by simp, fun j hj => by
          have : j = 0 := by simp at hj; omega
          subst this
          have := one_new w2 (.int .i64 (t : Int)) 3 0 _ rfl
          rw [add_addr] at this
          exact this⟩
      have HO3 := Lib.hid (HO2.out.alloc (.cells #[.int .i64 (t : Int)] 3))
      have HB3 := Lib.hid (HB2.out.alloc HB2.out.size (.cells #[.int .i64 (t : Int)] 3))
      have HF := Lib.hid (Front.start ht)
      have s3 : w.heap.size + 2 ≤ (w2.alloc (.cells #[.int .i64 (t : Int)] 3)).heap.size := by simp; omega
      clear hst hw2 hz2 HO HB HO1 HO2 HB2
      rw [HZ2.out] at HQ
      go_wp2_with fail
      rw [← HW2.out]
      have HU := Lib.hid (fun (x : Int) W (h : GraphV W _ ls l) => l5Users_any ls l x (.agg #[.slice an ls.length cn, .slice ao l.length co]) W h h10)
      have HGV : Hid (∀ W, Below wa.heap.size wa W → GraphV W (.agg #[.slice an ls.length cn, .slice ao l.length co]) ls l) := fun W h => HV.out.below (bth HA.out h (Nat.le_refl _))
      go_loopg [7] ls.length (fun gk q wr => ∃ (g : Nat) (out done qs : List Int), Hid (OwnQ (w.heap.size + 2) g wr q qs) ∧ Hid (wr.ownsRow (w.heap.size + 1) 3 1 (.slice (some ⟨w.heap.size + 1, 0, none⟩) ls.length ls.length) ls.length (I out)) ∧ Hid (Front ls (t : Int) out done qs) ∧ Hid (Below wa.heap.size wa wr) ∧ Hid (gk + done.length = ls.length) ∧ Hid (w.heap.size + 2 ≤ wr.heap.size) ∧ Hid (∀ y ∈ out, y ≤ (done.length : Int)))
      case atStart => exact ⟨_, _, [], [(t : Int)], HQ, HO3, HF, HB3, rfl, s3, fun y hy => by
        rcases List.mem_or_eq_of_mem_set hy with h | h
        · rw [List.eq_of_mem_replicate h]; simp
        · rw [h]; simp⟩
      case round =>
        clear HQ HO3 HF HB3 s3 HZ2 HW2 HS2 s2 hfz hcz
        obtain ⟨g, out, done, qs, HQ, HO, HF, HB, HK, HS, HY⟩ := hrel
        match qs, HQ, HF with
        | [], HQ, HF =>
          obtain ⟨o, cap, cur, hv, _⟩ := HQ.out.lies
          have HE := Lib.hid (Front.done HIN.out HF.out)
          rw [HE.out] at HO
          have HL := Lib.hid (far_len ls t)
          subst hv
          clear HF HE HQ
          go_wp2_with fail
          go_ret
          exact ⟨_, rfl, by rw [HL.out]; exact own_base HO.out (by omega), bth HA.out HB.out (Nat.le_refl _)⟩
        | x :: rest, HQ, HF =>
          have hx := HF.out.spread.range x (by simp)
          have hroom := HF.out.room
          rw [List.length_cons] at hroom
          have HI := Lib.hid (Front.open HF.out)
          have hxl : x.toNat < ls.length := by omega
          obtain ⟨xn, rfl⟩ : ∃ xn : Nat, x = xn := ⟨x.toNat, by omega⟩
          have hxn : xn < ls.length := by omega
          obtain ⟨a, cap, v', hv, hcut, hQ'⟩ := HQ.out.pop
          obtain ⟨o, cap2, cur, hv2, -, -, -, -, hcell⟩ := HQ.out.lies
          have hc0 := hcell 0 (by simp)
          rw [hv] at hv2
          injection hv2 with hv2 hn2' hc2'
          clear hn2' hc2'
          subst hv hv2
          rw [Nat.add_zero, List.getElem_cons_zero] at hc0
          have HQ2 := Lib.hid hQ'
          obtain ⟨a3, c3, hv3, -⟩ := hQ'.row.ints
          have HGW := Lib.hid (HU.out (xn : Int) wr (HGV.out wr HB.out))
          obtain ⟨d0, d1⟩ := (P0.out.below HB.out (by have := HSA.out; omega)).cells
          have hrl : rest.length + 1 ≤ 10 := by omega
          subst hv3
          clear hQ' hcell hroom hx hxl
          go_wp2_with fail
          refine HGW.out.mono ?_
          rintro e w4 ⟨v4, rfl, ho4, hb4⟩
          have hlo := HI.out.spread.len
          have HD := Lib.hid (at_get (out := out) (k := xn) (by omega))
          have hdl : at' out (xn : Int) ≤ (done.length : Int) := by rw [HD.out]; exact HY.out _ (List.getElem_mem _)
          have hdn : done.length + 1 ≤ ls.length := by have := HK.out; have := HI.out.spread.nodup; have h := nodup_sub (b := upto ls.length) this (fun y hy => mem_upto.2 (HI.out.spread.range y hy)); rw [upto_len, List.length_append, List.length_cons] at h; omega
          have hd0 := HI.out.d0
          have HQ4 := Lib.hid (HQ2.out.below hb4)
          have HO4 := Lib.hid (own_below HO.out hb4)
          have HB4 := Lib.hid (bth HB.out hb4 (by have := HB.out.size; omega))
          have HS4 := Lib.hid (Nat.le_trans HS.out hb4.size)
          have HN4 : Hid (∀ b, v4.ownBlock = some b → b ≠ g) := fun b hb e => by have h1 := (ho4.lt b hb).1; have h2 := HQ2.out.lt; omega
          obtain ⟨sw, hsw⟩ : ∃ sw, sw = wr.heap.size := ⟨_, rfl⟩
          have HSW : Hid (w.heap.size + 2 ≤ sw) := by rw [hsw]; exact HS.out
          have HU4 : Hid (w4.ownsRow sw 3 1 v4 (usersL ls (xn : Int)).length (I (usersL ls (xn : Int)))) := by rw [hsw]; exact ho4
          clear hsw
          have HY4 : Hid (∀ y ∈ out, y ≤ (done.length : Int) + 1) := fun y hy => by have := HY.out y hy; omega
          have hul : (usersL ls (xn : Int)).length ≤ 10 := by have := usersK_len ls (xn : Int) ls.length; unfold usersL; omega
          obtain ⟨ua, uc, rfl⟩ := own_slice ho4
          clear hb4 ho4 hlo HD HQ2 HY
          generalize hd : at' out (xn : Int) = d at *
          clear hd
          have HMU : Hid (∀ y, y ∈ usersL ls (xn : Int) ↔ (0 ≤ y ∧ y < (ls.length : Int)) ∧ (xn : Int) ∈ needsAt ls y) := fun y => mem_users
          generalize usersL ls (xn : Int) = us at *
          go_wp2_with fail
          clear hc0 d0 d1 hcut
          go_loopw [7, 41] (fun q i wz => ∃ (m g2 : Nat) (out2 qs2 : List Int), m ≤ us.length ∧ i = .int .i64 m ∧ Hid (OwnQ (w.heap.size + 2) g2 wz q qs2) ∧ Hid (wz.ownsRow (w.heap.size + 1) 3 1 (.slice (some ⟨w.heap.size + 1, 0, none⟩) ls.length ls.length) ls.length (I out2)) ∧ Hid (Inner ls (t : Int) out2 done (xn : Int) d qs2 (us.take m)) ∧ Hid (wz.ownsRow sw 3 1 (.slice ua us.length uc) us.length (I us)) ∧ Hid (∀ b, (Value.slice ua us.length uc).ownBlock = some b → b ≠ g2) ∧ Hid (Below wa.heap.size wa wz) ∧ Hid (w.heap.size + 2 ≤ wz.heap.size) ∧ Hid (∀ y ∈ out2, y ≤ (done.length : Int) + 1)) (fun _ i _ => us.length - (intOf i).toNat)
          case atStart => exact ⟨0, g, out, rest, Nat.zero_le _, rfl, HQ4, HO4, HI, HU4, HN4, HB4, HS4, HY4⟩
          case round =>
            clear HQ4 HO4 HI HU4 HN4 HB4 HS4 HY4
            obtain ⟨m, g2, out2, qs2, hm, rfl, HQ2, HO2, HI2, HU2, HN2, HB2, HS2, HY2⟩ := hrel
            obtain ⟨o2, cap3, cur3, hq2, -⟩ := HQ2.out.lies
            by_cases hlt : m < us.length
            · have hku := (HMU.out us[m]).1 (List.getElem_mem hlt)
              obtain ⟨kn, hkn⟩ : ∃ kn : Nat, us[m] = kn := ⟨us[m].toNat, by omega⟩
              rw [hkn] at hku
              have hkl : kn < ls.length := by omega
              have hkm := hku.2
              rw [needsAt_get hkl] at hkm
              obtain ⟨gu, hua, hug⟩ : ∃ gu, ua = some ⟨gu, 0, none⟩ ∧ us.length ≤ uc := by
                rcases HU2.out.2 with ⟨_, h0⟩ | ⟨gu, cap, cur, hv, _, _, hcap, _⟩
                · omega
                · injection hv with hv1 _ hv3; exact ⟨gu, hv1, by omega⟩
              subst hua
              have hcu : wr.cell? ⟨gu, m, none⟩ = some (.int .i64 (kn : Int)) := by rw [HU2.out.cellAt m (by omega), I_at hlt, hkn]
              have hlo2 := HI2.out.spread.len
              have hck : wr.cell? ⟨w.heap.size + 1, kn, none⟩ = some (.int .i64 (at' out2 (kn : Int))) := by rw [HO2.out.cellAt kn (by omega), I_at (by omega), at_get (by omega)]
              have hkl2 : (kn : Int) < (ls.length : Int) := by omega
              have hgu := HU2.out.lt gu rfl
              have HTK : Hid (us.take (m + 1) = us.take m ++ [(kn : Int)]) := by
                show us.take (m + 1) = _
                rw [List.take_succ_eq_append_getElem hlt, hkn]
              have hS1 := HSW.out
              have hS2 := HS2.out
              have hQB := HQ2.out.hB
              have hQL := HQ2.out.lt
              have hgq := HN2.out gu rfl
              by_cases hneg : at' out2 (kn : Int) < 0
              · have hcx : wr.cell? ⟨w.heap.size + 1, xn, none⟩ = some (.int .i64 d) := by rw [HO2.out.cellAt xn (by omega), I_at (by omega), ← at_get (by omega), HI2.out.dist]
                have hf2 := HO2.out.frozenAt kn
                have hst := HO2.out.stored kn (.int .i64 (d + 1))
                rw [I_set] at hst
                have hwrap : IntKind.i64.wrap (d + 1) = d + 1 := by rw [IntKind.wrap_i64]; omega
                obtain ⟨wy, hwy⟩ : ∃ wy, wy = wr.setCell ⟨w.heap.size + 1, kn, none⟩ (.int .i64 (d + 1)) := ⟨_, rfl⟩
                have hzy : wy.heap.size = wr.heap.size := by rw [hwy]; simp
                have hqy : OwnQ (w.heap.size + 2) g2 wy _ qs2 := HQ2.out.keep (by rw [hwy]; exact Below.heap_setCell wr _ _ g2 (by show g2 ≠ w.heap.size + 1; omega))
                have hrq : qs2.length ≤ 1000 := by have h := nodup_sub (b := upto ls.length) HI2.out.spread.nodup (fun y hy => mem_upto.2 (HI2.out.spread.range y hy)); rw [upto_len, List.length_append, List.length_cons] at h; omega
                obtain ⟨v7, w7, g7, run7, q7, gr7, hg7⟩ := hqy.push (kn : Int) hrq 24
                have hoy : wy.ownsRow (w.heap.size + 1) 3 1 (.slice (some ⟨w.heap.size + 1, 0, none⟩) ls.length ls.length) ls.length (I (out2.set kn (d + 1))) := by rw [hwy]; exact hst.1
                have HO7 := Lib.hid (own_apartI (u := .slice (some ⟨g2, 0, none⟩) 0 0) hoy gr7 (fun i hi hi' => by have h1 : g2 = i := Option.some.inj hi; have h2 : w.heap.size + 1 = i := Option.some.inj hi'; omega))
                have huy : wy.ownsRow sw 3 1 (.slice (some ⟨gu, 0, none⟩) us.length uc) us.length (I us) := by rw [hwy]; exact own_setNe HU2.out (p := ⟨w.heap.size + 1, kn, none⟩) (fun e => by have h2 : gu = w.heap.size + 1 := Option.some.inj e; omega) _
                have HU7 := Lib.hid (own_apartI (u := .slice (some ⟨g2, 0, none⟩) 0 0) huy gr7 (fun i hi hi' => by have h1 : g2 = i := Option.some.inj hi; have h2 : gu = i := Option.some.inj hi'; omega))
                have HN7 : Hid (∀ b, (Value.slice (some ⟨gu, 0, none⟩) us.length uc).ownBlock = some b → b ≠ g7) := fun b hb e => by
                  have h1 : gu = b := Option.some.inj hb
                  rcases hg7 with h | h
                  · omega
                  · rw [hzy] at h; omega
                have HB7 : Hid (Below wa.heap.size wa w7) := by
                  have h1 : Below wa.heap.size wa wy := by rw [hwy]; exact HB2.out.trans (only_below hst.2 (by have := HSA.out; omega) HB2.out.size)
                  exact h1.trans (only_below gr7 (by have := HSA.out; omega) h1.size)
                have HS7 : Hid (w.heap.size + 2 ≤ w7.heap.size) := by have := gr7.size; show _ ≤ _; omega
                have HQ7 := Lib.hid q7
                have HI7 := Lib.hid (HI2.out.put hkl hkm hneg)
                have HY7 : Hid (∀ y ∈ out2.set kn (d + 1), y ≤ (done.length : Int) + 1) := fun y hy => by
                  rcases List.mem_or_eq_of_mem_set hy with h | h
                  · exact HY2.out y h
                  · rw [h]; omega
                rw [← HTK.out] at HI7
                have HR7 := Lib.hid run7
                have HWY := Lib.hid hwy
                obtain ⟨o7, cap7, cur7, hv7, -⟩ := q7.lies
                have HV7 := Lib.hid hv7
                have HZY := Lib.hid hzy
                rw [hzy] at HR7
                clear hst hqy hrq run7 q7 gr7 hg7 hoy huy hwy hv7 hzy HQ2 HO2 HI2 HU2 HN2 HB2 HS2 HY2 hlo2 hku hkm hkn hgu hS1 hS2 hQB hQL hgq
                subst hq2
                go_wp2_with (at_builtin; (try rw [← HWY.out]); refine wpList_runApp rfl _ _ rfl rfl rfl HR7.out ?_)
                go_roundw
                case rel => exact ⟨m + 1, g7, _, _, by omega, by go_num, HQ7, HO7, HI7, HU7, HN7, HB7, HS7, HY7⟩
                case measure => simp [intOf]; omega
              · have HI7 := Lib.hid (HI2.out.skip hkl hneg)
                rw [← HTK.out] at HI7
                have hn1 : decide (at' out2 (kn : Int) < 0) = false := decide_eq_false hneg
                clear HI2 hlo2 hku hkm hkn hgu hS1 hS2 hQB hQL hgq
                generalize at' out2 (kn : Int) = ak at *
                subst hq2
                go_wp2_with fail
                go_roundw
                case rel => exact ⟨m + 1, g2, _, _, by omega, by go_num, HQ2, HO2, HI7, HU2, HN2, HB2, HS2, HY2⟩
                case measure => simp [intOf]; omega
            · rw [List.take_of_length_le (by omega)] at HI2
              have HF2 := Lib.hid (HI2.out.close (fun k hk hm => (HMU.out k).2 ⟨by omega, by rw [needsAt_get hk]; exact hm⟩))
              have hkk := HK.out
              have HK2 : Hid (gk - 1 + (done ++ [(xn : Int)]).length = ls.length) := by show _ = _; rw [List.length_append, List.length_singleton]; omega
              have HY3 : Hid (∀ y ∈ out2, y ≤ ((done ++ [(xn : Int)]).length : Int)) := fun y hy => by have := HY2.out y hy; rw [List.length_append, List.length_singleton]; omega
              have hgk : gk - 1 < gk := by omega
              clear HI2 HMU HU2 HN2 hkk
              subst hq2
              go_wp2_with fail
              go_roundg (gk - 1)
              case measure => exact hgk
              case rel => exact ⟨g2, out2, _, qs2, HQ2, HO2, HF2, HB2, HK2, HS2, HY3⟩
end Go.Proofs.Ytgolhfmmlanmlaa

/- Walks: the way round, as the reference has it. -/
namespace Go.Proofs.Ytgolhfmmlanmlaa
open Go.RowKit Pth

/-- The way that is told. -/
noncomputable def loopL (ls : List (List Int)) (t x : Int) : List Int := if farI ls t x < 0 then [] else wayL ls t (farI ls t x).toNat x
theorem far_bound {ls : List (List Int)} {l : List Int} (hG : GoodG ls l) {t : Int} {m : Nat} : ∀ {k : Int}, Pth.Way ls t m k → ∀ (_hk : 0 ≤ k ∧ k < (ls.length : Int)), m ≤ pos l k := by
  induction m with
  | zero => intro k _ _; omega
  | succ m ih =>
    intro k h hk
    obtain ⟨x, hx, hw⟩ := h
    obtain ⟨kn, rfl⟩ : ∃ kn : Nat, k = kn := ⟨k.toNat, by omega⟩
    have hkl : kn < ls.length := by omega
    rw [needsAt_get hkl] at hx
    have he := (hG.each kn hkl)
    have hxr := good_in hG kn hkl x hx
    have hp := he.2.2 x hx
    have hxm : x ∈ l := all_there hG.same hG.nodup (fun y hy => by have := hG.tasks y hy; omega) hxr
    rw [place_mem hxm, place_mem he.2.1] at hp
    have := ih hw hxr
    omega
theorem far_small {ls : List (List Int)} {l : List Int} (hG : GoodG ls l) {t k : Int} (hk : 0 ≤ k ∧ k < (ls.length : Int)) : farI ls t k ≤ 10 := by
  by_cases h : farI ls t k < 0
  · omega
  · have h1 := far_bound hG (farI_way (t := t) (k := k) (by omega)) hk
    have hm : k ∈ l := all_there hG.same hG.nodup (fun y hy => by have := hG.tasks y hy; omega) hk
    have h2 := pos_lt hm
    have h3 := hG.same
    have h4 := hG.high
    omega

set_option maxRecDepth 20000 in
set_option maxHeartbeats 8000000 in
theorem l5Loop_any (ls : List (List Int)) (l : List Int) (t x : Nat) (v : Value) (w : World) (hst : GraphV w v ls l) (hG : GoodG ls l) (ht : t < ls.length) (hx : x < ls.length) :
    Calls Try.prog 95 #[v, .int .i64 (t : Int), .int .i64 (x : Int)] w (IntsPost w.heap.size (loopL ls t x) w) := by
  have HV := Lib.hid hst
  obtain ⟨nv, ov, rfl, h1, h2⟩ := hst
  obtain ⟨an, cn, rfl, hn1, hn2, hat⟩ := h1.lists
  obtain ⟨ao, co, rfl, ho1, ho2, -⟩ := h2.ints
  clear h1 h2
  unfold maxLen at hn2 ho2
  have h10 := hG.high
  have HIN := Lib.hid (good_in hG)
  have HSM : Hid (∀ k : Nat, k < ls.length → farI ls t k ≤ 10) := fun k hk => far_small hG ⟨by omega, by omega⟩
  obtain ⟨wa, hwa⟩ : ∃ wa, wa = w.alloc (.cells #[.slice an ls.length cn, .slice ao l.length co] 26) := ⟨_, rfl⟩
  have P0 : Hid (Blk2 wa w.heap.size 26 (.slice an ls.length cn) (.slice ao l.length co)) := by rw [hwa]; exact Blk2.new
  have HA : Hid (Below w.heap.size w wa) := by rw [hwa]; exact (Below.refl w.heap.size w).alloc (Nat.le_refl _) _
  have hsa : wa.heap.size = w.heap.size + 1 := by rw [hwa]; simp
  have HSA := Lib.hid hsa
  have HWA := Lib.hid hwa
  have HC := Lib.hid (l5Far_any ls l t _ wa (HV.out.below HA.out) hG ht)
  obtain ⟨c0, c1⟩ := P0.out.cells
  clear hwa hsa hG
  go_enter Try.func95, Try.ntmps95
  go_wp2_with fail
  rw [← HWA.out]
  refine HC.out.mono ?_
  rintro e w1 ⟨v1, rfl, ho1', hb1⟩
  have HF := Lib.hid ho1'
  have HB1 := Lib.hid (bth HA.out hb1 (Nat.le_refl _))
  have P1 := Lib.hid (P0.out.below hb1 (by have := HSA.out; omega))
  have hs1 : w.heap.size + 1 ≤ w1.heap.size := by have := hb1.size; have := HSA.out; omega
  have hfl := far_len ls t
  obtain ⟨gF, cF, hvF, hlF⟩ : ∃ gF cF, v1 = .slice (some ⟨gF, 0, none⟩) ls.length cF ∧ ls.length ≤ cF := by
    rcases ho1'.2 with ⟨_, h0⟩ | ⟨gF, cap, cur, hv, _, _, hcap, _⟩
    · rw [hfl] at h0; omega
    · exact ⟨gF, cap, by rw [hv, hfl], by omega⟩
  subst hvF
  have HFC : Hid (∀ W, Below w1.heap.size w1 W → ∀ k : Nat, k < ls.length → W.cell? ⟨gF, k, none⟩ = some (.int .i64 (farI ls t k))) := by
    intro W hW k hk
    have h1 := own_below HF.out hW
    rw [hfl] at h1
    rw [h1.cellAt k (by omega), I_at (by rw [hfl]; exact hk)]
    simp [upto_get]
  have hcx := HFC.out w1 (Below.refl _ _) x hx
  have hx2 : (x : Int) < (ls.length : Int) := by omega
  clear ho1' hb1 c0 c1 HC
  by_cases hneg : farI ls t x < 0
  · have HL : Hid (loopL ls t x = []) := by unfold loopL; rw [if_pos hneg]; rfl
    generalize farI ls t x = fx at *
    go_wp2_with fail
    go_ret
    exact ⟨_, rfl, by rw [HL.out]; exact none_ownZ _ _ _, HB1.out⟩
  · have HL : Hid (loopL ls t x = wayL ls t (farI ls t x).toNat x) := by unfold loopL; rw [if_neg hneg]; rfl
    have HFX : Hid (farI ls t x = ((farI ls t x).toNat : Int)) := by show _ = _; omega
    have HQ : Hid ((w1.alloc (.cells #[.int .i64 (x : Int)] 3)).ownsRow w1.heap.size 3 1 (.slice (some ⟨w1.heap.size, 0, none⟩) 1 1) ([] ++ [(x : Int)]).length (I ([] ++ [(x : Int)]))) := own_of_heap (heap_alloc_new w1 _) (Nat.le_refl _) rfl rfl (by unfold maxLen; omega)
    have HBQ : Hid (Below w1.heap.size w1 (w1.alloc (.cells #[.int .i64 (x : Int)] 3))) := (Below.refl _ w1).alloc (Nat.le_refl _) _
    obtain ⟨d0, d1⟩ := P1.out.cells
    generalize hfx : farI ls t x = fx at hcx hneg HL HFX
    have HX := Lib.hid hfx
    clear hfx
    go_wp2_with fail
    go_loopg [8, 9] fx.toNat (fun gk o a wr => ∃ (an2 : Nat) (pre : List Int), a = .int .i64 (an2 : Int) ∧ an2 < ls.length ∧ Hid (farI ls t (an2 : Int) = (gk : Int)) ∧ Hid (wr.ownsRow w1.heap.size 3 1 o (pre ++ [(an2 : Int)]).length (I (pre ++ [(an2 : Int)]))) ∧ Hid (wayL ls t fx.toNat x = pre ++ wayL ls t gk (an2 : Int)) ∧ Hid (pre.length ≤ fx.toNat) ∧ Hid (Below w1.heap.size w1 wr))
    case atStart => exact ⟨x, [], rfl, hx, HX.out.trans HFX.out, HQ, rfl, Nat.zero_le _, HBQ⟩
    case round =>
      clear HQ HBQ d0 d1 hcx
      obtain ⟨an2, pre, rfl, hal, HG, HO, HW, HP, HB⟩ := hrel
      obtain ⟨oa, oc, ho⟩ := own_slice HO.out
      subst ho
      by_cases hat2 : an2 = t
      · have hz : gk = 0 := by have h := HG.out; rw [hat2, farI_self] at h; omega
        rw [hz] at HW
        have HE : Hid (loopL ls t x = pre ++ [(an2 : Int)]) := by show _ = _; rw [HL.out, HW.out]; rfl
        have hat3 : ((an2 : Int) != (t : Int)) = false := by simp [hat2]
        go_wp2_with fail
        go_ret
        exact ⟨_, rfl, by rw [HE.out]; exact own_base HO.out (by omega), bth HB1.out HB.out (by omega)⟩
      · have hat3 : ((an2 : Int) != (t : Int)) = true := by simp; omega
        obtain ⟨g1, o1, a2, c2, hgn, hg1, hcell, hrow⟩ := hat an2 hal
        subst hgn
        obtain ⟨d0, d1⟩ := (P1.out.below HB.out (by omega)).cells
        have hal2 : (an2 : Int) < (ls.length : Int) := by omega
        have hcn : wr.cell? ⟨g1, o1 + an2, none⟩ = some (.slice a2 ls[an2].length c2) := ((bth HB1.out HB.out (by omega)).cell (p := ⟨g1, o1 + an2, none⟩) hg1).trans hcell
        have HRW : Hid (∀ W, Below w.heap.size w W → RowV W (.slice a2 ls[an2].length c2) (I ls[an2])) := fun W h => hrow.below h
        have hgp : ∃ m, gk = m + 1 := by
          cases gk with
          | zero => exact absurd (farI_zero HG.out) (by omega)
          | succ m => exact ⟨m, rfl⟩
        obtain ⟨gm, rfl⟩ := hgp
        have HNX := Lib.hid (next_far (ls := ls) (t := t) (k := an2) (m := gm) (by have := HG.out; push_cast at this; exact this))
        have HNA2 := Lib.hid (needsAt_get hal)
        have hnl : ls[an2].length ≤ c2 ∧ c2 ≤ 2 ^ 63 - 1 := by
          obtain ⟨_, _, h, h', h4, _⟩ := hrow.ints
          unfold maxLen at h4
          injection h with _ _ h3; omega
        obtain ⟨hnl, hc2⟩ := hnl
        have hgm : gm ≤ 10 := by have h1 := HSM.out an2 hal; have h2 := HG.out; omega
        clear hat hcell
        go_wp2_with fail
        go_loopw [9, 32] (fun a9 i wz => ∃ j : Nat, a9 = .int .i64 (an2 : Int) ∧ j ≤ ls[an2].length ∧ i = .int .i64 (j : Int) ∧ Hid (∀ i (hi : i < j) (hi2 : i < ls[an2].length), farI ls t ls[an2][i] ≠ gm) ∧ Hid (wz.ownsRow w1.heap.size 3 1 (.slice oa (pre ++ [(an2 : Int)]).length oc) (pre ++ [(an2 : Int)]).length (I (pre ++ [(an2 : Int)]))) ∧ Hid (Below w1.heap.size w1 wz)) (fun _ i _ => ls[an2].length - (intOf i).toNat)
        case atStart => exact ⟨0, rfl, Nat.zero_le _, rfl, fun i hi => by omega, HO, HB⟩
        case round =>
          clear HO HB d0 d1 hcn
          obtain ⟨j, rfl, hj, rfl, HJ, HO, HB⟩ := hrel
          by_cases hlt : j < ls[an2].length
          · have hxm := HIN.out an2 hal ls[an2][j] (List.getElem_mem hlt)
            obtain ⟨kn, hkn⟩ : ∃ kn : Nat, ls[an2][j] = kn := ⟨ls[an2][j].toNat, by omega⟩
            have hkl : kn < ls.length := by omega
            have hkl2 : (kn : Int) < (ls.length : Int) := by omega
            obtain ⟨gr, or, hra, hcr⟩ : ∃ gr or, a2 = some ⟨gr, or, none⟩ ∧ wr.cell? ⟨gr, or + j, none⟩ = some (.int .i64 (kn : Int)) := by
              obtain ⟨aa, cc, h, _, _, hc⟩ := (HRW.out wr (bth HB1.out HB.out (by omega))).ints
              injection h with h1 _ _
              obtain ⟨gr, or, h2, _, h3⟩ := hc j hlt
              exact ⟨gr, or, by rw [h1, h2], by rw [h3, hkn]⟩
            subst hra
            have hcf := HFC.out wr HB.out kn hkl
            have hca := HFC.out wr HB.out an2 hal
            rw [HG.out] at hca
            have hwr : IntKind.i64.wrap (((gm + 1 : Nat) : Int) - 1) = (gm : Int) := by rw [IntKind.wrap_i64]; omega
            by_cases hm : farI ls t (kn : Int) = gm
            · rw [hm] at hcf
              have HN : Hid (nextI ls t (an2 : Int) = (kn : Int)) := by
                have h := next_at (ls := ls) (t := t) (k := an2) (j := j) (by rw [HNA2.out]; exact hlt) (fun i hi => by simp only [HNA2.out]; rw [HG.out]; have := HJ.out i hi (by omega); omega) (by simp only [HNA2.out]; rw [hkn, HG.out]; omega)
                simp only [HNA2.out] at h
                rw [hkn] at h
                exact h
              have HG2 : Hid (farI ls t (kn : Int) = (gm : Int)) := hm
              have HW2 : Hid (wayL ls t fx.toNat x = (pre ++ [(an2 : Int)]) ++ wayL ls t gm (kn : Int)) := by show _ = _; rw [HW.out, wayL, HN.out]; simp
              have HP2 : Hid ((pre ++ [(an2 : Int)]).length ≤ fx.toNat) := by
                have h := congrArg List.length HW2.out
                rw [List.length_append, wayL_len, wayL_len] at h
                show _ ≤ _; omega
              have hpl : (I (pre ++ [(an2 : Int)])).length ≤ 1000000 := by
                rw [I_len]
                have h1 := HP2.out; have h2 := HSM.out x hx; have h3 := HX.out; have h4 := HFX.out; omega
              have HNA := Lib.hid (own_Z HO.out)
              clear hkn hxm HJ HNX HNA2 HO HN hm HW HP
              generalize pre ++ [(an2 : Int)] = pr at *
              go_wp2_with fail
              go_quiet (fail)
              have HNB : Hid (∀ n, (wr.drewN n).ownsRow w1.heap.size 3 1 (.slice oa pr.length oc) (I pr).length (I pr)) := fun _ => HNA.out
              have HBB : Hid (∀ n, Below w1.heap.size w1 (wr.drewN n)) := fun n => below_drewN HB.out n
              go_wp2_with (at_builtin; refine wpAppOne elemI rfl _ _ rfl w1.heap.size _ (I pr) rfl (HNB.out _) _ rfl rfl rfl hpl (HBB.out _).size ?_; intro v7 w7 hown7 hg7; have HN7 := Lib.hid (own_Z2 hown7); have HB7 := Lib.hid ((HBB.out _).trans (below_own (HNB.out _) hg7 (HBB.out _).size)); clear hown7 hg7)
              go_roundg gm
              case measure => omega
              case rel => exact ⟨kn, pr, rfl, hkl, HG2, HN7, HW2, HP2, HB7⟩
            · have HJ2 : Hid (∀ i (hi : i < j + 1) (hi2 : i < ls[an2].length), farI ls t ls[an2][i] ≠ gm) := fun i hi hi2 => by
                by_cases h : i < j
                · exact HJ.out i h hi2
                · obtain rfl : i = j := by omega
                  rw [hkn]; exact hm
              have hme : (farI ls t (kn : Int) == (gm : Int)) = false := by simp [hm]
              have HNB : Hid (∀ n, (wr.drewN n).ownsRow w1.heap.size 3 1 (.slice oa (pre ++ [(an2 : Int)]).length oc) (pre ++ [(an2 : Int)]).length (I (pre ++ [(an2 : Int)]))) := fun _ => HO.out
              have HBB : Hid (∀ n, Below w1.heap.size w1 (wr.drewN n)) := fun n => below_drewN HB.out n
              clear hkn hxm HJ HNX HNA2 HO hm HW HP
              generalize farI ls t (kn : Int) = fk at hme hcf
              go_wp2_with fail
              go_quiet (fail)
              go_wp2_with fail
              go_roundw
              case rel => exact ⟨j + 1, rfl, by omega, by go_num, HJ2, HNB.out _, HBB.out _⟩
              case measure => simp [intOf]; omega
          · exfalso
            obtain ⟨h1, h2⟩ := HNX.out
            rw [HNA2.out] at h2
            obtain ⟨i, hi, he⟩ := List.getElem_of_mem h2
            exact HJ.out i (by omega) hi (by rw [he]; exact h1)
end Go.Proofs.Ytgolhfmmlanmlaa

/- Walks: the way round, told by the reference. -/
namespace Go.Proofs.Ytgolhfmmlanmlaa
open Go.RowKit Pth

noncomputable def loopA (ls : List (List Int)) (l : List Int) (t x : Int) : List Int := if taskG ls l t && taskG ls l x then loopL ls t x else []
theorem loopA_no {ls : List (List Int)} {l : List Int} {t x : Int} (h : (taskG ls l t && taskG ls l x) = false) : loopA ls l t x = [] := by unfold loopA; rw [h]; rfl
theorem loopA_yes {ls : List (List Int)} {l : List Int} {t x : Int} (h : (taskG ls l t && taskG ls l x) = true) : loopA ls l t x = loopL ls t x := by unfold loopA; rw [h]; rfl

end Go.Proofs.Ytgolhfmmlanmlaa
