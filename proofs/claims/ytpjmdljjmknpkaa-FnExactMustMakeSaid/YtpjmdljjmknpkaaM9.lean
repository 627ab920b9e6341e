/- Texts of one claim, joined in their order. -/
import Derived.WalkKit
import Derived.Deep.Quiet
import Derived.StillTail
import Derived.BigQuiet
import Derived.Test.YtpjmdljjmknpkaaRows
import Derived.Test.YtpjmdljjmknpkaaM8

/- Marks of what is needed; markNeeds; neededTest and NeededFor of the program. -/
namespace Go.Proofs.Ytpjmdljjmknpkaa
open Go.RowKit Go.Shelf Pth

attribute [local go_sem] Oper.semAt_some

def nd1 (bs : List Bool) (nd : List Int) : List Bool := nd.foldl (fun b x => b.set x.toNat true) bs
/-- What one needs is marked, where it is marked itself. -/
def markStep (ls : List (List Int)) (b : List Bool) (x : Int) : List Bool := if markB b x then nd1 b (needsAt ls x) else b
def markNd (ls : List (List Int)) (bs : List Bool) (st : List Int) : List Bool := st.foldr (fun x b => markStep ls b x) bs
theorem nd1_len (nd : List Int) : ∀ bs, (nd1 bs nd).length = bs.length := by
  unfold nd1
  induction nd with
  | nil => intro bs; rfl
  | cons x r ih => intro bs; rw [List.foldl_cons, ih, List.length_set]
theorem nd1_snoc (bs : List Bool) (nd : List Int) (x : Int) : nd1 bs (nd ++ [x]) = (nd1 bs nd).set x.toNat true := by unfold nd1; rw [List.foldl_append]; rfl
theorem markStep_len (ls : List (List Int)) (b : List Bool) (x : Int) : (markStep ls b x).length = b.length := by
  unfold markStep; split
  · exact nd1_len _ _
  · rfl
theorem markNd_len (ls : List (List Int)) (st : List Int) (bs : List Bool) : (markNd ls bs st).length = bs.length := by
  induction st with
  | nil => rfl
  | cons x r ih => show (markStep ls (markNd ls bs r) x).length = _; rw [markStep_len, ih]
theorem markNd_drop {ls : List (List Int)} {bs : List Bool} {l : List Int} {k : Nat} (hk : k < l.length) : markNd ls bs (l.drop k) = markStep ls (markNd ls bs (l.drop (k + 1))) l[k] := by
  rw [List.drop_eq_getElem_cons hk]; rfl
theorem nd1_mem {nd : List Int} (h0 : ∀ x ∈ nd, 0 ≤ x) : ∀ {bs : List Bool} (_ : ∀ x ∈ nd, x < (bs.length : Int)) {y : Int} (_ : 0 ≤ y), markB (nd1 bs nd) y = true ↔ markB bs y = true ∨ y ∈ nd := by
  induction nd with
  | nil => intro bs _ y _; simp [nd1]
  | cons x r ih =>
    intro bs hb y hy
    have hx0 := h0 x (by simp)
    have hxb := hb x (by simp)
    show markB (nd1 (bs.set x.toNat true) r) y = true ↔ _
    rw [ih (fun z hz => h0 z (by simp [hz])) (fun z hz => by rw [List.length_set]; exact hb z (by simp [hz])) hy, markB_set (by omega) hy, show ((x.toNat : Nat) : Int) = x by omega, List.mem_cons]
    by_cases h : y = x
    · simp [h]
    · rw [if_neg h]; simp [h]
theorem markStep_mem {ls : List (List Int)} {b : List Bool} {u : Int} (h : ∀ x ∈ needsAt ls u, 0 ≤ x ∧ x < (b.length : Int)) {y : Int} (hy : 0 ≤ y) : markB (markStep ls b u) y = true ↔ markB b y = true ∨ (markB b u = true ∧ y ∈ needsAt ls u) := by
  unfold markStep
  by_cases hu : markB b u = true
  · rw [if_pos hu, nd1_mem (fun x hx => (h x hx).1) (fun x hx => (h x hx).2) hy]; simp [hu]
  · rw [if_neg hu]; simp [hu]
theorem Dn.congr2 {ls : List (List Int)} {l : List Int} (hg : GoodP ls l) {P Q : Int → Prop} (h : ∀ z ∈ l, P z → Q z) {y : Int} (hy : y ∈ l) (hu : Dn ls P y) : Dn ls Q y := by
  induction hu with
  | base hp => exact .base (h _ hy hp)
  | step h0 hx _ ih => exact .step h0 hx (ih (hg.all.2 ⟨h0, needs_in h0 hx⟩))
theorem markNd_dn {ls : List (List Int)} {l : List Int} (hg : GoodP ls l) {bs : List Bool} (hb : bs.length = ls.length) : ∀ y ∈ l, (markB (markNd ls bs l) y = true ↔ Dn ls (fun z => markB bs z = true) y) := by
  have := dn_whole hg (P := fun z => markB bs z = true) (S := fun j y => markB (markNd ls bs (l.drop (l.length - j))) y = true) (fun y _ => by simp [markNd]) (fun k hk y hy => by
    show markB (markNd ls bs (l.drop (l.length - (l.length - k)))) y = true ↔ markB (markNd ls bs (l.drop (l.length - (l.length - (k + 1))))) y = true ∨ (markB (markNd ls bs (l.drop (l.length - (l.length - (k + 1))))) l[k] = true ∧ _)
    rw [show l.length - (l.length - k) = k by omega, show l.length - (l.length - (k + 1)) = k + 1 by omega, markNd_drop hk]
    have hr := hg.range _ (List.getElem_mem hk)
    refine markStep_mem (fun x hx => ?_) (hg.range y hy).1
    rw [markNd_len, hb]
    exact hg.range x (List.mem_of_mem_take (hg.needs_take hk hx)))
  simpa using this
def needsF (ls : List (List Int)) (l : List Int) (t : Nat) (bs : List Bool) : List Bool := markNd ls (bs.set t true) l
theorem needsF_len (ls : List (List Int)) (l : List Int) (t : Nat) (bs : List Bool) : (needsF ls l t bs).length = bs.length := by unfold needsF; rw [markNd_len, List.length_set]
theorem needs_marks {ls : List (List Int)} {l : List Int} (hg : GoodP ls l) : ∀ cs : List Int, (∀ x ∈ cs, 0 ≤ x ∧ x < (ls.length : Int)) → ∀ y ∈ l, (markB (marksOf needsF ls l cs) y = true ↔ Dn ls (· ∈ cs) y) := by
  refine rev_ind ?_ ?_
  · intro _ y _
    show markB (List.replicate ls.length false) y = true ↔ _
    rw [markB_none]
    constructor
    · intro h; cases h
    · intro h; exact absurd (h.mono (Q := fun _ => False) (fun x hx => by simp at hx)) Dn.none
  · intro cs c ih hc y hy
    have hcr := hc c (by simp)
    have ihc := ih (fun x hx => hc x (by simp [hx]))
    have hlen := marksOf_len needsF_len ls l cs
    obtain ⟨t, rfl⟩ : ∃ t : Nat, c = t := ⟨c.toNat, by omega⟩
    rw [marksOf_snoc, show ((t : Int)).toNat = t by omega, needsF, markNd_dn hg (by rw [List.length_set, hlen]) y hy]
    have hset : ∀ z ∈ l, (markB ((marksOf needsF ls l cs).set t true) z = true ↔ z = (t : Int) ∨ Dn ls (· ∈ cs) z) := fun z hz => by
      rw [markB_set (by omega) (hg.range z hz).1, ← ihc z hz]
      by_cases h : z = (t : Int)
      · simp [h]
      · rw [if_neg h]; simp [h]
    constructor
    · intro h
      refine Dn.twice (P := fun z => z = (t : Int) ∨ Dn ls (· ∈ cs) z) (fun x hx => ?_) (Dn.congr2 hg (fun z hz h => (hset z hz).1 h) hy h)
      rcases hx with rfl | hx
      · exact .base (by simp)
      · exact hx.mono (fun z hz => by simp [hz])
    · intro h
      refine Dn.congr2 hg (fun z hz h => (hset z hz).2 ?_) hy h
      rw [List.mem_append, List.mem_singleton] at h
      rcases h with h | h
      · exact .inr (.base h)
      · exact .inl h
theorem needs_told {ls : List (List Int)} {l cs : List Int} (hg : GoodP ls l) (hc : ∀ x ∈ cs, 0 ≤ x ∧ x < (ls.length : Int)) : ∀ y ∈ l, markB (marksOf needsF ls l cs) y = hasL (needS ls cs) y := by
  intro y hy
  rw [Bool.eq_iff_iff, needs_marks hg cs hc y hy, hasL, decide_eq_true_iff, mem_needS]
  exact ⟨fun h => ⟨hg.range y hy, h⟩, fun h => h.2⟩

/-- The marks behind so many rounds. -/
def ndPre (ls : List (List Int)) (bs : List Bool) {zs : List Int} (pre : List (InL zs)) : List Bool := pre.foldl (fun b p => markStep ls b p.1.2) bs
theorem ndPre_snoc (ls : List (List Int)) (bs : List Bool) {zs : List Int} (pre : List (InL zs)) (x : InL zs) : ndPre ls bs (pre ++ [x]) = markStep ls (ndPre ls bs pre) x.1.2 := by unfold ndPre; rw [List.foldl_append]; rfl
theorem ndPre_len (ls : List (List Int)) {zs : List Int} (pre : List (InL zs)) : ∀ bs : List Bool, (ndPre ls bs pre).length = bs.length := by
  induction pre with
  | nil => intro bs; rfl
  | cons x r ih => intro bs; show (ndPre ls (markStep ls bs x.1.2) r).length = _; rw [ih, markStep_len]
theorem ndPre_down (ls : List (List Int)) (bs : List Bool) (zs : List Int) (hne : 0 < zs.length) : ∀ d j, j + d = zs.length → ndPre ls bs (downL zs hne j) = markNd ls bs (zs.drop j) := by
  intro d
  induction d with
  | zero =>
    intro j hj
    obtain rfl : j = zs.length := by omega
    rw [downL_end, List.drop_length]
    rfl
  | succ d ih =>
    intro j hj
    have hjl : j < zs.length := by omega
    rw [downL_next zs hne hjl, ndPre_snoc, ih (j + 1) (by omega), (inAt_is hjl).2, markNd_drop hjl]
theorem ndPre_all (ls : List (List Int)) (bs : List Bool) (zs : List Int) (hne : 0 < zs.length) : ndPre ls bs (downL zs hne 0) = markNd ls bs zs := by
  rw [ndPre_down ls bs zs hne zs.length 0 (by omega), List.drop_zero]

theorem own_kept {w w' : World} {B e n : Nat} {v : Value} {xs : List Value} {row : Option Nat} (h : w.ownsRow B e 1 v n xs) (hg : w.grownBy w' row) (hr : ∀ r, row = some r → ∃ o : Obj, w.heap[r]? = some o ∧ o.isCells = false) : w'.ownsRow B e 1 v n xs := by
  refine ⟨h.1, ?_⟩
  rcases h.2 with h0 | ⟨g, cap, cur, hv, hB, hh, r⟩
  · exact .inl h0
  · refine .inr ⟨g, cap, cur, hv, hB, (hg.block g (lt_of_block hh) (fun hi => ?_)).trans hh, r⟩
    obtain ⟨o, ho, hc⟩ := hr g hi.symm
    rw [hh] at ho
    injection ho with ho
    subst ho
    simp [Obj.isCells] at hc
theorem block_kept {w w' : World} {b t : Nat} {cs : Array Value} {row : Option Nat} (h : w.heap[b]? = some (.cells cs t (0, 0))) (hg : w.grownBy w' row) (hr : ∀ r, row = some r → ∃ o : Obj, w.heap[r]? = some o ∧ o.isCells = false) : w'.heap[b]? = some (.cells cs t (0, 0)) := by
  refine (hg.block b (lt_of_block h) (fun hi => ?_)).trans h
  obtain ⟨o, ho, hc⟩ := hr b hi.symm
  rw [h] at ho
  injection ho with ho
  subst ho
  simp [Obj.isCells] at hc
theorem grown_more {w W W' : World} {g B : Nat} {row : Option Nat} (h : w.grownBy W (some g)) (hg : W.grownBy W' row) (hB : w.heap.size ≤ B) (hr : ∀ r, row = some r → B ≤ r) : w.grownBy W' (some g) :=
  ⟨hg.os.trans h.os, hg.tape.trans h.tape, hg.output.trans h.output, Nat.le_trans h.size hg.size, fun i hi hn => (hg.block i (Nat.lt_of_lt_of_le hi h.size) (fun e => by have := hr i e.symm; omega)).trans (h.block i hi hn)⟩
/-- What holds between two rounds. -/
def NdAt (nb : Nat) (ls : List (List Int)) (bs : List Bool) (nv ov : Value) (gm cm : Nat) (w0 w : World) {zs : List Int} (pre : List (InL zs)) (W : World) : Prop :=
  W.ownsRow w0.heap.size 4 1 (.slice (some ⟨gm, 0, none⟩) nb cm) nb (Bo (ndPre ls bs pre)) ∧ Blk2 W w.heap.size 26 nv ov ∧ Blk1 W (w.heap.size + 1) 81 (.slice (some ⟨gm, 0, none⟩) nb cm) ∧ Below w0.heap.size w0 W ∧ w.grownBy W (some gm) ∧ w.heap.size + 3 ≤ W.heap.size
theorem ndAt_own {nb : Nat} {ls : List (List Int)} {bs : List Bool} {nv ov : Value} {gm cm : Nat} {w0 w : World} {zs : List Int} {B : Nat} (h0 : w0.heap.size ≤ w.heap.size) (hB : w.heap.size ≤ B) : OwnFrom B (NdAt nb ls bs nv ov gm cm w0 w (zs := zs)) := by
  intro s W W' row hs hg hr
  obtain ⟨h1, h2, h3, h4, h5, h6⟩ := hs
  have hr' : ∀ r, row = some r → ∃ o : Obj, W.heap[r]? = some o ∧ o.isCells = false := fun r e => (hr r e).2
  exact ⟨own_kept h1 hg hr', block_kept h2 hg hr', block_kept h3 hg hr', h4.grown hg h4.size (fun k e => by have := (hr k e).1; omega), grown_more h5 hg hB (fun r e => (hr r e).1), Nat.le_trans h6 hg.size⟩

set_option maxRecDepth 100000 in
set_option maxHeartbeats 8000000 in
theorem markNeedsG_any (ls : List (List Int)) (l st : List Int) (t : Nat) (bs : List Bool) (v s : Value) (gm cm : Nat) (w0 w : World) (hst : GraphV w0 v ls l) (hsr : RowV w0 s (I st)) (hb0 : Below w0.heap.size w0 w)
    (hown : w.ownsRow w0.heap.size 4 1 (.slice (some ⟨gm, 0, none⟩) bs.length cm) bs.length (Bo bs)) (hbl : bs.length = ls.length) (h10 : ls.length ≤ 10) (hs10 : st.length ≤ 1000) (hne : 0 < st.length) (ht : t < ls.length) (hin : ∀ x ∈ st, 0 ≤ x ∧ x < (ls.length : Int)) (hnd : ∀ k (hk : k < ls.length), ∀ x ∈ ls[k], 0 ≤ x ∧ x < (ls.length : Int)) :
    Calls Try.prog 116 #[v, s, .int .i64 (t : Int), .slice (some ⟨gm, 0, none⟩) bs.length cm] w fun e w' => e = .returned (.tuple #[]) ∧ Below w0.heap.size w0 w' ∧ w'.ownsRow w0.heap.size 4 1 (.slice (some ⟨gm, 0, none⟩) bs.length cm) bs.length (Bo (markNd ls (bs.set t true) st)) ∧ w.grownBy w' (some gm) := by
  have HV := Lib.hid hst
  obtain ⟨nv, ov, rfl, h1, h2⟩ := hst
  obtain ⟨an, cn, rfl, hn1, hn2, hat⟩ := h1.lists
  obtain ⟨ao, co, rfl, ho1, ho2, _⟩ := h2.ints
  obtain ⟨sa, sc, rfl, hs1, hs2, hsat⟩ := hsr.ints
  obtain ⟨sb, so, hsa, hsb, _⟩ := hsat 0 hne
  subst hsa
  have HSC : Hid (∀ j (hj : j < st.length), w0.cell? ⟨sb, so + j, none⟩ = some (.int .i64 st[j])) := fun j hj => by
    obtain ⟨g, o, he, _, hc⟩ := hsat j hj
    obtain ⟨rfl, rfl⟩ := addr_inj he
    exact hc
  clear h1 h2 hsr hsat
  unfold maxLen at hn2 ho2 hs2
  have HAT := Lib.hid hat
  have HIN := Lib.hid hin
  have HND := Lib.hid hnd
  have HB0 := Lib.hid hb0
  have HNE := Lib.hid hne
  clear hat hin hnd
  have hgl := hown.lt gm rfl
  have hw0 := hb0.size
  obtain ⟨hcm1, hcm2⟩ : bs.length ≤ cm ∧ cm ≤ 2 ^ 63 - 1 := by
    rcases hown.2 with ⟨h, _⟩ | ⟨g, cap, cur, hv, _, _, hcap, hmx, _⟩
    · injection h with h _ _; cases h
    · unfold maxLen at hmx; injection hv with _ _ h3; omega
  have htb : t < bs.length := by omega
  have htb2 : (t : Int) < (bs.length : Int) := by omega
  -- the world in which the loop begins
  obtain ⟨w1, hw1⟩ : ∃ w1, w1 = w.alloc (.cells #[.slice an ls.length cn, .slice ao l.length co] 26) := ⟨_, rfl⟩
  obtain ⟨w2, hw2⟩ : ∃ w2, w2 = w1.alloc (.cells #[.slice (some ⟨gm, 0, none⟩) bs.length cm] 81) := ⟨_, rfl⟩
  obtain ⟨w3, hw3⟩ : ∃ w3, w3 = w2.setCell ⟨gm, t, none⟩ (.bool true) := ⟨_, rfl⟩
  obtain ⟨w4, hw4⟩ : ∃ w4, w4 = w3.alloc (.cells #[.slice (some ⟨sb, so, none⟩) st.length sc] 24) := ⟨_, rfl⟩
  have b1 : Below w.heap.size w w1 := by rw [hw1]; exact (Below.refl _ w).alloc (Nat.le_refl _) _
  have b2 : Below w1.heap.size w1 w2 := by rw [hw2]; exact (Below.refl _ w1).alloc (Nat.le_refl _) _
  have b4 : Below w3.heap.size w3 w4 := by rw [hw4]; exact (Below.refl _ w3).alloc (Nat.le_refl _) _
  have z1 : w1.heap.size = w.heap.size + 1 := by rw [hw1]; simp
  have z2 : w2.heap.size = w.heap.size + 2 := by rw [hw2, World.size_alloc, z1]
  have o2 := own_below (own_below hown b1) b2
  have hst := o2.stored t (.bool true)
  rw [Bo_set, ← hw3] at hst
  have z3 : w3.heap.size = w.heap.size + 2 := by rw [hw3]; simp [z2]
  have z4 : w4.heap.size = w.heap.size + 3 := by rw [hw4, World.size_alloc, z3]
  have hfz := o2.frozenAt t
  have hcz : w2.cell? ⟨gm, t, none⟩ = some (.bool bs[t]) := by rw [o2.cellAt t (by omega), Bo_get? htb]
  have k2 : Blk1 w2 (w.heap.size + 1) 81 (.slice (some ⟨gm, 0, none⟩) bs.length cm) := by rw [hw2, ← z1]; exact Blk1.new
  have p2 : Blk2 w2 w.heap.size 26 (.slice an ls.length cn) (.slice ao l.length co) := by
    have : Blk2 w1 w.heap.size 26 (.slice an ls.length cn) (.slice ao l.length co) := by rw [hw1]; exact Blk2.new
    exact this.below b2 (by omega)
  have hcb := k2.cell
  have k3 := k2.beside hst.2 (by intro e; have := Option.some.inj e; omega)
  have p3 := p2.beside hst.2 (by intro e; have := Option.some.inj e; omega)
  have g3 : w.grownBy w3 (some gm) := grown_trans (below_grown (bth b1 b2 (Nat.le_refl _))) hst.2
  have bb3 : Below w0.heap.size w0 w3 := (HB0.out.trans ((bth b1 b2 (Nat.le_refl _)).mono hw0)).trans (only_below hst.2 hgl.1 (by omega))
  have HI0 : Hid (NdAt bs.length ls (bs.set t true) (.slice an ls.length cn) (.slice ao l.length co) gm cm w0 w (zs := st) [] w4) := by
    refine ⟨?_, p3.below b4 (by omega), ?_, bb3.trans (b4.mono (by omega)), grown_trans g3 (below_grown b4), by omega⟩
    · exact own_below hst.1 b4
    · exact k3.below b4 (by omega)
  have kx : Blk1 w4 (w.heap.size + 2) 24 (.slice (some ⟨sb, so, none⟩) st.length sc) := by rw [hw4, ← z3]; exact Blk1.new
  have HST4 := Lib.hid (fun n (hn : 1 ≤ n) => back_stops n hn (w.heap.size + 2) w4.heap.size gm sb so sc st hs10 hne (by omega) (by omega) (by omega) (by omega) w4 (Nat.le_refl _) kx.cell hs1 (fun j hj => ((bb3.trans (b4.mono (by omega))).cell (p := ⟨sb, so + j, none⟩) hsb).trans (HSC.out j hj)))
  have HOW : Hid (OwnFrom w4.heap.size (NdAt bs.length ls (bs.set t true) (.slice an ls.length cn) (.slice ao l.length co) gm cm w0 w (zs := st))) := ndAt_own hw0 (by omega)
  have HALL := Lib.hid (ndPre_all ls (bs.set t true) st hne)
  have HPL := Lib.hid (fun pre => ndPre_len ls (zs := st) pre (bs.set t true))
  have HW3 : Hid (w3 = ((w.alloc (.cells #[.slice an ls.length cn, .slice ao l.length co] 26)).alloc (.cells #[.slice (some ⟨gm, 0, none⟩) bs.length cm] 81)).setCell ⟨gm, t, none⟩ (.bool true)) := by show _ = _; rw [hw3, hw2, hw1]
  have HZ4 := Lib.hid z4
  have HZ3 := Lib.hid z3
  have HW4 := Lib.hid hw4
  rw [hw2, hw1] at hcz hfz hcb
  have HBL := Lib.hid hbl
  have HGL := Lib.hid hgl
  clear hbl hgl
  clear hown hst o2 b1 b2 b4 z1 z2 z3 z4 hw1 hw2 hw3 hw4 k2 p2 k3 p3 g3 bb3 kx hb0 HV
  refine (callsIn_wide (n := 6)).1 ?_
  refine callsIn_of_wp_marks Try.func116 rfl trivial ?_ rfl
  simp only [Try.ntmps116, List.size_toArray, List.length_cons, List.length_nil, Nat.reduceAdd, Nat.reduceSub, Array.replicate_succ, Array.replicate_zero, List.push_toArray, List.append_toArray, List.nil_append, List.cons_append]
  gi_wp2_with fail
  rw [← HW3.out]
  refine ⟨trivial, (back_in _ _ _ _ _).mono ?_⟩
  rintro e wx ⟨rfl, hwx⟩
  obtain rfl : w4 = wx := by rw [hwx, HW4.out]
  clear hwx hfz hcz hcb
  rw [HZ3.out]
  gi_wp2_with fail
  refine wpIn_rangeFunc_ownG rfl (by omega) (gf := 140) (lb := #[.pointer (some ⟨w.heap.size + 2, 0, none⟩)]) rfl trivial (enters_of Try.func140 (by kernel_rfl) rfl)
    (HST4.out _ (by omega)) KeepN.trans (keepN_b (Nat.le_refl _)) (Below.refl _ _) (fun _ => rfl)
    (NdAt bs.length ls (bs.set t true) (.slice an ls.length cn) (.slice ao l.length co) gm cm w0 w (zs := st))
    (fun _ _ _ => False)
    HOW.out
    (fun _ _ _ _ _ hs _ _ => hs)
    HI0.out
    (fun x => { tmps := #[.agg #[.slice an ls.length cn, .slice ao l.length co], .slice (some ⟨sb, so, none⟩) st.length sc, .int .i64 (t : Int), .slice (some ⟨gm, 0, none⟩) bs.length cm, .pointer (some ⟨w.heap.size, 0, none⟩), undef, undef, .pointer (some ⟨w.heap.size + 1, 0, none⟩), undef, .int .i64 x.1.2, undef, undef, .slice (some ⟨gm, 0, none⟩) bs.length cm, .int .i64 (t : Int), .pointer (some ⟨gm, t, none⟩), .slice (some ⟨sb, so, none⟩) st.length sc, .func (.func 140) #[] #[.pointer (some ⟨w.heap.size + 2, 0, none⟩)], .int .i64 (x.1.1 : Int), .int .i64 x.1.2, undef, undef, undef, undef, undef, undef, undef, undef, undef, undef, undef, undef, undef, undef, undef, undef, undef, undef, undef], defers := [] }) ?assign ?body ?done ?stop
  case assign =>
    intro l x W K hK
    gi_wp2
    exact hK
  case body =>
    rintro lr pre x W ⟨hO, hP, hX, hB, hG, hS⟩ _
    have hx := HIN.out x.1.2 x.2
    have HPS := Lib.hid (ndPre_snoc ls (bs.set t true) pre x)
    have hpl : (ndPre ls (bs.set t true) pre).length = bs.length := by rw [HPL.out pre, List.length_set]
    obtain ⟨un, hun⟩ : ∃ un : Nat, x.1.2 = un := ⟨x.1.2.toNat, by omega⟩
    have hul : un < ls.length := by omega
    have hul2 : (un : Int) < (ls.length : Int) := by omega
    have hub : un < bs.length := by have := HBL.out; omega
    have hub2 : (un : Int) < (bs.length : Int) := by omega
    generalize ndPre ls (bs.set t true) pre = bk at *
    rw [hun] at HPS ⊢
    have hcu : W.cell? ⟨gm, un, none⟩ = some (.bool (markB bk (un : Int))) := by rw [hO.cellAt un (by omega), Bo_get? (by omega), markB_get (by omega)]
    have hcx := hX.cell
    obtain ⟨d0, d1⟩ := hP.cells
    have hgb : gm < w4.heap.size := by have := HGL.out.2; have := HZ4.out; omega
    have hgw := HGL.out.1
    have HGG := Lib.hid hG
    rcases hm : markB bk (un : Int) with _ | _
    · have HE : Hid (markStep ls bk (un : Int) = bk) := by show _ = _; unfold markStep; rw [hm]; rfl
      rw [hm] at hcu
      clear hm
      have HI1 : Hid (NdAt bs.length ls (bs.set t true) (.slice an ls.length cn) (.slice ao l.length co) gm cm w0 w (zs := st) (pre ++ [x]) W) := ⟨by rw [HPS.out, HE.out]; exact hO, hP, hX, hB, hG, hS⟩
      clear hO hP hX hB hG
      gi_wp2
      exact ⟨KeepsFrom.refl _ _, KeepN.refl _ _ _, HI1.out⟩
    · have HE : Hid (markStep ls bk (un : Int) = nd1 bk ls[un]) := by show _ = _; unfold markStep; rw [hm, if_pos rfl, needsAt_get hul]
      rw [hm] at hcu
      clear hm
      obtain ⟨g1, o1, a2, c2, hgn, hg1, hcell1, hrow⟩ := HAT.out un hul
      subst hgn
      have hcn : W.cell? ⟨g1, o1 + un, none⟩ = some (.slice a2 ls[un].length c2) := (hB.cell (p := ⟨g1, o1 + un, none⟩) hg1).trans hcell1
      have HRW : Hid (∀ W, Below w0.heap.size w0 W → RowV W (.slice a2 ls[un].length c2) (I ls[un])) := fun W h => hrow.below h
      have hnl : ls[un].length ≤ c2 ∧ c2 ≤ 2 ^ 63 - 1 := by
        obtain ⟨_, _, h, h', h4, _⟩ := hrow.ints
        unfold maxLen at h4
        injection h with _ _ h3; omega
      obtain ⟨hnl, hc2⟩ := hnl
      have HO := Lib.hid hO
      have HP := Lib.hid hP
      have HX := Lib.hid hX
      have HB := Lib.hid hB
      have HPL2 := Lib.hid hpl
      clear hO hP hX hB hG hcell1 hrow hpl
      gi_wp2
      clear hcu hcx hcn d0 d1
      gi_loopw [30] (fun i wz => ∃ m : Nat, m ≤ ls[un].length ∧ i = .int .i64 (m : Int) ∧ Hid (wz.ownsRow w0.heap.size 4 1 (.slice (some ⟨gm, 0, none⟩) bs.length cm) bs.length (Bo (nd1 bk (ls[un].take m)))) ∧ Hid (Blk2 wz w.heap.size 26 (.slice (some ⟨g1, o1, none⟩) ls.length cn) (.slice ao l.length co)) ∧ Hid (Blk1 wz (w.heap.size + 1) 81 (.slice (some ⟨gm, 0, none⟩) bs.length cm)) ∧ Hid (Below w0.heap.size w0 wz) ∧ Hid (W.grownBy wz (some gm))) (fun i _ => ls[un].length - (intOf i).toNat)
      case atStart => exact ⟨0, Nat.zero_le _, rfl, HO, HP, HX, HB, grown_refl _ _⟩
      case round =>
        clear HO HP HX HB
        obtain ⟨m, hm, rfl, HO, HP, HX, HB, HG⟩ := hrel
        by_cases hlt2 : m < ls[un].length
        · have hxm := HND.out un hul ls[un][m] (List.getElem_mem hlt2)
          obtain ⟨kn, hkn⟩ : ∃ kn : Nat, ls[un][m] = kn := ⟨ls[un][m].toNat, by omega⟩
          have hkl : kn < bs.length := by have := HBL.out; omega
          have hkl2 : (kn : Int) < (bs.length : Int) := by omega
          obtain ⟨gr, or, hra, hcr⟩ : ∃ gr or, a2 = some ⟨gr, or, none⟩ ∧ wr.cell? ⟨gr, or + m, none⟩ = some (.int .i64 (kn : Int)) := by
            obtain ⟨aa, cc, h, _, _, hc⟩ := (HRW.out wr HB.out).ints
            injection h with h1 _ _
            obtain ⟨gr, or, h2, _, h3⟩ := hc m hlt2
            exact ⟨gr, or, by rw [h1, h2], by rw [h3, hkn]⟩
          subst hra
          have hlo : (nd1 bk (ls[un].take m)).length = bs.length := by rw [nd1_len, HPL2.out]
          have HE2 : Hid (nd1 bk (ls[un].take (m + 1)) = (nd1 bk (ls[un].take m)).set kn true) := by
            show _ = _
            rw [List.take_succ_eq_append_getElem hlt2, nd1_snoc, hkn, show ((kn : Int)).toNat = kn by omega]
          generalize nd1 bk (ls[un].take m) = bo at *
          have hck : wr.cell? ⟨gm, kn, none⟩ = some (.bool (markB bo (kn : Int))) := by rw [HO.out.cellAt kn (by omega), Bo_get? (by omega), markB_get (by omega)]
          have hf2 := HO.out.frozenAt kn
          have hcx := HX.out.cell
          have hst := HO.out.stored kn (.bool true)
          rw [Bo_set, ← HE2.out] at hst
          have HO1 := Lib.hid hst.1
          have HB1 := Lib.hid (HB.out.trans (only_below hst.2 hgw HB.out.size))
          have HP1 := Lib.hid (HP.out.beside hst.2 (by intro e; have := Option.some.inj e; have := HGL.out.2; omega))
          have HX1 := Lib.hid (HX.out.beside hst.2 (by intro e; have := Option.some.inj e; have := HGL.out.2; omega))
          have HG1 := Lib.hid (grown_trans HG.out hst.2)
          clear hst HE2 hlo hkn hxm HO HP HB HX HG
          generalize markB bo (kn : Int) = bn at *
          gi_wp2
          go_roundw
          case rel => exact ⟨m + 1, by omega, by go_num, HO1, HP1, HX1, HB1, HG1⟩
          case measure => simp [intOf]; omega
        · rw [List.take_of_length_le (by omega), ← HE.out, ← HPS.out] at HO
          have HI1 : Hid (NdAt bs.length ls (bs.set t true) (.slice (some ⟨g1, o1, none⟩) ls.length cn) (.slice ao l.length co) gm cm w0 w (zs := st) (pre ++ [x]) wr) := ⟨HO.out, HP.out, HX.out, HB.out, grown_trans HGG.out HG.out, Nat.le_trans hS HG.out.size⟩
          gi_wp2
          exact ⟨KeepsFrom.of_grownBy HG.out (fun j e => by cases e; exact hgb), fun i hi hn => HG.out.block i (by have := HZ4.out; omega) (fun e => hn (Option.some.inj e)), HI1.out⟩
  case done =>
    rintro D ys W hD rfl ⟨hO, hP, hX, hB, hG, hS⟩ hK
    rw [HALL.out] at hO
    gi_wp2
    refine ⟨by simp, .inl ⟨_, _, rfl, run_takeDeferred hK, ?_⟩⟩
    have hdd : w.heap.size ≤ D := by have := HZ4.out; omega
    have hgb := grownBy_putObj' W D (.deferred none)
    have hrr : ∀ r, some D = some r → ∃ o : Obj, W.heap[r]? = some o ∧ o.isCells = false := fun r e => by cases e; exact ⟨_, hK, rfl⟩
    refine ⟨_, results_none rfl _ _ _, rfl, hB.grown hgb hB.size (fun k e => by cases e; omega), own_kept hO hgb hrr, grown_more hG hgb (Nat.le_refl _) (fun r e => by cases e; exact hdd)⟩
  case stop =>
    rintro D c pre W _ _ h _
    exact h.elim
theorem needs_mark : MarkC 116 needsF := by
  intro ls l t bs nv ov gm cm w0 w hG hst hb hown hbl ht
  have h1 := hG.same
  have h2 := hG.low
  have h3 := hG.high
  refine (markNeedsG_any ls l l t bs _ ov gm cm w0 w hst hst.parts.2 hb hown hbl hG.high (by omega) (by omega) ht (fun x hx => by have := hG.tasks x hx; omega) (good_in hG)).mono ?_
  rintro e w' ⟨he, _, ho, hg⟩
  exact ⟨he, ho, hg⟩

set_option maxRecDepth 20000 in
set_option maxHeartbeats 1000000 in
theorem neededTest_any (ls : List (List Int)) (l cs : List Int) (v u : Value) (w : World) (hst : GraphV w v ls l) (hrow : RowV w u (I cs)) (hG : GoodG ls l) (hc : ∀ x ∈ cs, 0 ≤ x ∧ x < (ls.length : Int)) :
    Calls Try.prog 99 #[v, u] w (TestSPost (· ∈ l) (hasL (needS ls cs)) w) := by
  have HV := Lib.hid hst
  obtain ⟨nv, ov, rfl, h1, h2⟩ := hst
  obtain ⟨an, cn, rfl, hn1, hn2, hat⟩ := h1.lists
  obtain ⟨ao, co, rfl, ho1, ho2, hao⟩ := h2.ints
  clear h1 h2
  unfold maxLen at hn2 ho2
  have HAT := Lib.hid hat
  have HAO := Lib.hid hao
  clear hat hao
  obtain ⟨wa, hwa⟩ : ∃ wa, wa = w.alloc (.cells #[.slice an ls.length cn, .slice ao l.length co] 26) := ⟨_, rfl⟩
  have P0 : Hid (Blk2 wa w.heap.size 26 (.slice an ls.length cn) (.slice ao l.length co)) := by rw [hwa]; exact Blk2.new
  have HA : Hid (Below w.heap.size w wa) := by rw [hwa]; exact (Below.refl w.heap.size w).alloc (Nat.le_refl _) _
  have hsa : wa.heap.size = w.heap.size + 1 := by rw [hwa]; simp
  have HSA := Lib.hid hsa
  have hsz : w.heap.size < wa.heap.size := by omega
  have HWA := Lib.hid hwa
  obtain ⟨c0, c1⟩ := P0.out.cells
  have HM := Lib.hid (markedTest_any 116 needsF needs_mark (enters_of Try.func116 (by kernel_rfl) rfl) needsF_len ls l cs _ u wa (HV.out.below HA.out) (hrow.below HA.out) hG hc)
  have HTD := Lib.hid (needs_told hG.toP hc)
  obtain ⟨ua, uc, rfl, hu1, hu2, _⟩ := hrow.ints
  clear hwa hsa hrow hG hc
  go_enter Try.func99, Try.ntmps99
  go_wp2_with fail
  rw [← HWA.out]
  refine HM.out.mono ?_
  rintro e w1 ⟨fv, rfl, ht, hb1⟩
  have HT := Lib.hid (ht.congr HTD.out)
  have HB1 := Lib.hid (bth HA.out hb1 (Nat.le_refl _))
  clear ht hb1 c0 c1
  go_wp2_with fail
  go_ret
  exact ⟨_, rfl, HT.out, HB1.out⟩

set_option maxRecDepth 20000 in
set_option maxHeartbeats 8000000 in
theorem implNeeded_any (ls : List (List Int)) (l cs : List Int) (v ucs : Value) (w : World) (hst : GraphV w v ls l) (hcs : RowV w ucs (I cs)) :
    Calls Try.prog 42 #[v, ucs] w (ListOk (needA ls l cs) (someG ls l cs) w) := by
  have HV := Lib.hid hst
  obtain ⟨nv, ov, rfl, h1, h2⟩ := hst
  obtain ⟨an, cn, rfl, hn1, hn2, hat⟩ := h1.lists
  obtain ⟨ao, co, rfl, ho1, ho2, hao⟩ := h2.ints
  clear h1 h2
  unfold maxLen at hn2 ho2
  have HAT := Lib.hid hat
  have HAO := Lib.hid hao
  clear hat hao
  obtain ⟨wa, hwa⟩ : ∃ wa, wa = w.alloc (.cells #[.slice an ls.length cn, .slice ao l.length co] 26) := ⟨_, rfl⟩
  have P0 : Hid (Blk2 wa w.heap.size 26 (.slice an ls.length cn) (.slice ao l.length co)) := by rw [hwa]; exact Blk2.new
  have HA : Hid (Below w.heap.size w wa) := by rw [hwa]; exact (Below.refl w.heap.size w).alloc (Nat.le_refl _) _
  have hsa : wa.heap.size = w.heap.size + 1 := by rw [hwa]; simp
  have HSA := Lib.hid hsa
  have hsz : w.heap.size < wa.heap.size := by omega
  have HWA := Lib.hid hwa
  obtain ⟨c0, c1⟩ := P0.out.cells
  have HUcs := Lib.hid hcs
  obtain ⟨xacs, xccs, rfl, hxlcs, hxmcs, _⟩ := hcs.ints
  clear hcs
  unfold maxLen at hxmcs
  have HGD := Lib.hid (fun W (h : Below wa.heap.size wa W) => implGood_any ls l _ W (HV.out.below (bth HA.out h (Nat.le_refl _))))
  have HTcs := Lib.hid (fun W (h : Below wa.heap.size wa W) => areTasks_any ls l cs _ _ W (HV.out.below (bth HA.out h (Nat.le_refl _))) (HUcs.out.below (bth HA.out h (Nat.le_refl _))))
  have HEQ : Hid ((goodG ls l && riseB 0 ((ls.length : Int) - 1) cs) = someG ls l cs) := some_eq _ _ _
  have HNo : Hid ((goodG ls l && riseB 0 ((ls.length : Int) - 1) cs) = false → needA ls l cs = [] ∧ someG ls l cs = false) := fun h => by
    rw [HEQ.out] at h
    exact ⟨needA_no h, h⟩
  have HYes : Hid ((goodG ls l && riseB 0 ((ls.length : Int) - 1) cs) = true → needA ls l cs = needA_v ls l cs ∧ someG ls l cs = true ∧ GoodG ls l ∧ (Rise cs ∧ ∀ x ∈ cs, 0 ≤ x ∧ x < (ls.length : Int))) := fun h => by
    rw [HEQ.out] at h
    exact ⟨needA_yes h, h, some_yes h⟩
  clear HEQ
  generalize someG ls l cs = bb at *
  generalize needA ls l cs = R at *
  generalize goodG ls l = b0 at *
  generalize riseB 0 ((ls.length : Int) - 1) cs = bcs at *
  clear hwa
  go_enter Try.func42, Try.ntmps42
  go_wp2_with fail
  rw [← HWA.out]
  refine (HGD.out wa (Below.refl _ _)).mono ?_
  rintro e w1 ⟨rfl, hb1⟩
  have K1 := Lib.hid hb1
  obtain ⟨p1, q1⟩ := (P0.out.below K1.out hsz).cells
  clear hb1 c0 c1
  cases b0 with
  | false =>
    have hR := HNo.out rfl
    obtain ⟨rfl, rfl⟩ := hR
    clear HNo HYes HGD HTcs
    go_wp2_with fail
    go_ret2
    exact ⟨_, rfl, none_ownZ _ _ _, bth HA.out K1.out (Nat.le_refl _)⟩
  | true =>
    go_wp2_with fail
    refine (HTcs.out w1 K1.out).mono ?_
    rintro e w2 ⟨rfl, hb2⟩
    have K2 := Lib.hid (bth K1.out hb2 (Nat.le_refl _))
    obtain ⟨p2, q2⟩ := (P0.out.below K2.out hsz).cells
    clear hb2 p1 q1
    cases bcs with
    | false =>
      have hR := HNo.out rfl
      obtain ⟨rfl, rfl⟩ := hR
      clear HNo HYes HGD HTcs
      go_wp2_with fail
      go_ret2
      exact ⟨_, rfl, none_ownZ _ _ _, bth HA.out K2.out (Nat.le_refl _)⟩
    | true =>
      obtain ⟨hR, rfl, hG, hccs⟩ := HYes.out rfl
      clear HNo HYes HGD HTcs
      have HKW := Lib.hid (bth HA.out K2.out (Nat.le_refl _))
      have PW := Lib.hid (P0.out.below K2.out hsz)
      have hszW := Nat.lt_of_lt_of_le hsz K2.out.size
      have HR : Hid (R = needS ls cs) := hR
      have HGP := Lib.hid hG.toP
      have HPI : Hid ((upto ls.length).filter (hasL (needS ls cs)) = needS ls cs) := by
        show _ = _
        refine rise_ext (filter_rise (upto_rise _)) (needS_rise _ _) (fun x => ?_)
        rw [List.mem_filter, mem_upto, hasL, decide_eq_true_iff]
        exact ⟨fun h => h.2, fun h => ⟨(mem_needS.1 h).1, h⟩⟩
      have HTS := Lib.hid (fun W (h : Below w.heap.size w W) => neededTest_any ls l cs _ _ W (HV.out.below h) (HUcs.out.below h) hG hccs.2)
      have PD : Hid (Blk2 w2.drew w.heap.size 26 (.slice an ls.length cn) (.slice ao l.length co)) := PW.out
      have ks := PD.out.cells
      have hszD : w.heap.size < w2.drew.heap.size := hszW
      have HKD : Hid (Below w.heap.size w w2.drew) := Below.drew HKW.out
      clear hR hG hccs p2 q2
      go_wp2_with fail
      go_region_held3 (fun w' => w'.cell? ⟨w.heap.size, 0, none⟩ = some (.slice an ls.length cn) ∧ w'.cell? ⟨w.heap.size, 1, none⟩ = some (.slice ao l.length co)) (first | exact ks)
        (first
          | (go_at_call 99; refine (HTS.out _ (by exact HKD.out)).mono ?_; rintro e w7 ⟨fv, rfl, ht7, hb7⟩
             have ks := (PD.out.below hb7 hszD).cells
             have HT7 := Lib.hid ht7.toV
             have K7 := Lib.hid (bth HKD.out hb7 (Nat.le_refl _))
             have C7 := Lib.hid hb7
             clear ht7 hb7)
          | (go_at_call 93; refine (rising_any ls l (hasL (needS ls cs)) _ _ _ (HV.out.below K7.out) HT7.out HGP.out).mono ?_; rintro e w8 ⟨v8, rfl, ho8, hb8⟩
             have HO8 := Lib.hid ho8
             have K8 := Lib.hid (bth K7.out hb8 (Nat.le_refl _))
             have ks := (PD.out.below (bth C7.out hb8 (Nat.le_refl _)) hszD).cells
             clear ho8 hb8))
      all_goals
        rw [HPI.out, ← HR.out] at HO8
        go_wp2_with fail
        go_ret2
        exact ⟨_, rfl, own_base HO8.out K7.out.size, K8.out⟩
end Go.Proofs.Ytpjmdljjmknpkaa

/- A region that draws its order, whose first operations come in one forced order (a call that makes memory among them) and whose others only read: one walk in the order of the text. -/
namespace Go.Proofs.Ytpjmdljjmknpkaa
open Go.RowKit

theorem oper_wp_Q {P : Program} {o : Oper} {a : Act} {w : World} {K : Act → World → Prop} {Q Q' : Exit → Act → World → Prop} (hq : ∀ e a w, e ≠ .normal → Q e a w → Q' e a w) (hh : o.wp P a w K Q) : o.wp P a w K Q' := by
  unfold Oper.wp at *
  generalize (execOp a.eval o).run P w = r at *
  cases r with
  | ok n w' =>
    cases n <;> simp only [Oper.upon] at hh ⊢ <;>
      first
        | exact hh
        | exact Calls.mono hh (fun e w'' he => by cases e <;> first | exact he | exact hq _ _ _ (by simp) he | exact (let ⟨a, w, h⟩ := he; ⟨a, w, hq _ _ _ (by simp) h⟩))
  | halt x w' => cases x <;> simp only [Oper.upon] at hh ⊢ <;> first | exact hh | exact hq _ _ _ (by simp) hh

theorem lets_Q {Q Q' : Exit → Act → World → Prop} (hq : ∀ e a w, e ≠ .normal → Q e a w → Q' e a w) (h : LetsOut Q) : LetsOut Q' :=
  let ⟨a, w, h⟩ := h; ⟨a, w, hq _ _ _ (by simp) h⟩

theorem wpOp_Q {P : Program} {ops : Array Oper} {i : Nat} {a : Act} {w : World} {K : Act → World → Prop} {Q Q' : Exit → Act → World → Prop} (hq : ∀ e a w, e ≠ .normal → Q e a w → Q' e a w) (hh : wpOp P ops Q i K a w) : wpOp P ops Q' i K a w := by
  unfold wpOp at *
  split
  · simpa [*] using hh
  · rename_i o ho
    simp only [ho] at hh
    split
    · rename_i hw; simp only [hw, if_true] at hh; exact hh.imp (oper_wp_Q hq) (fun h => ⟨h.1, lets_Q hq h.2⟩)
    · rename_i hw; simp only [hw] at hh; exact hh

/-- T behind the head, Q at whatever else. -/
def Then (T : Act → World → Prop) (Q : Exit → Act → World → Prop) : Exit → Act → World → Prop
  | .normal, a, w => T a w
  | e, a, w => Q e a w
theorem then_normal {T : Act → World → Prop} {Q : Exit → Act → World → Prop} {a : Act} {w : World} (h : T a w) : Then T Q .normal a w := h
theorem then_Q {T : Act → World → Prop} {Q : Exit → Act → World → Prop} : ∀ e a w, e ≠ .normal → Then T Q e a w → Q e a w := fun e a w he h => by
  cases e <;> first | exact absurd rfl he | exact h

def headB (ops : Array Oper) : Nat → Nat → Array Bool → Bool
  | 0, _, _ => true
  | g + 1, k, listed => decide (Region.ready .any ops listed = [k]) && headB ops g (k + 1) (listed.setIfInBounds k true)
def setAll : Nat → Nat → Array Bool → Array Bool
  | 0, _, listed => listed
  | g + 1, k, listed => setAll g (k + 1) (listed.setIfInBounds k true)

theorem wpAny_head {P : Program} {ops : Array Oper} {T : Act → World → Prop} {Q : Exit → Act → World → Prop} {r : Nat} : ∀ (l : List Oper) (k : Nat) (listed : Array Bool) (a : Act) (w : World), (∀ j, j < l.length → l[j]? = ops[k + j]?) →
    headB ops l.length k listed = true → (∀ a w, T a w → wpAny P .any ops Q r (setAll l.length k listed) a w) → wpList P ops (Then T Q) l a w → wpAny P .any ops Q (l.length + r) listed a w
  | [], _, _, _, _, _, _, hT, h => by
    simp only [List.length_nil, Nat.zero_add]
    exact hT _ _ h
  | o :: l, k, listed, a, w, hl, hB, hT, h => by
    have h0 : ops[k]? = some o := by have := hl 0 (by simp); simpa using this.symm
    simp only [List.length_cons, headB, Bool.and_eq_true, decide_eq_true_eq] at hB
    have e : (o :: l).length + r = (l.length + r) + 1 := by simp only [List.length_cons]; omega
    rw [e]
    refine ⟨fun h1 => (by rw [hB.1] at h1; cases h1), fun i hi => ?_⟩
    rw [hB.1] at hi
    have hik : i = k := by simpa using hi
    subst hik
    have hw : wpOp P ops (Then T Q) i (wpList P ops (Then T Q) l) a w := by unfold wpOp; simp only [h0]; exact h
    exact wpOp_Q then_Q (wpOp_mono (fun a' w' h' => wpAny_head l (i + 1) _ a' w' (fun j hj => by have := hl (j + 1) (by simp; omega); simpa [Nat.add_assoc, Nat.add_comm 1 j] using this) hB.2 hT h') hw)

theorem wp_region_head_quiet {P : Program} {id : Nat} {Q : Exit → Act → World → Prop} {a : Act} {w : World} {l : List Oper} (n : Nat) (hm : P.follows .mixedOrders = true) (hs : Region.noSelect l.toArray = true)
    (hH : headB l.toArray (l.take n).length 0 (Array.replicate l.toArray.size false) = true) (hL : Region.lexFrom .any l.toArray (l.drop n).length n (setAll (l.take n).length 0 (Array.replicate l.toArray.size false)) = true) (hn : n ≤ l.length)
    (h : wpList P l.toArray (Then (fun a' w' => wpQuiet P l.toArray (fun x => ∃ m, x = w'.drewN m) (fun a'' => ∀ x, (∃ m, x = w'.drewN m) → Q .normal a'' x) (l.drop n) a') Q) (l.take n) a { w with drawn := w.drawn + 1 }) : (Code.region id l.toArray true).wp P Q a w := by
  have htl : (l.take n).length = n := by rw [List.length_take]; omega
  refine wp_region_any hm ?_
  have H := wpAny_head (Q := Q) (r := (l.drop n).length) (l.take n) 0 (Array.replicate l.toArray.size false) a { w with drawn := w.drawn + 1 } (fun j hj => by
    rw [htl] at hj
    simp [hj]) hH (fun a' w' h' => ?_) h
  · have e : (l.take n).length + (l.drop n).length = l.toArray.size := by rw [htl, List.length_drop]; simp; omega
    rw [e] at H
    exact H
  · refine wpAny_of_quiet (C := fun x => ∃ m, x = w'.drewN m) (Q := fun a'' => ∀ x, (∃ m, x = w'.drewN m) → Q .normal a'' x) (fun a w hw h => h w hw) _ _ _ _ ⟨0, rfl⟩ ?_
    exact wpAnyQ_lex hs (l.drop n) n _ _ (fun j => by simp [List.getElem?_drop]) hL h'

end Go.Proofs.Ytpjmdljjmknpkaa

/- A region that draws its order, in which behind a forced head a call that makes memory and a load may change places, and whose others only read: three walks. -/
namespace Go.Proofs.Ytpjmdljjmknpkaa
open Go.RowKit

/-- Behind those that are listed: n and n + 2 may come, n + 1 behind n; nothing else ahead of all three. -/
def diaB (ops : Array Oper) (n : Nat) (L : Array Bool) : Bool :=
  decide (Region.ready .any ops L = [n, n + 2]) && (decide (Region.ready .any ops (L.setIfInBounds n true) = [n + 1, n + 2]) && (decide (Region.ready .any ops (L.setIfInBounds (n + 2) true) = [n]) &&
  (decide (Region.ready .any ops ((L.setIfInBounds n true).setIfInBounds (n + 1) true) = [n + 2]) && (decide (Region.ready .any ops ((L.setIfInBounds n true).setIfInBounds (n + 2) true) = [n + 1]) && (decide (Region.ready .any ops ((L.setIfInBounds (n + 2) true).setIfInBounds n true) = [n + 1]) &&
  (decide (((L.setIfInBounds n true).setIfInBounds (n + 2) true).setIfInBounds (n + 1) true = ((L.setIfInBounds n true).setIfInBounds (n + 1) true).setIfInBounds (n + 2) true) &&
  decide (((L.setIfInBounds (n + 2) true).setIfInBounds n true).setIfInBounds (n + 1) true = ((L.setIfInBounds n true).setIfInBounds (n + 1) true).setIfInBounds (n + 2) true)))))))

theorem wpAny_one {P : Program} {ops : Array Oper} {Q : Exit → Act → World → Prop} {r i : Nat} {L : Array Bool} {a : Act} {w : World} (hr : Region.ready .any ops L = [i]) (h : wpOp P ops Q i (wpAny P .any ops Q r (L.setIfInBounds i true)) a w) : wpAny P .any ops Q (r + 1) L a w := by
  refine ⟨fun h1 => (by rw [hr] at h1; cases h1), fun j hj => ?_⟩
  rw [hr] at hj
  have hj' : j = i := by simpa using hj
  subst hj'
  exact h
theorem wpAny_two {P : Program} {ops : Array Oper} {Q : Exit → Act → World → Prop} {r i k : Nat} {L : Array Bool} {a : Act} {w : World} (hr : Region.ready .any ops L = [i, k]) (h : wpOp P ops Q i (wpAny P .any ops Q r (L.setIfInBounds i true)) a w) (h' : wpOp P ops Q k (wpAny P .any ops Q r (L.setIfInBounds k true)) a w) : wpAny P .any ops Q (r + 1) L a w := by
  refine ⟨fun h1 => (by rw [hr] at h1; cases h1), fun j hj => ?_⟩
  rw [hr] at hj
  have hj' : j = i ∨ j = k := by simpa using hj
  rcases hj' with rfl | rfl
  · exact h
  · exact h'
theorem wpOp_of_list {P : Program} {ops : Array Oper} {Q Q' : Exit → Act → World → Prop} {i : Nat} {o : Oper} {rest : List Oper} {K : Act → World → Prop} {a : Act} {w : World} (ho : ops[i]? = some o) (hq : ∀ e a w, e ≠ .normal → Q' e a w → Q e a w)
    (hk : ∀ a w, wpList P ops Q' rest a w → K a w) (h : wpList P ops Q' (o :: rest) a w) : wpOp P ops Q i K a w := by
  have h1 : wpOp P ops Q' i (wpList P ops Q' rest) a w := by unfold wpOp; simp only [ho]; exact h
  exact wpOp_Q hq (wpOp_mono hk h1)

theorem wpOp_last {P : Program} {ops : Array Oper} {T : Act → World → Prop} {Q : Exit → Act → World → Prop} {i : Nat} {o : Oper} {K : Act → World → Prop} {a : Act} {w : World} (ho : ops[i]? = some o) (hT : ∀ a w, T a w → K a w) (h : wpList P ops (Then T Q) [o] a w) : wpOp P ops Q i K a w :=
  wpOp_of_list (rest := []) ho then_Q (fun a w k => hT a w k) h
theorem wpOp_more {P : Program} {ops : Array Oper} {T : Act → World → Prop} {Q : Exit → Act → World → Prop} {i : Nat} {o p : Oper} {rest : List Oper} {K : Act → World → Prop} {a : Act} {w : World} (ho : ops[i]? = some o) (hT : ∀ a w, wpList P ops (Then T Q) (p :: rest) a w → K a w) (h : wpList P ops (Then T Q) (o :: p :: rest) a w) : wpOp P ops Q i K a w :=
  wpOp_of_list (rest := p :: rest) ho then_Q hT h
theorem wpAny_dia {P : Program} {ops : Array Oper} {T : Act → World → Prop} {Q : Exit → Act → World → Prop} {r n : Nat} {L : Array Bool} {a : Act} {w : World} {x y z : Oper} (hx : ops[n]? = some x) (hy : ops[n + 1]? = some y) (hz : ops[n + 2]? = some z)
    (hD : diaB ops n L = true) (hT : ∀ a w, T a w → wpAny P .any ops Q r (((L.setIfInBounds n true).setIfInBounds (n + 1) true).setIfInBounds (n + 2) true) a w)
    (h1 : wpList P ops (Then (fun a w => wpList P ops (Then T Q) [y, z] a w ∧ wpList P ops (Then T Q) [z, y] a w) Q) [x] a w) (h3 : wpList P ops (Then T Q) [z, x, y] a w) : wpAny P .any ops Q (r + 3) L a w := by
  simp only [diaB, Bool.and_eq_true, decide_eq_true_eq] at hD
  obtain ⟨d1, d2, d3, d4, d5, d6, d7, d8⟩ := hD
  refine wpAny_two d1 ?_ ?_
  · refine wpOp_last hx (fun a w k => ?_) h1
    obtain ⟨k1, k2⟩ : wpList P ops (Then T Q) [y, z] a w ∧ wpList P ops (Then T Q) [z, y] a w := k
    exact wpAny_two d2 (wpOp_more hy (fun a w k => wpAny_one d4 (wpOp_last hz hT k)) k1)
      (wpOp_more hz (fun a w k => wpAny_one d5 (wpOp_last hy (fun a w k => by rw [d7]; exact hT a w k) k)) k2)
  · exact wpOp_more hz (fun a w k => wpAny_one d3 (wpOp_more hx (fun a w k => wpAny_one d6 (wpOp_last hy (fun a w k => by rw [d8]; exact hT a w k) k)) k)) h3

/-- What is left behind the three: it only reads. -/
def Quiets (P : Program) (l : List Oper) (m : Nat) (Q : Exit → Act → World → Prop) (a : Act) (w : World) : Prop :=
  wpQuiet P l.toArray (fun x => ∃ j, x = w.drewN j) (fun a' => ∀ x, (∃ j, x = w.drewN j) → Q .normal a' x) (l.drop m) a

theorem wp_region_dia {P : Program} {id : Nat} {Q : Exit → Act → World → Prop} {a : Act} {w : World} {l : List Oper} (n : Nat) (x y z : Oper) (hx : l[n]? = some x) (hy : l[n + 1]? = some y) (hz : l[n + 2]? = some z) (hm : P.follows .mixedOrders = true) (hs : Region.noSelect l.toArray = true)
    (hH : headB l.toArray (l.take n).length 0 (Array.replicate l.toArray.size false) = true) (hD : diaB l.toArray n (setAll (l.take n).length 0 (Array.replicate l.toArray.size false)) = true)
    (hL : Region.lexFrom .any l.toArray (l.drop (n + 3)).length (n + 3) ((((setAll (l.take n).length 0 (Array.replicate l.toArray.size false)).setIfInBounds n true).setIfInBounds (n + 1) true).setIfInBounds (n + 2) true) = true) (hn : n + 3 ≤ l.length)
    (h : wpList P l.toArray (Then (fun a' w' => wpList P l.toArray (Then (fun a w => wpList P l.toArray (Then (Quiets P l (n + 3) Q) Q) [y, z] a w ∧ wpList P l.toArray (Then (Quiets P l (n + 3) Q) Q) [z, y] a w) Q) [x] a' w' ∧ wpList P l.toArray (Then (Quiets P l (n + 3) Q) Q) [z, x, y] a' w') Q) (l.take n) a { w with drawn := w.drawn + 1 }) : (Code.region id l.toArray true).wp P Q a w := by
  have htl : (l.take n).length = n := by rw [List.length_take]; omega
  refine wp_region_any hm ?_
  have H := wpAny_head (Q := Q) (r := (l.drop (n + 3)).length + 3) (l.take n) 0 (Array.replicate l.toArray.size false) a { w with drawn := w.drawn + 1 } (fun j hj => by
    rw [htl] at hj
    simp [hj]) hH (fun a' w' h' => wpAny_dia (by simpa using hx) (by simpa using hy) (by simpa using hz) hD (fun a w hq => ?_) h'.1 h'.2) h
  · have e : (l.take n).length + ((l.drop (n + 3)).length + 3) = l.toArray.size := by rw [htl, List.length_drop]; simp; omega
    rw [e] at H
    exact H
  · refine wpAny_of_quiet (C := fun x => ∃ m, x = w.drewN m) (Q := fun a'' => ∀ x, (∃ m, x = w.drewN m) → Q .normal a'' x) (fun a w hw h => h w hw) _ _ _ _ ⟨0, rfl⟩ ?_
    exact wpAnyQ_lex hs (l.drop (n + 3)) (n + 3) _ _ (fun j => by simp [List.getElem?_drop]) hL hq

end Go.Proofs.Ytpjmdljjmknpkaa

/- A region that draws its order, by an invariant over what is done; marks behind a function value. -/
namespace Go.Proofs.Ytpjmdljjmknpkaa
open Go.RowKit Pth

/-- How many are still to do. -/
def leftB (L : Array Bool) : Nat := L.toList.countP (fun b => !b)
theorem left_set {L : Array Bool} {i : Nat} (h : L.getD i true = false) : leftB (L.setIfInBounds i true) + 1 = leftB L := by
  have hi : i < L.size := by
    rcases Nat.lt_or_ge i L.size with h1 | h1
    · exact h1
    · simp [Array.getD, Nat.not_lt.2 h1] at h
  have hv : L.toList[i]'(by simpa using hi) = false := by simpa [Array.getD, hi] using h
  unfold leftB
  have e : (L.setIfInBounds i true).toList = L.toList.set i true := by simp [Array.setIfInBounds, hi]
  rw [e]
  have key : ∀ (l : List Bool) (i : Nat) (hi : i < l.length), l[i] = false → (l.set i true).countP (fun b => !b) + 1 = l.countP (fun b => !b) := by
    intro l
    induction l with
    | nil => intro i hi; simp at hi
    | cons x t ih =>
      intro i hi hx
      cases i with
      | zero => simp only [List.getElem_cons_zero] at hx; subst hx; simp [List.countP_cons]
      | succ i =>
        simp only [List.getElem_cons_succ] at hx
        have := ih i (by simpa using hi) hx
        simp only [List.set_cons_succ, List.countP_cons]
        omega
  exact key _ _ (by simpa using hi) hv
theorem ready_un {ops : Array Oper} {L : Array Bool} {i : Nat} (h : i ∈ Region.ready .any ops L) : L.getD i true = false := by
  unfold Region.ready at h
  have := (List.mem_filter.1 h).2
  rw [Bool.and_eq_true] at this
  simpa using this.1
theorem wpAny_inv {P : Program} {ops : Array Oper} {Q : Exit → Act → World → Prop} (Inv : Array Bool → Act → World → Prop)
    (hstep : ∀ L a w i, Inv L a w → i ∈ Region.ready .any ops L → wpOp P ops Q i (Inv (L.setIfInBounds i true)) a w) (hdone : ∀ L a w, Inv L a w → Region.ready .any ops L = [] → Q .normal a w) :
    ∀ r L a w, leftB L ≤ r → Inv L a w → wpAny P .any ops Q r L a w := by
  intro r
  induction r with
  | zero =>
    intro L a w hr hI
    have : Region.ready .any ops L = [] := by
      cases hq : Region.ready .any ops L with
      | nil => rfl
      | cons i t =>
        have := left_set (ready_un (ops := ops) (L := L) (i := i) (by rw [hq]; simp))
        omega
    exact ⟨this, hdone L a w hI this⟩
  | succ r ih =>
    intro L a w hr hI
    refine ⟨fun h => hdone L a w hI h, fun i hi => ?_⟩
    have hl := left_set (ready_un hi)
    exact wpOp_mono (fun a' w' h' => ih _ a' w' (by omega) h') (hstep L a w i hI hi)
/-- Of an invariant over what is done. -/
theorem wp_region_inv {P : Program} {id : Nat} {ops : Array Oper} {Q : Exit → Act → World → Prop} {a : Act} {w : World} (hm : P.follows .mixedOrders = true) (Inv : Array Bool → Act → World → Prop)
    (h0 : Inv (Array.replicate ops.size false) a w.drew)
    (hstep : ∀ L a w i, Inv L a w → i ∈ Region.ready .any ops L → wpOp P ops Q i (Inv (L.setIfInBounds i true)) a w) (hdone : ∀ L a w, Inv L a w → Region.ready .any ops L = [] → Q .normal a w) : (Code.region id ops true).wp P Q a w :=
  wp_region_any hm (wpAny_inv Inv hstep hdone _ _ _ _ (by unfold leftB; exact Nat.le_trans List.countP_le_length (by simp)) h0)

/-- A function value that tells marks, and where they lie. -/
def MF (W : World) (fv : Value) (bs : List Bool) : Prop := ∃ bx gm cm, fv = .func (.func 139) #[] #[.pointer (some ⟨bx, 0, none⟩)] ∧ Blk1 W bx 81 (.slice (some ⟨gm, 0, none⟩) bs.length cm) ∧ W.ownsRow 0 4 1 (.slice (some ⟨gm, 0, none⟩) bs.length cm) bs.length (Bo bs)
theorem MF.below {W W' : World} {fv : Value} {bs : List Bool} (h : MF W fv bs) (hb : Below W.heap.size W W') : MF W' fv bs := by
  obtain ⟨bx, gm, cm, h1, h2, h3⟩ := h
  exact ⟨bx, gm, cm, h1, h2.below hb (lt_of_block h2), own_below h3 hb⟩
theorem MF.set {W : World} {fv u x : Value} {bs : List Bool} {n : Nat} (h : MF W fv bs) (hb : Blk1 W n 90 x) : MF (W.setCell ⟨n, 0, none⟩ u) fv bs := by
  obtain ⟨bx, gm, cm, h1, h2, h3⟩ := h
  have n1 : bx ≠ n := fun e => by
    subst e
    rw [Blk1] at h2 hb
    rw [h2] at hb
    simp at hb
  refine ⟨bx, gm, cm, h1, (Below.heap_setCell W ⟨n, 0, none⟩ u bx n1).trans h2, h3.1, ?_⟩
  rcases h3.2 with h0 | ⟨g, cap, cur, hv, hB, hh, r⟩
  · exact .inl h0
  · refine .inr ⟨g, cap, cur, hv, hB, (Below.heap_setCell W ⟨n, 0, none⟩ u g (fun e => ?_)).trans hh, r⟩
    have e' : g = n := e
    subst e'
    rw [Blk1] at hb
    rw [hh] at hb
    simp at hb
theorem MF.test {W : World} {fv : Value} {bs : List Bool} {D : Int → Prop} (h : MF W fv bs) (hD : ∀ x, D x → 0 ≤ x ∧ x < (bs.length : Int)) : TestS W fv D (markB bs) := by
  obtain ⟨bx, gm, cm, h1, h2, h3⟩ := h
  refine ⟨_, _, h1, enters_of Try.func139 (by kernel_rfl) rfl, fun W' hW x hx => ?_⟩
  exact marked1_any bs x bx _ W' (RowV.of_own (own_below h3 hW)) (h2.below hW (lt_of_block h2)) (hD x hx).1 (hD x hx).2
def MFPost (bs : List Bool) (w : World) (e : Ending) (w' : World) : Prop := ∃ fv, e = .returned fv ∧ MF w' fv bs ∧ Below w.heap.size w w'

set_option maxRecDepth 20000 in
set_option maxHeartbeats 8000000 in
theorem markedTestM_any (K : FuncId) (F : List (List Int) → List Int → Nat → List Bool → List Bool) (hF : MarkC K F) (hent : ∀ args w, (callFunc K args).run Try.prog w = .ok (.enter K args) w) (hlen : ∀ ls l t bs, (F ls l t bs).length = bs.length)
    (ls : List (List Int)) (l cs : List Int) (v u : Value) (w : World) (hst : GraphV w v ls l) (hrow : RowV w u (I cs)) (hG : GoodG ls l) (hc : ∀ x ∈ cs, 0 ≤ x ∧ x < (ls.length : Int)) :
    Calls Try.prog 123 #[v, u, .func (.func K) #[] #[]] w (MFPost (marksOf F ls l cs) w) := by
  have HV := Lib.hid hst
  obtain ⟨nv, ov, rfl, h1, h2⟩ := hst
  obtain ⟨an, cn, rfl, hn1, hn2, hat⟩ := h1.lists
  obtain ⟨ao, co, rfl, ho1, ho2, hao⟩ := h2.ints
  clear h1 h2
  unfold maxLen at hn2 ho2
  have HAT := Lib.hid hat
  have HAO := Lib.hid hao
  clear hat hao
  obtain ⟨wa, hwa⟩ : ∃ wa, wa = w.alloc (.cells #[.slice an ls.length cn, .slice ao l.length co] 26) := ⟨_, rfl⟩
  have P0 : Hid (Blk2 wa w.heap.size 26 (.slice an ls.length cn) (.slice ao l.length co)) := by rw [hwa]; exact Blk2.new
  have HA : Hid (Below w.heap.size w wa) := by rw [hwa]; exact (Below.refl w.heap.size w).alloc (Nat.le_refl _) _
  have hsa : wa.heap.size = w.heap.size + 1 := by rw [hwa]; simp
  have HSA := Lib.hid hsa
  have hsz : w.heap.size < wa.heap.size := by omega
  have HWA := Lib.hid hwa
  obtain ⟨c0, c1⟩ := P0.out.cells
  have HU := Lib.hid hrow
  obtain ⟨ua, uc, rfl, hu1, hu2, hau⟩ := hrow.ints
  have HAU := Lib.hid hau
  clear hrow hau
  unfold maxLen at hu2
  have hmf : ∀ (fn : Fn) (first cap : Array Value) (w : World), (Instr.makeFunc fn first cap).run Try.prog w = .ok (.func fn first cap) w := fun _ _ _ _ => rfl
  have h10 := hG.high
  have HGG := Lib.hid hG
  have HC := Lib.hid hc
  have HML := Lib.hid (fun k => marksOf_len hlen ls l (cs.take k))
  have HF := Lib.hid hF
  have HSN := Lib.hid (fun k (hk : k < cs.length) => show marksOf F ls l (cs.take (k + 1)) = F ls l cs[k].toNat (marksOf F ls l (cs.take k)) by rw [List.take_succ_eq_append_getElem hk, marksOf_snoc])
  obtain ⟨csB, hcB, mB⟩ := make_alloc elemB rfl ls.length (by omega)
  have hH := (own_of_heap (w := wa.alloc (.cells csB 4)) (B := wa.heap.size) (heap_alloc_new wa _) (Nat.le_refl _) hcB (by simp) (show ls.length ≤ maxLen by unfold maxLen; omega))
  obtain ⟨w2, hw2⟩ : ∃ w2, w2 = wa.alloc (.cells csB 4) := ⟨_, rfl⟩
  obtain ⟨w3, hw3⟩ : ∃ w3, w3 = w2.alloc (.cells #[.slice (some ⟨w.heap.size + 1, 0, none⟩) ls.length ls.length] 81) := ⟨_, rfl⟩
  have hs2 : w2.heap.size = w.heap.size + 2 := by rw [hw2, World.size_alloc, hsa]
  have hs3 : w3.heap.size = w.heap.size + 3 := by rw [hw3, World.size_alloc, hs2]
  have hb2 : Below wa.heap.size wa w2 := by rw [hw2]; exact (Below.refl _ wa).alloc (Nat.le_refl _) _
  have hb3 : Below w2.heap.size w2 w3 := by rw [hw3]; exact (Below.refl _ w2).alloc (Nat.le_refl _) _
  rw [← hw2, hsa] at hH
  have HO0 : Hid (w3.ownsRow w.heap.size 4 1 (.slice (some ⟨w.heap.size + 1, 0, none⟩) ls.length ls.length) ls.length (Bo (List.replicate ls.length false))) := by
    rw [Bo_rep]
    exact own_base (own_below hH hb3) (by omega)
  have HX0 : Hid (Blk1 w3 (w.heap.size + 2) 81 (.slice (some ⟨w.heap.size + 1, 0, none⟩) ls.length ls.length)) := by rw [hw3, ← hs2]; exact Blk1.new
  have HP0 := Lib.hid ((P0.out.below hb2 hsz).below hb3 (by omega))
  have HB0 := Lib.hid (bth HA.out (bth hb2 hb3 (Nat.le_refl _)) (Nat.le_refl _))
  have HW3 : Hid (w3 = ((w.alloc (.cells #[.slice an ls.length cn, .slice ao l.length co] 26)).alloc (.cells csB 4)).alloc (.cells #[.slice (some ⟨w.heap.size + 1, 0, none⟩) ls.length ls.length] 81)) := by show _ = _; rw [hw3, hw2, hwa]
  rw [hwa] at c0
  clear hwa hsa hw2 hw3 hs2 hs3 hb2 hb3 hH hG hc hF hcB hlen c1 HSA
  go_enter Try.func123, Try.ntmps123
  go_wp2_with fail
  rw [← HW3.out]
  clear c0 mB
  go_loopw [16] (fun i wr => ∃ k : Nat, k ≤ cs.length ∧ i = .int .i64 (k : Int) ∧ Hid (wr.ownsRow w.heap.size 4 1 (.slice (some ⟨w.heap.size + 1, 0, none⟩) ls.length ls.length) ls.length (Bo (marksOf F ls l (cs.take k)))) ∧ Hid (Blk1 wr (w.heap.size + 2) 81 (.slice (some ⟨w.heap.size + 1, 0, none⟩) ls.length ls.length)) ∧ Hid (Blk2 wr w.heap.size 26 (.slice an ls.length cn) (.slice ao l.length co)) ∧ Hid (Below w.heap.size w wr)) (fun i _ => cs.length - (intOf i).toNat)
  case atStart => exact ⟨0, Nat.zero_le _, rfl, HO0, HX0, HP0, HB0⟩
  case round =>
    clear HO0 HX0 HP0 HB0
    obtain ⟨k, hk, rfl, HO, HX, HP, HB⟩ := hrel
    by_cases hlt : k < cs.length
    · obtain ⟨g, o, hgo, hg, hcell0⟩ := HAU.out k hlt
      subst hgo
      have hxr := HC.out cs[k] (List.getElem_mem hlt)
      obtain ⟨t, ht⟩ : ∃ t : Nat, cs[k] = t := ⟨cs[k].toNat, by omega⟩
      have htl : t < ls.length := by omega
      have hcell : wr.cell? ⟨g, o + k, none⟩ = some (.int .i64 (t : Int)) := by rw [HB.out.cell (p := ⟨g, o + k, none⟩) hg, hcell0, ht]
      obtain ⟨d0, d1⟩ := HP.out.cells
      have d2 := HX.out.cell
      have hml := HML.out k
      have HSK : Hid (marksOf F ls l (cs.take (k + 1)) = F ls l t (marksOf F ls l (cs.take k))) := by
        show _ = _
        rw [HSN.out k hlt, ht, show ((t : Int)).toNat = t by omega]
      generalize marksOf F ls l (cs.take k) = bk at *
      have hCC := HF.out ls l t bk (.slice an ls.length cn) (.slice ao l.length co) (w.heap.size + 1) ls.length w wr HGG.out HV.out HB.out (by rw [hml]; exact HO.out) hml htl
      rw [hml] at hCC
      have HCC := Lib.hid hCC
      clear hCC hcell0 hxr ht hml
      go_wp2_with fail
      refine HCC.out.mono ?_
      rintro e w8 ⟨rfl, ho8, hg8⟩
      have HO8 := Lib.hid ho8
      rw [← HSK.out] at HO8
      have HX8 := Lib.hid (HX.out.beside hg8 (by intro e; have := Option.some.inj e; omega))
      have HP8 := Lib.hid (HP.out.beside hg8 (by intro e; have := Option.some.inj e; omega))
      have HB8 := Lib.hid (HB.out.trans (only_below hg8 (by omega) HB.out.size))
      clear ho8 hg8 d0 d1 d2 hcell
      go_wp2_with fail
      go_roundw
      case rel => exact ⟨k + 1, by omega, by go_num, HO8, HX8, HP8, HB8⟩
      case measure => simp [intOf]; omega
    · have hml := HML.out k
      rw [List.take_of_length_le (by omega)] at HO hml
      have HM := Lib.hid hml
      have HGP := Lib.hid HGG.out.toP
      clear hml
      go_wp2_with fail
      go_ret
      rw [← HM.out] at HO HX
      exact ⟨_, rfl, ⟨_, _, _, rfl, HX.out, own_base HO.out (Nat.zero_le _)⟩, HB.out⟩

set_option maxRecDepth 20000 in
set_option maxHeartbeats 1000000 in
theorem touchedTestM_any (ls : List (List Int)) (l cs : List Int) (v u : Value) (w : World) (hst : GraphV w v ls l) (hrow : RowV w u (I cs)) (hG : GoodG ls l) (hc : ∀ x ∈ cs, 0 ≤ x ∧ x < (ls.length : Int)) :
    Calls Try.prog 94 #[v, u] w (MFPost (marksOf usersF ls l cs) w) := by
  have HV := Lib.hid hst
  obtain ⟨nv, ov, rfl, h1, h2⟩ := hst
  obtain ⟨an, cn, rfl, hn1, hn2, hat⟩ := h1.lists
  obtain ⟨ao, co, rfl, ho1, ho2, hao⟩ := h2.ints
  clear h1 h2
  unfold maxLen at hn2 ho2
  have HAT := Lib.hid hat
  have HAO := Lib.hid hao
  clear hat hao
  obtain ⟨wa, hwa⟩ : ∃ wa, wa = w.alloc (.cells #[.slice an ls.length cn, .slice ao l.length co] 26) := ⟨_, rfl⟩
  have P0 : Hid (Blk2 wa w.heap.size 26 (.slice an ls.length cn) (.slice ao l.length co)) := by rw [hwa]; exact Blk2.new
  have HA : Hid (Below w.heap.size w wa) := by rw [hwa]; exact (Below.refl w.heap.size w).alloc (Nat.le_refl _) _
  have hsa : wa.heap.size = w.heap.size + 1 := by rw [hwa]; simp
  have HSA := Lib.hid hsa
  have hsz : w.heap.size < wa.heap.size := by omega
  have HWA := Lib.hid hwa
  obtain ⟨c0, c1⟩ := P0.out.cells
  have HM := Lib.hid (markedTestM_any 118 usersF users_mark (enters_of Try.func118 (by kernel_rfl) rfl) usersF_len ls l cs _ u wa (HV.out.below HA.out) (hrow.below HA.out) hG hc)
  obtain ⟨ua, uc, rfl, hu1, hu2, _⟩ := hrow.ints
  clear hwa hsa hrow hG hc
  go_enter Try.func94, Try.ntmps94
  go_wp2_with fail
  rw [← HWA.out]
  refine HM.out.mono ?_
  rintro e w1 ⟨fv, rfl, ht, hb1⟩
  have HT := Lib.hid ht
  have HB1 := Lib.hid (bth HA.out hb1 (Nat.le_refl _))
  clear ht hb1 c0 c1
  go_wp2_with fail
  go_ret
  exact ⟨_, rfl, HT.out, HB1.out⟩

set_option maxRecDepth 20000 in
set_option maxHeartbeats 1000000 in
theorem neededTestM_any (ls : List (List Int)) (l cs : List Int) (v u : Value) (w : World) (hst : GraphV w v ls l) (hrow : RowV w u (I cs)) (hG : GoodG ls l) (hc : ∀ x ∈ cs, 0 ≤ x ∧ x < (ls.length : Int)) :
    Calls Try.prog 99 #[v, u] w (MFPost (marksOf needsF ls l cs) w) := by
  have HV := Lib.hid hst
  obtain ⟨nv, ov, rfl, h1, h2⟩ := hst
  obtain ⟨an, cn, rfl, hn1, hn2, hat⟩ := h1.lists
  obtain ⟨ao, co, rfl, ho1, ho2, hao⟩ := h2.ints
  clear h1 h2
  unfold maxLen at hn2 ho2
  have HAT := Lib.hid hat
  have HAO := Lib.hid hao
  clear hat hao
  obtain ⟨wa, hwa⟩ : ∃ wa, wa = w.alloc (.cells #[.slice an ls.length cn, .slice ao l.length co] 26) := ⟨_, rfl⟩
  have P0 : Hid (Blk2 wa w.heap.size 26 (.slice an ls.length cn) (.slice ao l.length co)) := by rw [hwa]; exact Blk2.new
  have HA : Hid (Below w.heap.size w wa) := by rw [hwa]; exact (Below.refl w.heap.size w).alloc (Nat.le_refl _) _
  have hsa : wa.heap.size = w.heap.size + 1 := by rw [hwa]; simp
  have HSA := Lib.hid hsa
  have hsz : w.heap.size < wa.heap.size := by omega
  have HWA := Lib.hid hwa
  obtain ⟨c0, c1⟩ := P0.out.cells
  have HM := Lib.hid (markedTestM_any 116 needsF needs_mark (enters_of Try.func116 (by kernel_rfl) rfl) needsF_len ls l cs _ u wa (HV.out.below HA.out) (hrow.below HA.out) hG hc)
  obtain ⟨ua, uc, rfl, hu1, hu2, _⟩ := hrow.ints
  clear hwa hsa hrow hG hc
  go_enter Try.func99, Try.ntmps99
  go_wp2_with fail
  rw [← HWA.out]
  refine HM.out.mono ?_
  rintro e w1 ⟨fv, rfl, ht, hb1⟩
  have HT := Lib.hid ht
  have HB1 := Lib.hid (bth HA.out hb1 (Nat.le_refl _))
  clear ht hb1 c0 c1
  go_wp2_with fail
  go_ret
  exact ⟨_, rfl, HT.out, HB1.out⟩
end Go.Proofs.Ytpjmdljjmknpkaa

/- Walks: MustMake of the program. -/
namespace Go.Proofs.Ytpjmdljjmknpkaa
open Go.RowKit Pth

set_option maxRecDepth 20000 in
set_option maxHeartbeats 1000000 in
theorem both1_any (p q : Int → Bool) (D : Int → Prop) (x : Int) (b c : Nat) (fv gv : Value) (w : World) (hx : D x) (hb : Blk1 w b 90 fv) (hc : Blk1 w c 90 gv) (ht : TestS w fv D p) (hq : TestS w gv D q) :
    Calls Try.prog 100 #[.int .i64 x, .pointer (some ⟨b, 0, none⟩), .pointer (some ⟨c, 0, none⟩)] w (BoolS (p x && q x) w) := by
  have hcb := hb.cell
  have hcc := hc.cell
  obtain ⟨K, cap, rfl, hent, ht⟩ := ht
  obtain ⟨K2, cap2, rfl, hent2, hq⟩ := hq
  have HC := Lib.hid (ht w (Below.refl _ _) x hx)
  have HC2 := Lib.hid (hq w (Below.refl _ _) x hx)
  clear ht hq hb hc hx
  generalize p x = y at *
  generalize q x = z at *
  cases y with
  | false =>
    go_enter Try.func100, Try.ntmps100
    go_wp2_with fail
    refine HC.out.mono ?_
    rintro e w1 ⟨rfl, rfl⟩
    go_wp2_with fail
    go_ret
    exact ⟨rfl, rfl⟩
  | true =>
    go_enter Try.func100, Try.ntmps100
    go_wp2_with fail
    refine HC.out.mono ?_
    rintro e w1 ⟨rfl, rfl⟩
    go_wp2_with fail
    refine HC2.out.mono ?_
    rintro e w2 ⟨rfl, rfl⟩
    go_wp2_with fail
    go_ret
    exact ⟨rfl, rfl⟩

/-- What holds while the two tests are made, whatever is done already. -/
def MustAt (AG U1 U2 : Value) (nv ov : Value) (bs1 bs2 : List Bool) (w : World) (L : Array Bool) (a : Act) (W : World) : Prop :=
  ∃ (b0 b1 b2 b3 b4 b5 b6 b7 b8 b9 : Bool) (t8 t9 t26 t27 t28 t29 t30 t31 : Value), L = #[b0, b1, b2, b3, b4, b5, b6, b7, b8, b9] ∧
    a = { tmps := #[AG, U1, U2, .pointer (some ⟨w.heap.size, 0, none⟩), undef, undef, .slice none 0 0, .bool false, t8, t9, undef, AG, .bool true, .bool false, .bool false, AG, U1, .bool true, .bool false, .bool false, .bool false, AG, U2, .bool true, .bool false, .bool false, t26, t27, t28, t29, t30, t31, undef, undef, undef, undef], defers := [] } ∧
    Below w.heap.size w W ∧ Blk2 W w.heap.size 26 nv ov ∧ (b0 = true → t26 = AG) ∧ (b1 = true → t27 = U1) ∧ (b3 = true → t29 = AG) ∧ (b4 = true → t30 = U2) ∧
    (b2 = true → MF W t28 bs1) ∧ (b5 = true → MF W t31 bs2) ∧
    (b6 = true → ∃ n, t8 = .pointer (some ⟨n, 0, none⟩) ∧ w.heap.size < n ∧ Blk1 W n 90 (if b8 then t28 else .nilFunc)) ∧
    (b7 = true → ∃ n, t9 = .pointer (some ⟨n, 0, none⟩) ∧ w.heap.size < n ∧ Blk1 W n 90 (if b9 then t31 else .nilFunc)) ∧
    (b6 = true → b7 = true → t8 ≠ t9) ∧ (b8 = true → b2 = true ∧ b6 = true) ∧ (b9 = true → b5 = true ∧ b7 = true)
theorem Blk1.set {w : World} {b t : Nat} {x : Value} (h : Blk1 w b t x) (u : Value) : Blk1 (w.setCell ⟨b, 0, none⟩ u) b t u := heap_setCell_same w b 0 _ t u h
theorem Blk1.soft {w : World} {b t : Nat} {x : Value} (h : Blk1 w b t x) (j : Nat) : w.frozen? ⟨b, j, none⟩ = false := frozen_of_row w b j _ t h
theorem Blk1.other {w : World} {b t n : Nat} {x u : Value} (h : Blk1 w b t x) (hn : b ≠ n) : Blk1 (w.setCell ⟨n, 0, none⟩ u) b t x := (Below.heap_setCell w ⟨n, 0, none⟩ u b hn).trans h
theorem Blk2.other {w : World} {b t n : Nat} {x y u : Value} (h : Blk2 w b t x y) (hn : b ≠ n) : Blk2 (w.setCell ⟨n, 0, none⟩ u) b t x y := (Below.heap_setCell w ⟨n, 0, none⟩ u b hn).trans h

set_option maxRecDepth 20000 in
set_option maxHeartbeats 8000000 in
theorem implMust_any (ls : List (List Int)) (l cs ds : List Int) (v ucs uds : Value) (w : World) (hst : GraphV w v ls l) (hcs : RowV w ucs (I cs)) (hds : RowV w uds (I ds)) :
    Calls Try.prog 44 #[v, ucs, uds] w (ListOk (mustA ls l cs ds) ((someG ls l cs && someG ls l ds)) w) := by
  have HV := Lib.hid hst
  obtain ⟨nv, ov, rfl, h1, h2⟩ := hst
  obtain ⟨an, cn, rfl, hn1, hn2, hat⟩ := h1.lists
  obtain ⟨ao, co, rfl, ho1, ho2, hao⟩ := h2.ints
  clear h1 h2
  unfold maxLen at hn2 ho2
  have HAT := Lib.hid hat
  have HAO := Lib.hid hao
  clear hat hao
  obtain ⟨wa, hwa⟩ : ∃ wa, wa = w.alloc (.cells #[.slice an ls.length cn, .slice ao l.length co] 26) := ⟨_, rfl⟩
  have P0 : Hid (Blk2 wa w.heap.size 26 (.slice an ls.length cn) (.slice ao l.length co)) := by rw [hwa]; exact Blk2.new
  have HA : Hid (Below w.heap.size w wa) := by rw [hwa]; exact (Below.refl w.heap.size w).alloc (Nat.le_refl _) _
  have hsa : wa.heap.size = w.heap.size + 1 := by rw [hwa]; simp
  have HSA := Lib.hid hsa
  have hsz : w.heap.size < wa.heap.size := by omega
  have HWA := Lib.hid hwa
  obtain ⟨c0, c1⟩ := P0.out.cells
  have HUcs := Lib.hid hcs
  obtain ⟨xacs, xccs, rfl, hxlcs, hxmcs, _⟩ := hcs.ints
  clear hcs
  unfold maxLen at hxmcs
  have HUds := Lib.hid hds
  obtain ⟨xads, xcds, rfl, hxlds, hxmds, _⟩ := hds.ints
  clear hds
  unfold maxLen at hxmds
  have HGD := Lib.hid (fun W (h : Below wa.heap.size wa W) => implGood_any ls l _ W (HV.out.below (bth HA.out h (Nat.le_refl _))))
  have HTcs := Lib.hid (fun W (h : Below wa.heap.size wa W) => areTasks_any ls l cs _ _ W (HV.out.below (bth HA.out h (Nat.le_refl _))) (HUcs.out.below (bth HA.out h (Nat.le_refl _))))
  have HTds := Lib.hid (fun W (h : Below wa.heap.size wa W) => areTasks_any ls l ds _ _ W (HV.out.below (bth HA.out h (Nat.le_refl _))) (HUds.out.below (bth HA.out h (Nat.le_refl _))))
  have HEQ : Hid ((goodG ls l && riseB 0 ((ls.length : Int) - 1) cs && riseB 0 ((ls.length : Int) - 1) ds) = (someG ls l cs && someG ls l ds)) := some_eq2 _ _ _ _
  have HNo : Hid ((goodG ls l && riseB 0 ((ls.length : Int) - 1) cs && riseB 0 ((ls.length : Int) - 1) ds) = false → mustA ls l cs ds = [] ∧ (someG ls l cs && someG ls l ds) = false) := fun h => by
    rw [HEQ.out] at h
    exact ⟨mustA_no h, h⟩
  have HYes : Hid ((goodG ls l && riseB 0 ((ls.length : Int) - 1) cs && riseB 0 ((ls.length : Int) - 1) ds) = true → mustA ls l cs ds = mustA_v ls l cs ds ∧ (someG ls l cs && someG ls l ds) = true ∧ GoodG ls l ∧ (Rise cs ∧ ∀ x ∈ cs, 0 ≤ x ∧ x < (ls.length : Int)) ∧ (Rise ds ∧ ∀ x ∈ ds, 0 ≤ x ∧ x < (ls.length : Int))) := fun h => by
    rw [HEQ.out] at h
    exact ⟨mustA_yes h, h, some_yes2 h⟩
  clear HEQ
  generalize (someG ls l cs && someG ls l ds) = bb at *
  generalize mustA ls l cs ds = R at *
  generalize goodG ls l = b0 at *
  generalize riseB 0 ((ls.length : Int) - 1) cs = bcs at *
  generalize riseB 0 ((ls.length : Int) - 1) ds = bds at *
  clear hwa
  go_enter Try.func44, Try.ntmps44
  go_wp2_with fail
  rw [← HWA.out]
  refine (HGD.out wa (Below.refl _ _)).mono ?_
  rintro e w1 ⟨rfl, hb1⟩
  have K1 := Lib.hid hb1
  obtain ⟨p1, q1⟩ := (P0.out.below K1.out hsz).cells
  clear hb1 c0 c1
  cases b0 with
  | false =>
    have hR := HNo.out rfl
    obtain ⟨rfl, rfl⟩ := hR
    clear HNo HYes HGD HTcs HTds
    go_wp2_with fail
    go_ret2
    exact ⟨_, rfl, none_ownZ _ _ _, bth HA.out K1.out (Nat.le_refl _)⟩
  | true =>
    go_wp2_with fail
    refine (HTcs.out w1 K1.out).mono ?_
    rintro e w2 ⟨rfl, hb2⟩
    have K2 := Lib.hid (bth K1.out hb2 (Nat.le_refl _))
    obtain ⟨p2, q2⟩ := (P0.out.below K2.out hsz).cells
    clear hb2 p1 q1
    cases bcs with
    | false =>
      have hR := HNo.out rfl
      obtain ⟨rfl, rfl⟩ := hR
      clear HNo HYes HGD HTcs HTds
      go_wp2_with fail
      go_ret2
      exact ⟨_, rfl, none_ownZ _ _ _, bth HA.out K2.out (Nat.le_refl _)⟩
    | true =>
      go_wp2_with fail
      refine (HTds.out w2 K2.out).mono ?_
      rintro e w3 ⟨rfl, hb3⟩
      have K3 := Lib.hid (bth K2.out hb3 (Nat.le_refl _))
      obtain ⟨p3, q3⟩ := (P0.out.below K3.out hsz).cells
      clear hb3 p2 q2
      cases bds with
      | false =>
        have hR := HNo.out rfl
        obtain ⟨rfl, rfl⟩ := hR
        clear HNo HYes HGD HTcs HTds
        go_wp2_with fail
        go_ret2
        exact ⟨_, rfl, none_ownZ _ _ _, bth HA.out K3.out (Nat.le_refl _)⟩
      | true =>
        obtain ⟨hR, rfl, hG, hccs, hcds⟩ := HYes.out rfl
        clear HNo HYes HGD HTcs HTds
        have HKW := Lib.hid (bth HA.out K3.out (Nat.le_refl _))
        have PW := Lib.hid (P0.out.below K3.out hsz)
        have hszW := Nat.lt_of_lt_of_le hsz K3.out.size
        have HR : Hid (R = l.filter (mustP ls cs ds)) := hR
        have h10 : l.length ≤ 10 := by have := hG.high; have := hG.same; omega
        have hmf0 : ∀ (fn : Fn) (first cap : Array Value) (w : World), (Instr.makeFunc fn first cap).run Try.prog w = .ok (.func fn first cap) w := fun _ _ _ _ => rfl
        have HTS := Lib.hid (fun W (h : Below w.heap.size w W) => touchedTestM_any ls l cs _ _ W (HV.out.below h) (HUcs.out.below h) hG hccs.2)
        have HNS := Lib.hid (fun W (h : Below w.heap.size w W) => neededTestM_any ls l ds _ _ W (HV.out.below h) (HUds.out.below h) hG hcds.2)
        have HTD := Lib.hid (users_told hG.toP hccs.2)
        have HND := Lib.hid (needs_told hG.toP hcds.2)
        have HL1 := Lib.hid (marksOf_len usersF_len ls l cs)
        have HL2 := Lib.hid (marksOf_len needsF_len ls l ds)
        have HGP := Lib.hid hG.toP
        clear hR hG hccs hcds
        generalize marksOf usersF ls l cs = bs1 at *
        generalize marksOf needsF ls l ds = bs2 at *
        go_wp2_with fail
        clear p3 q3
        obtain ⟨Inv, hInv⟩ : ∃ Inv, Inv = MustAt (.agg #[.slice an ls.length cn, .slice ao l.length co]) (.slice xacs cs.length xccs) (.slice xads ds.length xcds) (.slice an ls.length cn) (.slice ao l.length co) bs1 bs2 w := ⟨_, rfl⟩
        have HInv := Lib.hid hInv
        clear hInv
        refine wp_region_inv (by kernel_rfl) Inv ?_ ?_ ?_
        · rw [HInv.out]
          exact ⟨false, false, false, false, false, false, false, false, false, false, undef, undef, undef, undef, undef, undef, undef, undef, rfl, rfl, Below.drew HKW.out, PW.out, by simp, by simp, by simp, by simp, by simp, by simp, by simp, by simp, by simp, by simp, by simp⟩
        · intro L a W i hI hi
          rw [HInv.out] at hI
          obtain ⟨b0, b1, b2, b3, b4, b5, b6, b7, b8, b9, t8, t9, t26, t27, t28, t29, t30, t31, hL, hact, hA, hP, h0, h1, h3, h4, h2, h5, h6, h7, h67, h82, h95⟩ := hI
          subst hL hact
          obtain ⟨hi1, hi2⟩ := List.mem_filter.1 hi
          clear hi
          rw [Bool.and_eq_true] at hi2
          have hi3 : i < 10 := by simpa using hi1
          clear hi1
          rcases (by omega : i = 0 ∨ i = 1 ∨ i = 2 ∨ i = 3 ∨ i = 4 ∨ i = 5 ∨ i = 6 ∨ i = 7 ∨ i = 8 ∨ i = 9) with rfl | rfl | rfl | rfl | rfl | rfl | rfl | rfl | rfl | rfl
          · -- 0
            obtain ⟨d0, d1⟩ := hP.cells
            refine wpOp_last rfl (fun a w k => k) ?_
            go_wp2_with fail
            refine then_normal ?_
            rw [HInv.out]
            refine ⟨true, b1, b2, b3, b4, b5, b6, b7, b8, b9, t8, t9, _, t27, t28, t29, t30, t31, rfl, rfl, hA, hP, (fun _ => rfl), h1, h3, h4, h2, h5, h6, h7, h67, h82, h95⟩
          · -- 1
            refine wpOp_last rfl (fun a w k => k) ?_
            go_wp2_with fail
            refine then_normal ?_
            rw [HInv.out]
            refine ⟨b0, true, b2, b3, b4, b5, b6, b7, b8, b9, t8, t9, t26, _, t28, t29, t30, t31, rfl, rfl, hA, hP, h0, (fun _ => rfl), h3, h4, h2, h5, h6, h7, h67, h82, h95⟩
          · -- 2
            obtain ⟨hd0, hd1⟩ : b0 = true ∧ b1 = true := by simpa [Region.binds] using hi2.2
            have hb2 : b2 = false := by simpa using hi2.1
            have hb8 : b8 = false := by cases b8; rfl; exact absurd (h82 rfl).1 (by simp [hb2])
            subst hb8
            obtain rfl := h0 hd0
            obtain rfl := h1 hd1
            refine wpOp_last rfl (fun a w k => k) ?_
            go_wp2_with fail
            refine (HTS.out W hA).mono ?_
            rintro e w7 ⟨fv, rfl, hmf, hb7⟩
            go_wp2_with fail
            refine then_normal ?_
            rw [HInv.out]
            refine ⟨b0, b1, true, b3, b4, b5, b6, b7, false, b9, t8, t9, _, _, fv, t29, t30, t31, rfl, rfl, bth hA hb7 (Nat.le_refl _), hP.below hb7 (lt_of_block hP), (fun _ => rfl), (fun _ => rfl), h3, h4, (fun _ => hmf), (fun h => (h5 h).below hb7), (fun h => by obtain ⟨n, e, hn, hb⟩ := h6 h; exact ⟨n, e, hn, hb.below hb7 (lt_of_block hb)⟩), (fun h => by obtain ⟨n, e, hn, hb⟩ := h7 h; exact ⟨n, e, hn, hb.below hb7 (lt_of_block hb)⟩), h67, (fun h => absurd h (by simp)), h95⟩
          · -- 3
            obtain ⟨d0, d1⟩ := hP.cells
            refine wpOp_last rfl (fun a w k => k) ?_
            go_wp2_with fail
            refine then_normal ?_
            rw [HInv.out]
            refine ⟨b0, b1, b2, true, b4, b5, b6, b7, b8, b9, t8, t9, t26, t27, t28, _, t30, t31, rfl, rfl, hA, hP, h0, h1, (fun _ => rfl), h4, h2, h5, h6, h7, h67, h82, h95⟩
          · -- 4
            refine wpOp_last rfl (fun a w k => k) ?_
            go_wp2_with fail
            refine then_normal ?_
            rw [HInv.out]
            refine ⟨b0, b1, b2, b3, true, b5, b6, b7, b8, b9, t8, t9, t26, t27, t28, t29, _, t31, rfl, rfl, hA, hP, h0, h1, h3, (fun _ => rfl), h2, h5, h6, h7, h67, h82, h95⟩
          · -- 5
            obtain ⟨hd3, hd4, _⟩ : b3 = true ∧ b4 = true ∧ b2 = true := by simpa [Region.binds] using hi2.2
            have hb5 : b5 = false := by simpa using hi2.1
            have hb9 : b9 = false := by cases b9; rfl; exact absurd (h95 rfl).1 (by simp [hb5])
            subst hb9
            obtain rfl := h3 hd3
            obtain rfl := h4 hd4
            refine wpOp_last rfl (fun a w k => k) ?_
            go_wp2_with fail
            refine (HNS.out W hA).mono ?_
            rintro e w7 ⟨fv, rfl, hmf, hb7⟩
            go_wp2_with fail
            refine then_normal ?_
            rw [HInv.out]
            refine ⟨b0, b1, b2, b3, b4, true, b6, b7, b8, false, t8, t9, t26, t27, t28, _, _, fv, rfl, rfl, bth hA hb7 (Nat.le_refl _), hP.below hb7 (lt_of_block hP), h0, h1, (fun _ => rfl), (fun _ => rfl), (fun h => (h2 h).below hb7), (fun _ => hmf), (fun h => by obtain ⟨n, e, hn, hb⟩ := h6 h; exact ⟨n, e, hn, hb.below hb7 (lt_of_block hb)⟩), (fun h => by obtain ⟨n, e, hn, hb⟩ := h7 h; exact ⟨n, e, hn, hb.below hb7 (lt_of_block hb)⟩), h67, h82, (fun h => absurd h (by simp))⟩
          · -- 6
            have hb7 : Below W.heap.size W (W.alloc (.cells #[.nilFunc] 90)) := (Below.refl _ W).alloc (Nat.le_refl _) _
            have hbn : b6 = false := by simpa using hi2.1
            have hbm : b8 = false := by cases b8; rfl; exact absurd (h82 rfl).2 (by simp [hbn])
            subst hbm
            have hwl := lt_of_block hP
            refine wpOp_last rfl (fun a w k => k) ?_
            go_wp2_with fail
            refine then_normal ?_
            rw [HInv.out]
            refine ⟨b0, b1, b2, b3, b4, b5, true, b7, false, b9, _, t9, t26, t27, t28, t29, t30, t31, rfl, rfl, bth hA hb7 (Nat.le_refl _), hP.below hb7 (lt_of_block hP), h0, h1, h3, h4, (fun h => (h2 h).below hb7), (fun h => (h5 h).below hb7), (fun _ => ⟨_, rfl, hwl, Blk1.new⟩), (fun h => by obtain ⟨n, e, hn, hb⟩ := h7 h; exact ⟨n, e, hn, hb.below hb7 (lt_of_block hb)⟩), (fun _ h => by obtain ⟨n, e, hn, hb⟩ := h7 h; rw [e]; intro e2; injection e2 with e2; have := congrArg (fun z => (z.map (·.block)).getD 0) e2; have := lt_of_block hb; (simp at * <;> omega)), (fun h => absurd h (by simp)), h95⟩
          · -- 7
            have hb7 : Below W.heap.size W (W.alloc (.cells #[.nilFunc] 90)) := (Below.refl _ W).alloc (Nat.le_refl _) _
            have hbn : b7 = false := by simpa using hi2.1
            have hbm : b9 = false := by cases b9; rfl; exact absurd (h95 rfl).2 (by simp [hbn])
            subst hbm
            have hwl := lt_of_block hP
            refine wpOp_last rfl (fun a w k => k) ?_
            go_wp2_with fail
            refine then_normal ?_
            rw [HInv.out]
            refine ⟨b0, b1, b2, b3, b4, b5, b6, true, b8, false, t8, _, t26, t27, t28, t29, t30, t31, rfl, rfl, bth hA hb7 (Nat.le_refl _), hP.below hb7 (lt_of_block hP), h0, h1, h3, h4, (fun h => (h2 h).below hb7), (fun h => (h5 h).below hb7), (fun h => by obtain ⟨n, e, hn, hb⟩ := h6 h; exact ⟨n, e, hn, hb.below hb7 (lt_of_block hb)⟩), (fun _ => ⟨_, rfl, hwl, Blk1.new⟩), (fun h _ => by obtain ⟨n, e, hn, hb⟩ := h6 h; rw [e]; intro e2; injection e2 with e2; have := congrArg (fun z => (z.map (·.block)).getD 0) e2; have := lt_of_block hb; (simp at * <;> omega)), h82, (fun h => absurd h (by simp))⟩
          · -- 8
            have hbq := hi2.2
            obtain ⟨hd6, hd2⟩ : b6 = true ∧ b2 = true := by simp [Region.binds] at hbq; exact ⟨hbq.1, hbq.2.1⟩
            have hb8 : b8 = false := by simpa using hi2.1
            subst hb8
            obtain ⟨n8, rfl, hn8, hk8⟩ := h6 hd6
            have hc8 := hk8.cell
            have hf8 := hk8.soft 0
            have hm8 := h2 hd2
            obtain ⟨bx, gm, cm, hfv, _, _⟩ := h2 hd2
            subst hfv
            have hne : ∀ n, Value.pointer (some ⟨n8, 0, none⟩) ≠ Value.pointer (some ⟨n, 0, none⟩) → n ≠ n8 := fun n h e => h (by rw [e])
            refine wpOp_last rfl (fun a w k => k) ?_
            go_wp2_with fail
            refine then_normal ?_
            rw [HInv.out]
            refine ⟨b0, b1, b2, b3, b4, b5, b6, b7, true, b9, _, t9, t26, t27, _, t29, t30, t31, rfl, rfl, hA.setCell (p := ⟨n8, 0, none⟩) (Nat.le_of_lt hn8) _, hP.other (by omega), h0, h1, h3, h4, (fun h => (h2 h).set hk8), (fun h => (h5 h).set hk8), (fun _ => ⟨n8, rfl, hn8, hk8.set _⟩), (fun h => by obtain ⟨n, e, hn, hb⟩ := h7 h; exact ⟨n, e, hn, hb.other (hne n (by rw [← e]; exact h67 hd6 h))⟩), h67, (fun _ => ⟨hd2, hd6⟩), h95⟩
          · -- 9
            have hbq := hi2.2
            obtain ⟨hd7, hd5⟩ : b7 = true ∧ b5 = true := by simp [Region.binds] at hbq; exact ⟨hbq.1, hbq.2.1⟩
            have hb9 : b9 = false := by simpa using hi2.1
            subst hb9
            obtain ⟨n9, rfl, hn9, hk9⟩ := h7 hd7
            have hc9 := hk9.cell
            have hf9 := hk9.soft 0
            obtain ⟨bx, gm, cm, hfv, _, _⟩ := h5 hd5
            subst hfv
            have hne : ∀ n, Value.pointer (some ⟨n, 0, none⟩) ≠ Value.pointer (some ⟨n9, 0, none⟩) → n ≠ n9 := fun n h e => h (by rw [e])
            refine wpOp_last rfl (fun a w k => k) ?_
            go_wp2_with fail
            refine then_normal ?_
            rw [HInv.out]
            refine ⟨b0, b1, b2, b3, b4, b5, b6, b7, b8, true, t8, _, t26, t27, t28, t29, t30, _, rfl, rfl, hA.setCell (p := ⟨n9, 0, none⟩) (Nat.le_of_lt hn9) _, hP.other (by omega), h0, h1, h3, h4, (fun h => (h2 h).set hk9), (fun h => (h5 h).set hk9), (fun h => by obtain ⟨n, e, hn, hb⟩ := h6 h; exact ⟨n, e, hn, hb.other (hne n (by rw [← e]; exact h67 h hd7))⟩), (fun _ => ⟨n9, rfl, hn9, hk9.set _⟩), h67, h82, (fun _ => ⟨hd5, hd7⟩)⟩
        · intro L a W hI hr
          rw [HInv.out] at hI
          obtain ⟨b0, b1, b2, b3, b4, b5, b6, b7, b8, b9, t8, t9, t26, t27, t28, t29, t30, t31, hL, hact, hA, hP, h0, h1, h3, h4, h2, h5, h6, h7, h67, h82, h95⟩ := hI
          subst hL hact
          have hall := List.filter_eq_nil_iff.1 hr
          clear hr
          have e0 : b0 = true := by have := hall 0 (by simp); simpa using this
          have e1 : b1 = true := by have := hall 1 (by simp); simpa using this
          have e3 : b3 = true := by have := hall 3 (by simp); simpa using this
          have e4 : b4 = true := by have := hall 4 (by simp); simpa using this
          have e6 : b6 = true := by have := hall 6 (by simp); simpa using this
          have e7 : b7 = true := by have := hall 7 (by simp); simpa using this
          subst e0 e1 e3 e4 e6 e7
          have e2 : b2 = true := by have := hall 2 (by simp); simpa [Region.binds] using this
          subst e2
          have e5 : b5 = true := by have := hall 5 (by simp); simpa [Region.binds] using this
          subst e5
          have e8 : b8 = true := by have := hall 8 (by simp); simpa [Region.binds] using this
          subst e8
          have e9 : b9 = true := by have := hall 9 (by simp); simpa [Region.binds] using this
          subst e9
          clear hall h82 h95 h67 HTS HNS
          obtain rfl := h0 rfl
          obtain rfl := h1 rfl
          obtain rfl := h3 rfl
          obtain rfl := h4 rfl
          obtain ⟨n8, rfl, hn8, hk8⟩ := h6 rfl
          obtain ⟨n9, rfl, hn9, hk9⟩ := h7 rfl
          have hr1 : ∀ x, x ∈ l → 0 ≤ x ∧ x < (bs1.length : Int) := fun x hx => by rw [HL1.out]; exact HGP.out.range x hx
          have hr2 : ∀ x, x ∈ l → 0 ≤ x ∧ x < (bs2.length : Int) := fun x hx => by rw [HL2.out]; exact HGP.out.range x hx
          have HT1 := Lib.hid ((h2 rfl).test hr1)
          have HT2 := Lib.hid ((h5 rfl).test hr2)
          have HK8 : Hid (Blk1 W n8 90 t28) := hk8
          have HK9 : Hid (Blk1 W n9 90 t31) := hk9
          have HTV : Hid (TestV W (.func (.func 100) #[] #[.pointer (some ⟨n8, 0, none⟩), .pointer (some ⟨n9, 0, none⟩)]) (· ∈ l) (mustP ls cs ds)) := by
            refine TestS.toV (TestS.congr (p := fun y => markB bs1 y && markB bs2 y) ⟨_, _, rfl, enters_of Try.func100 (by kernel_rfl) rfl, fun W' hW x hx => ?_⟩ (fun x hx => by show _ = (hasL _ _ && hasL _ _); rw [HTD.out x hx, HND.out x hx]))
            exact both1_any (markB bs1) (markB bs2) (· ∈ l) x n8 n9 t28 t31 W' hx (HK8.out.below hW (lt_of_block HK8.out)) (HK9.out.below hW (lt_of_block HK9.out)) (HT1.out.below hW) (HT2.out.below hW)
          have HOR := Lib.hid (ordered_any ls l (mustP ls cs ds) _ _ W (HV.out.below hA) HTV.out (by omega))
          rw [← HR.out] at HOR
          obtain ⟨d0, d1⟩ := hP.cells
          have HAW := Lib.hid hA
          clear h0 h1 h2 h3 h4 h5 h6 h7 hk8 hk9 hr1 hr2 hP hA
          go_wp2_with fail
          refine HOR.out.mono ?_
          rintro e wz ⟨vz, rfl, hoz, hbz⟩
          have HOZ := Lib.hid (own_base hoz HAW.out.size)
          have HBZ := Lib.hid (bth HAW.out hbz (Nat.le_refl _))
          clear hoz hbz d0 d1
          go_wp2_with fail
          go_ret2
          exact ⟨_, rfl, HOZ.out, HBZ.out⟩
end Go.Proofs.Ytpjmdljjmknpkaa
