/- Texts of one claim, joined in their order. -/
import Derived.ArgAppend
import Derived.Test.YtnkkbleebfijgaaM7
import Derived.Test.YtnkkbleebfijgaaM4
import Derived.Test.YtnkkbleebfijgaaM5
import Derived.Test.YtnkkbleebfijgaaM6
import Derived.Test.YtnkkbleebfijgaaM3

/- One list put behind another: the first stays as it was. -/
namespace Go.Proofs.Ytnkkbleebfijgaa
open Go.RowKit Pth

theorem setAt_past : ∀ (vs : List Value) (o : Nat) (xs : List Value), xs.length ≤ o → setAt xs o vs = xs
  | [], _, _, _ => rfl
  | v :: r, o, xs, h => by
    show setAt (xs.set o v) (o + 1) r = xs
    rw [List.set_eq_of_length_le h]
    exact setAt_past r (o + 1) xs (by omega)
theorem row_cells {w : World} {g a c : Nat} {l : List Int} (h : RowV w (.slice (some ⟨g, a, none⟩) l.length c) (I l)) : ∀ j u, (I l)[j]? = some u → w.cell? ⟨g, a + j, none⟩ = some u := by
  intro j u hj
  obtain ⟨a', c', he, h1, h2, hat⟩ := h.ints
  injection he with he1 _ he3
  obtain ⟨hj1, hj2⟩ := List.getElem?_eq_some_iff.1 hj
  rw [I_len] at hj1
  obtain ⟨g', o', he, hg', hc⟩ := hat j hj1
  rw [he] at he1
  injection he1 with he1
  injection he1 with e1 e2
  subst e1 e2
  rw [hc, ← hj2, I_get hj1]

/-- A list of the call's own, another one behind it: the new one, and the first one stays. -/
theorem app_keep (m k : List Int) (v u : Value) (B : Nat) (w : World) (hown : w.ownsRow B 3 1 v m.length (I m)) (hu : RowV w u (I k)) (hm : m.length ≤ 1000) (hk : k.length ≤ 1000) (hB : B ≤ w.heap.size) (ty : TypeId) :
    ∃ v' w', (Builtin.append_ #[23, 23] ty #[v, u]).run Try.prog w = .ok v' w' ∧ w'.ownsRow B 3 1 v' (m ++ k).length (I (m ++ k)) ∧ w.grownBy w' v.ownBlock ∧ w'.ownsRow B 3 1 v m.length (I m) ∧ (∀ b, v'.ownBlock = some b → v.ownBlock = some b ∨ w.heap.size ≤ b) := by
  obtain ⟨i0, hi, hz0, hz1, hz2⟩ := info_parts elemI.info
  obtain ⟨ua, uc, rfl, hu1, hu2, huc⟩ := hu.ints
  have eIL : I (m ++ k) = I m ++ I k := I_append _ _
  have hl : (m ++ k).length = m.length + k.length := List.length_append
  have go : ∀ ad : Addr, ua = some ad → (∀ j x, (I k)[j]? = some x → w.cell? (ad.add j) = some x) → ∃ v' w', (Builtin.append_ #[23, 23] ty #[v, .slice ua k.length uc]).run Try.prog w = .ok v' w' ∧ w'.ownsRow B 3 1 v' (m ++ k).length (I (m ++ k)) ∧ w.grownBy w' v.ownBlock ∧ w'.ownsRow B 3 1 v m.length (I m) ∧ (∀ b, v'.ownBlock = some b → v.ownBlock = some b ∨ w.heap.size ≤ b) := by
    rintro ad rfl hnews
    obtain ⟨v', w', h1, h2, h3, _, h5⟩ := run_append_own_at (P := Try.prog) w B 23 ty 3 i0 (.int .i64 0) 1 8 elemI.under hi hz0 hz1 hz2 rfl (by decide) v m.length (I m) hown ad k.length uc (I k) (by rw [I_len]; omega) hnews (I_one k) (by unfold maxLen; omega) (by omega) hB
    have hv : ∀ b, v'.ownBlock = some b → v.ownBlock = some b ∨ w.heap.size ≤ b := by
      intro b hb
      rcases h5 with h5 | h5
      · exact .inl (by rw [← h5]; exact hb)
      · rw [hb] at h5
        have := Option.some.inj h5
        exact .inr (by omega)
    refine ⟨v', w', h1, by rw [eIL, hl]; exact h2, h3, ?_, hv⟩
    rcases hown.2 with ⟨hv, h0⟩ | ⟨g, cap, cur, hv, hBg, hh, hc1, hc2, hc3, hc4⟩
    · exact ⟨by rw [I_len]; omega, .inl ⟨hv, h0⟩⟩
    · subst hv
      by_cases hroom : m.length + k.length ≤ cap
      · have hcell : ∀ j, j < cap → (w.cell? ⟨g, j, none⟩).isSome = true ∧ w.frozen? ⟨g, j, none⟩ = false := fun j hj => by
          refine ⟨?_, frozen_of_row w g j _ _ hh⟩
          rw [cell_of_row w g j _ _ (0, 0) hh]
          simp; omega
        have hrun := run_append_room_cells (P := Try.prog) w 23 ty 3 i0 elemI.under hi g 0 m.length cap ad k.length uc (I k) (by rw [I_len, hz1]; omega) hnews (I_one k) hroom (fun j hj => by rw [I_len] at hj; rw [hz1]; exact (hcell _ (by omega)).1) (fun j hj => by rw [I_len] at hj; rw [hz1]; exact (hcell _ (by omega)).2)
        rw [h1] at hrun
        injection hrun with e1 e2
        rw [e2, hz1, Nat.zero_add, Nat.mul_one]
        have := (own_setCells (I k) m.length (I m) w hown).1
        rwa [setAt_past _ _ _ (by rw [I_len]; exact Nat.le_refl _)] at this
      · obtain ⟨v2, w2, g1, g2, g3⟩ := run_append_arg_grows (P := Try.prog) w 23 ty 3 i0 (.int .i64 0) 1 8 elemI.under hi hz0 hz1 hz2 rfl (by decide) ⟨g, 0, none⟩ m.length cap (I m) (by rw [I_len]; omega) (fun j x hj => by rw [add_addr]; exact row_cells (RowV.of_own hown) j x hj) ad k.length uc (I k) (by rw [I_len]; omega) hnews (by omega) (by unfold maxLen; omega) (by omega)
        rw [h1] at g1
        injection g1 with e1 e2
        rw [e2]
        exact hown.kept g3 (.inr (by simp [Value.ownBlock]))
  by_cases hk0 : k.length = 0
  · obtain rfl : k = [] := List.eq_nil_of_length_eq_zero hk0
    rcases ua with _ | ad
    · exact ⟨v, w, run_app_none elemI w B m.length uc ty v (I m) hown, by simpa using hown, ⟨rfl, rfl, rfl, Nat.le_refl _, fun _ _ _ => rfl⟩, hown, fun b hb => .inl hb⟩
    · exact go ad rfl (fun j x hj => by simp [I] at hj)
  · obtain ⟨gu, ou, hg, _, _⟩ := huc 0 (by omega)
    subst hg
    exact go _ rfl (fun j x hj => by rw [add_addr]; exact row_cells hu j x hj)

/-- All of a list copied over a list of the call's own. -/
theorem copy_own (m k : List Int) (a : Option Addr) (cap gO cO : Nat) (B : Nat) (W : World) (hrow : RowV W (.slice a k.length cap) (I k)) (hown : W.ownsRow B 3 1 (.slice (some ⟨gO, 0, none⟩) m.length cO) m.length (I m)) (hl : k.length = m.length) (h0 : 0 < k.length) :
    ∃ W', (∀ ty, (Builtin.copy_ #[23, 23] ty #[.slice (some ⟨gO, 0, none⟩) m.length cO, .slice a k.length cap]).run Try.prog W = .ok (goInt k.length) W') ∧ W'.ownsRow B 3 1 (.slice (some ⟨gO, 0, none⟩) m.length cO) m.length (I k) ∧ W.grownBy W' (some gO) := by
  obtain ⟨a', c', he, h1, h2, hat⟩ := hrow.ints
  obtain ⟨g0, o0, ha, hg0, _⟩ := hat 0 h0
  injection he with he1 _ he3
  subst he1 he3 ha
  rcases hown.2 with ⟨hv, _⟩ | ⟨g, cap2, cur, hv, hBg, hh, hc1, hc2, hc3, hc4⟩
  · simp at hv
  injection hv with hv1 _ hv3
  injection hv1 with hv1
  injection hv1 with hv1 _ _
  subst hv1 hv3
  have hsrc : ∀ j u, (I k)[j]? = some u → W.cell? ((⟨g0, o0, none⟩ : Addr).add j) = some u := fun j u hj => by rw [add_addr]; exact row_cells hrow j u hj
  have hrun := fun ty => run_copy_row (P := Try.prog) W 23 23 ty 3 gO 0 m.length cO ⟨g0, o0, none⟩ k.length cap cur 3 (I k) Try.underlying23 (by kernel_rfl) hh (by rw [I_len, hl]; exact (Nat.min_self _).symm) hsrc (by rw [I_len]; omega) (I_one k)
  rw [I_len] at hrun
  refine ⟨_, hrun, ?_, ?_⟩
  · have hn := setRow_heap W gO _ (cur.toList.take 0 ++ I k ++ cur.toList.drop (0 + k.length)).toArray _ _ hh
    refine ⟨by rw [I_len]; omega, .inr ⟨gO, cO, _, rfl, hBg, hn, hc1, hc2, ?_, ?_⟩⟩
    · simp [I_len]; omega
    · simp only [List.take_zero, List.nil_append]
      rw [List.take_left' (by rw [I_len]; omega)]
  · exact ⟨rfl, rfl, rfl, by simp [World.setRow], fun k _ hk => setRow_other W gO k _ (fun e => hk (by rw [e]))⟩
end Go.Proofs.Ytnkkbleebfijgaa

/- Walks: AddNeed of the program, where no need is added. -/
namespace Go.Proofs.Ytnkkbleebfijgaa
open Go.RowKit Pth

/-- Two tasks of a good graph, and no such need yet. -/
noncomputable def addPre (ls : List (List Int)) (l : List Int) (t x : Int) : Bool := goodG ls l && (decide (0 ≤ t) && decide (t < (ls.length : Int))) && (decide (0 ≤ x) && decide (x < (ls.length : Int))) && !hasL (needsAt ls t) x
noncomputable def addOk (ls : List (List Int)) (l : List Int) (t x : Int) : Bool := addPre ls l t x && decide (farI ls t x < 0)
noncomputable def addG (ls : List (List Int)) (l : List Int) (t x : Int) : List (List Int) := if addOk ls l t x then ls.set t.toNat (putL (needsAt ls t) x) else []
noncomputable def addO (ls : List (List Int)) (l : List Int) (t x : Int) : List Int := if addOk ls l t x then mendO ls l t x else []
noncomputable def addM (ls : List (List Int)) (l : List Int) (t x : Int) : List Int := if addOk ls l t x then sortI (movedL l (mendO ls l t x)) else if addPre ls l t x then loopL ls t x else []
theorem add_no {ls : List (List Int)} {l : List Int} {t x : Int} (h : addOk ls l t x = false) : addG ls l t x = [] ∧ addO ls l t x = [] ∧ addM ls l t x = if addPre ls l t x then loopL ls t x else [] := by
  unfold addG addO addM; rw [h]; exact ⟨rfl, rfl, rfl⟩
theorem add_yes {ls : List (List Int)} {l : List Int} {t x : Int} (h : addOk ls l t x = true) : addG ls l t x = ls.set t.toNat (putL (needsAt ls t) x) ∧ addO ls l t x = mendO ls l t x ∧ addM ls l t x = sortI (movedL l (mendO ls l t x)) := by
  unfold addG addO addM; rw [h]; exact ⟨rfl, rfl, rfl⟩
/-- A graph and a list, of the call's own, no two in one block. -/
def GraphM (B : Nat) (w : World) (v u : Value) (ls : List (List Int)) (l m : List Int) : Prop :=
  ∃ nv ov sl, v = .agg #[nv, ov] ∧ sl.length = ls.length ∧ w.ownsRow B 23 1 nv ls.length sl ∧ Lists B w ((sl.zip ls ++ [(ov, l)]) ++ [(u, m)])
theorem GraphM.graph {B : Nat} {w : World} {v u : Value} {ls : List (List Int)} {l m : List Int} (h : GraphM B w v u ls l m) : GraphO B w v ls l := by
  obtain ⟨nv, ov, sl, h1, h2, h3, h4⟩ := h
  exact ⟨nv, ov, sl, h1, h2, h3, h4.left⟩
theorem GraphM.list {B : Nat} {w : World} {v u : Value} {ls : List (List Int)} {l m : List Int} (h : GraphM B w v u ls l m) : w.ownsRow B 3 1 u m.length (I m) := by
  obtain ⟨nv, ov, sl, h1, h2, h3, h4⟩ := h
  exact h4.1 (u, m) (List.mem_append.2 (.inr (List.mem_singleton.2 rfl)))
theorem GraphM.none {B : Nat} {w : World} {u : Value} {m : List Int} (h : w.ownsRow B 3 1 u m.length (I m)) : GraphM B w (.agg #[.slice none 0 0, .slice none 0 0]) u [] [] m := by
  refine ⟨_, _, [], rfl, rfl, ⟨rfl, .inl ⟨rfl, rfl⟩⟩, ?_, ?_⟩
  · intro p hp
    simp only [List.zip_nil_left, List.nil_append, List.cons_append, List.mem_cons, List.not_mem_nil, or_false] at hp
    rcases hp with rfl | rfl
    · exact ⟨rfl, .inl ⟨rfl, rfl⟩⟩
    · exact h
  · simp only [List.zip_nil_left, List.nil_append, List.cons_append, List.pairwise_cons, List.mem_singleton, List.not_mem_nil, false_implies, implies_true, List.Pairwise.nil, and_true]
    rintro p rfl b hb
    simp [Value.ownBlock] at hb
def AddPost (G : List (List Int)) (O M : List Int) (b : Bool) (w : World) (e : Ending) (w' : World) : Prop := ∃ v' u', e = .returned (.tuple #[v', u', .bool b]) ∧ GraphM w.heap.size w' v' u' G O M ∧ Below w.heap.size w w'

set_option maxRecDepth 20000 in
set_option maxHeartbeats 8000000 in
theorem implAdd_no (ls : List (List Int)) (l : List Int) (t x : Int) (v : Value) (w : World) (hst : GraphV w v ls l) (hno : addOk ls l t x = false) :
    Calls Try.prog 12 #[v, .int .i64 t, .int .i64 x] w (AddPost [] [] (addM ls l t x) false w) := by
  have HV := Lib.hid hst
  obtain ⟨nv, ov, rfl, h1, h2⟩ := hst
  obtain ⟨an, cn, rfl, hn1, hn2, hat⟩ := h1.lists
  obtain ⟨ao, co, rfl, ho1, ho2, _⟩ := h2.ints
  have HOR := Lib.hid h2
  clear h1 h2
  unfold maxLen at hn2 ho2
  have HAT := Lib.hid hat
  clear hat
  obtain ⟨W0, hW0⟩ : ∃ W0, W0 = (w.alloc (.cells #[.slice an ls.length cn, .slice ao l.length co] 27)).alloc (.cells #[.slice none 0 0, .slice none 0 0] 27) := ⟨_, rfl⟩
  have e1 : (w.alloc (.cells #[.slice an ls.length cn, .slice ao l.length co] 27)).heap.size = w.heap.size + 1 := by simp
  have P0 : Hid (Blk2 W0 w.heap.size 27 (.slice an ls.length cn) (.slice ao l.length co)) := by rw [hW0]; exact Blk2.new.old _
  have R0 : Hid (Blk2 W0 (w.heap.size + 1) 27 (.slice none 0 0) (.slice none 0 0)) := by
    have := Blk2.new (w := w.alloc (.cells #[.slice an ls.length cn, .slice ao l.length co] 27)) (t := 27) (x := .slice none 0 0) (y := .slice none 0 0)
    rw [e1] at this
    rw [hW0]; exact this
  have HB0 : Hid (Below w.heap.size w W0) := by rw [hW0]; exact ((Below.refl w.heap.size w).alloc (Nat.le_refl _) _).alloc (by rw [e1]; omega) _
  have hz0 : w.heap.size + 2 ≤ W0.heap.size := by rw [hW0]; simp
  have HZ0 := Lib.hid hz0
  have hsz : w.heap.size < W0.heap.size := by omega
  have hsz2 : w.heap.size + 1 < W0.heap.size := by omega
  have HW0 := Lib.hid hW0
  clear hW0 e1 hz0
  obtain ⟨c0, c1⟩ := P0.out.cells
  have HGD := Lib.hid (fun W (h : Below W0.heap.size W0 W) => implGood_any ls l _ W (HV.out.below (bth HB0.out h (Nat.le_refl _))))
  have HT := Lib.hid (fun W (h : Below W0.heap.size W0 W) => isTask_any ls l t _ W (HV.out.below (bth HB0.out h (Nat.le_refl _))))
  have HX := Lib.hid (fun W (h : Below W0.heap.size W0 W) => isTask_any ls l x _ W (HV.out.below (bth HB0.out h (Nat.le_refl _))))
  have HLP := Lib.hid (fun W (h : Below W0.heap.size W0 W) => implLoop_any ls l t x _ W (HV.out.below (bth HB0.out h (Nat.le_refl _))))
  have hM := (add_no hno).2.2
  have HNo : Hid (addPre ls l t x = false → addM ls l t x = []) := fun h => by rw [hM, h]; rfl
  have HYes : Hid (addPre ls l t x = true → addM ls l t x = loopA ls l t x ∧ decide (0 < (loopA ls l t x).length) = true) := fun h => by
    have hn := hno
    unfold addOk at hn
    rw [h, Bool.true_and, decide_eq_false_iff_not] at hn
    have ha : loopA ls l t x = loopL ls t x := loopA_yes (by
      unfold addPre at h
      rw [Bool.and_eq_true, Bool.and_eq_true, Bool.and_eq_true] at h
      rw [taskG_in h.1.1.1, taskG_in h.1.1.1, h.1.1.2, h.1.2]; rfl)
    rw [hM, h, ha]
    refine ⟨rfl, ?_⟩
    rw [decide_eq_true_iff, loopL, if_neg hn, wayL_len]
    omega
  have HIN : Hid ((decide (0 ≤ t) && decide (t < (ls.length : Int))) = true → ∃ j : Nat, t = j ∧ j < ls.length) := fun h => by
    simp only [Bool.and_eq_true, decide_eq_true_eq] at h
    exact ⟨t.toNat, by omega, by omega⟩
  have HB3 : Hid (∀ (j : Nat) (hj : j < ls.length), t = j → hasL ls[j] x = hasL (needsAt ls t) x) := fun j hj e => by rw [e, needsAt_get hj]
  unfold addPre at HNo HYes
  clear hM hno
  generalize addM ls l t x = M at *
  generalize loopA ls l t x = LL at *
  generalize goodG ls l = b0 at *
  generalize (decide (0 ≤ t) && decide (t < (ls.length : Int))) = b1 at *
  generalize (decide (0 ≤ x) && decide (x < (ls.length : Int))) = b2 at *
  generalize hasL (needsAt ls t) x = b3 at *
  go_enter Try.func12, Try.ntmps12
  go_wp2_with fail
  rw [← HW0.out]
  refine (HGD.out W0 (Below.refl _ _)).mono ?_
  rintro e w1 ⟨rfl, hb1⟩
  have K1 := Lib.hid hb1
  obtain ⟨p1, q1⟩ := (P0.out.below K1.out hsz).cells
  clear hb1 c0 c1
  cases b0 with
  | false =>
    have hR := HNo.out (by simp)
    subst hR
    clear HNo HYes HIN HB3 HGD HT HX HLP p1 q1
    have R := Lib.hid (R0.out.below K1.out hsz2)
    have q0 := R.out.cells.1
    have q1 := R.out.cells.2
    have f0 := R.out.soft 0
    have f1 := R.out.soft 1
    have HZ := Lib.hid ((R.out.set0 (.slice none 0 0)).set1 (.slice none 0 0))
    go_wp2_with fail
    refine bodyPost_ret (results_cell3 rfl rfl (load_store2 HZ.out.cells.1 HZ.out.cells.2)) rfl ?_
    exact ⟨_, _, rfl, GraphM.none (none_ownZ _ _ _), ((bth HB0.out K1.out (Nat.le_refl _)).setCell (p := ⟨w.heap.size + 1, 0, none⟩) (by show w.heap.size ≤ w.heap.size + 1; omega) _).setCell (p := ⟨w.heap.size + 1, 1, none⟩) (by show w.heap.size ≤ w.heap.size + 1; omega) _⟩
  | true =>
    go_wp2_with fail
    refine (HT.out w1 K1.out).mono ?_
    rintro e w2 ⟨rfl, hb2⟩
    have K2 := Lib.hid (bth K1.out hb2 (Nat.le_refl _))
    obtain ⟨p2, q2⟩ := (P0.out.below K2.out hsz).cells
    clear hb2 p1 q1
    cases b1 with
    | false =>
      have hR := HNo.out (by simp)
      subst hR
      clear HNo HYes HIN HB3 HGD HT HX HLP p2 q2
      have R := Lib.hid (R0.out.below K2.out hsz2)
      have q0 := R.out.cells.1
      have q1 := R.out.cells.2
      have f0 := R.out.soft 0
      have f1 := R.out.soft 1
      have HZ := Lib.hid ((R.out.set0 (.slice none 0 0)).set1 (.slice none 0 0))
      go_wp2_with fail
      refine bodyPost_ret (results_cell3 rfl rfl (load_store2 HZ.out.cells.1 HZ.out.cells.2)) rfl ?_
      exact ⟨_, _, rfl, GraphM.none (none_ownZ _ _ _), ((bth HB0.out K2.out (Nat.le_refl _)).setCell (p := ⟨w.heap.size + 1, 0, none⟩) (by show w.heap.size ≤ w.heap.size + 1; omega) _).setCell (p := ⟨w.heap.size + 1, 1, none⟩) (by show w.heap.size ≤ w.heap.size + 1; omega) _⟩
    | true =>
      go_wp2_with fail
      refine (HX.out w2 K2.out).mono ?_
      rintro e w3 ⟨rfl, hb3⟩
      have K3 := Lib.hid (bth K2.out hb3 (Nat.le_refl _))
      obtain ⟨p3, q3⟩ := (P0.out.below K3.out hsz).cells
      clear hb3 p2 q2
      cases b2 with
      | false =>
        have hR := HNo.out (by simp)
        subst hR
        clear HNo HYes HIN HB3 HGD HT HX HLP p3 q3
        have R := Lib.hid (R0.out.below K3.out hsz2)
        have q0 := R.out.cells.1
        have q1 := R.out.cells.2
        have f0 := R.out.soft 0
        have f1 := R.out.soft 1
        have HZ := Lib.hid ((R.out.set0 (.slice none 0 0)).set1 (.slice none 0 0))
        go_wp2_with fail
        refine bodyPost_ret (results_cell3 rfl rfl (load_store2 HZ.out.cells.1 HZ.out.cells.2)) rfl ?_
        exact ⟨_, _, rfl, GraphM.none (none_ownZ _ _ _), ((bth HB0.out K3.out (Nat.le_refl _)).setCell (p := ⟨w.heap.size + 1, 0, none⟩) (by show w.heap.size ≤ w.heap.size + 1; omega) _).setCell (p := ⟨w.heap.size + 1, 1, none⟩) (by show w.heap.size ≤ w.heap.size + 1; omega) _⟩
      | true =>
        obtain ⟨j, rfl, hj⟩ := HIN.out (by trivial)
        obtain ⟨g, o, a2, c2, rfl, hg, hcell0, hrk⟩ := HAT.out j hj
        have HKW := Lib.hid (bth HB0.out K3.out (Nat.le_refl _))
        have hcell : w3.cell? ⟨g, o + j, none⟩ = some (.slice a2 ls[j].length c2) := by rw [HKW.out.cell (p := ⟨g, o + j, none⟩) hg]; exact hcell0
        have hC := contains_any ls[j] x _ w3 (hrk.below HKW.out)
        rw [HB3.out j hj rfl] at hC
        have HC := Lib.hid hC
        have hj2 : (j : Int) < (ls.length : Int) := by omega
        clear hC hcell0 hrk HIN HB3 HGD HT HX HAT
        generalize ls[j].length = nj at hcell HC
        go_wp2_with fail
        refine HC.out.mono ?_
        rintro e w4 ⟨rfl, rfl⟩
        cases b3 with
        | true =>
          have hR := HNo.out (by simp)
          subst hR
          clear HNo HYes HLP p3 q3 HC
          have R := Lib.hid (R0.out.below K3.out hsz2)
          have q0 := R.out.cells.1
          have q1 := R.out.cells.2
          have f0 := R.out.soft 0
          have f1 := R.out.soft 1
          have HZ := Lib.hid ((R.out.set0 (.slice none 0 0)).set1 (.slice none 0 0))
          go_wp2_with fail
          refine bodyPost_ret (results_cell3 rfl rfl (load_store2 HZ.out.cells.1 HZ.out.cells.2)) rfl ?_
          exact ⟨_, _, rfl, GraphM.none (none_ownZ _ _ _), ((bth HB0.out K3.out (Nat.le_refl _)).setCell (p := ⟨w.heap.size + 1, 0, none⟩) (by show w.heap.size ≤ w.heap.size + 1; omega) _).setCell (p := ⟨w.heap.size + 1, 1, none⟩) (by show w.heap.size ≤ w.heap.size + 1; omega) _⟩
        | false =>
          obtain ⟨rfl, hLL⟩ := HYes.out (by simp)
          have hL := HLP.out w3 K3.out
          rw [hLL] at hL
          have HL := Lib.hid hL
          clear hL hLL HNo HYes HC HLP
          go_wp2_with fail
          refine HL.out.mono ?_
          rintro e w4 ⟨u4, rfl, ho4, hb4⟩
          have K4 := Lib.hid (bth K3.out hb4 (Nat.le_refl _))
          have HO4 := Lib.hid (own_base ho4 (Nat.le_trans HB0.out.size K3.out.size))
          have hlt : w.heap.size + 1 < w3.heap.size := Nat.lt_of_lt_of_le hsz2 K3.out.size
          have HO3 := Lib.hid ho4
          obtain ⟨ua, uc, rfl⟩ := own_slice ho4
          clear hb4 ho4 p3 q3 HL
          have R := Lib.hid (R0.out.below K4.out hsz2)
          have q0 := R.out.cells.1
          have q1 := R.out.cells.2
          have f0 := R.out.soft 0
          have f1 := R.out.soft 1
          have HZ := Lib.hid ((R.out.set0 (.slice none 0 0)).set1 (.slice none 0 0))
          go_wp2_with fail
          refine bodyPost_ret (results_cell3 rfl rfl (load_store2 HZ.out.cells.1 HZ.out.cells.2)) rfl ?_
          exact ⟨_, _, rfl, GraphM.none (own_base (own_setI (own_setI HO3.out (p := ⟨w.heap.size + 1, 0, none⟩) hlt _) (p := ⟨w.heap.size + 1, 1, none⟩) hlt _) (by omega)), ((bth HB0.out K4.out (Nat.le_refl _)).setCell (p := ⟨w.heap.size + 1, 0, none⟩) (by show w.heap.size ≤ w.heap.size + 1; omega) _).setCell (p := ⟨w.heap.size + 1, 1, none⟩) (by show w.heap.size ≤ w.heap.size + 1; omega) _⟩
end Go.Proofs.Ytnkkbleebfijgaa

/- Walks: AddNeed of the program, where a need is added. -/
namespace Go.Proofs.Ytnkkbleebfijgaa
open Go.RowKit Pth

theorem total_ten {ls : List (List Int)} {l : List Int} (hG : GoodG ls l) : ls.length + total ls + l.length ≤ 1000000 := by
  have h10 := hG.high
  have hs := hG.same
  have : ∀ m : List (List Int), (∀ k (hk : k < m.length), m[k].length ≤ 10) → total m ≤ 10 * m.length := by
    intro m
    induction m with
    | nil => intro _; simp [total]
    | cons y q ih =>
      intro h
      have h0 := h 0 (by simp)
      have h1 := ih (fun k hk => by have := h (k + 1) (by simp; omega); simpa using this)
      simp only [List.getElem_cons_zero] at h0
      simp only [total, List.map_cons, List.sum_cons, List.length_cons] at h1 ⊢
      omega
  have hk := this ls (fun k hk => by
    have hw := (hG.each k hk).1
    have := rise_len hw.1 hw.2 (by omega)
    omega)
  omega
theorem add_parts {ls : List (List Int)} {l : List Int} {t x : Int} (h : addOk ls l t x = true) : goodG ls l = true ∧ (decide (0 ≤ t) && decide (t < (ls.length : Int))) = true ∧ (decide (0 ≤ x) && decide (x < (ls.length : Int))) = true ∧ hasL (needsAt ls t) x = false ∧ farI ls t x < 0 := by
  unfold addOk addPre at h
  rw [Bool.and_eq_true, Bool.and_eq_true, Bool.and_eq_true, Bool.and_eq_true, decide_eq_true_iff, Bool.not_eq_true'] at h
  exact ⟨h.1.1.1.1, h.1.1.1.2, h.1.1.2, h.1.2, h.2⟩

set_option maxRecDepth 20000 in
set_option maxHeartbeats 8000000 in
theorem implAdd_yes (ls : List (List Int)) (l : List Int) (j y : Nat) (t x : Int) (ht : t = j) (hx : x = y) (v : Value) (w : World) (hst : GraphV w v ls l) (hyes : addOk ls l t x = true) :
    Calls Try.prog 12 #[v, .int .i64 t, .int .i64 x] w (AddPost (ls.set j (putL (needsAt ls t) x)) (mendO ls l t x) (sortI (movedL l (mendO ls l t x))) true w) := by
  have HV := Lib.hid hst
  obtain ⟨nv, ov, rfl, h1, h2⟩ := hst
  obtain ⟨an, cn, rfl, hn1, hn2, hat⟩ := h1.lists
  obtain ⟨ao, co, rfl, ho1, ho2, _⟩ := h2.ints
  have HOR := Lib.hid h2
  clear h1 h2
  unfold maxLen at hn2 ho2
  have HAT := Lib.hid hat
  clear hat
  obtain ⟨W0, hW0⟩ : ∃ W0, W0 = (w.alloc (.cells #[.slice an ls.length cn, .slice ao l.length co] 27)).alloc (.cells #[.slice none 0 0, .slice none 0 0] 27) := ⟨_, rfl⟩
  have e1 : (w.alloc (.cells #[.slice an ls.length cn, .slice ao l.length co] 27)).heap.size = w.heap.size + 1 := by simp
  have P0 : Hid (Blk2 W0 w.heap.size 27 (.slice an ls.length cn) (.slice ao l.length co)) := by rw [hW0]; exact Blk2.new.old _
  have R0 : Hid (Blk2 W0 (w.heap.size + 1) 27 (.slice none 0 0) (.slice none 0 0)) := by
    have := Blk2.new (w := w.alloc (.cells #[.slice an ls.length cn, .slice ao l.length co] 27)) (t := 27) (x := .slice none 0 0) (y := .slice none 0 0)
    rw [e1] at this
    rw [hW0]; exact this
  have HB0 : Hid (Below w.heap.size w W0) := by rw [hW0]; exact ((Below.refl w.heap.size w).alloc (Nat.le_refl _) _).alloc (by rw [e1]; omega) _
  have hz0 : w.heap.size + 2 ≤ W0.heap.size := by rw [hW0]; simp
  have HZ0 := Lib.hid hz0
  have hsz : w.heap.size < W0.heap.size := by omega
  have hsz2 : w.heap.size + 1 < W0.heap.size := by omega
  have HW0 := Lib.hid hW0
  clear hW0 e1 hz0
  obtain ⟨c0, c1⟩ := P0.out.cells
  have HGD := Lib.hid (fun W (h : Below W0.heap.size W0 W) => implGood_any ls l _ W (HV.out.below (bth HB0.out h (Nat.le_refl _))))
  have HT := Lib.hid (fun W (h : Below W0.heap.size W0 W) => isTask_any ls l t _ W (HV.out.below (bth HB0.out h (Nat.le_refl _))))
  have HX := Lib.hid (fun W (h : Below W0.heap.size W0 W) => isTask_any ls l x _ W (HV.out.below (bth HB0.out h (Nat.le_refl _))))
  have HLP := Lib.hid (fun W (h : Below W0.heap.size W0 W) => implLoop_any ls l t x _ W (HV.out.below (bth HB0.out h (Nat.le_refl _))))
  obtain ⟨hb0, hb1, hb2, hb3, hfar⟩ := add_parts hyes
  have hGG := goodG_iff.1 hb0
  have hlp : loopA ls l t x = [] := by rw [loopA_yes (by rw [taskG_in hb0, taskG_in hb0, hb1, hb2]; rfl), loopL, if_pos hfar]
  have HGG := Lib.hid hGG
  have HTT := Lib.hid (total_ten hGG)
  have hj : j < ls.length := by simp only [Bool.and_eq_true, decide_eq_true_eq] at hb1; omega
  have hy : y < ls.length := by simp only [Bool.and_eq_true, decide_eq_true_eq] at hb2; omega
  rw [hb0] at HGD
  rw [hb1] at HT
  rw [hb2] at HX
  rw [hlp] at HLP
  rw [show decide (0 < ([] : List Int).length) = false from rfl] at HLP
  have hnot : x ∉ ls[j] := by rw [ht, needsAt_get hj, hasL, decide_eq_false_iff_not] at hb3; exact hb3
  have HSP : Hid (sortI (ls[j] ++ [x]) = putL (needsAt ls t) x) := by show _ = _; rw [ht, needsAt_get hj]; exact sort_put ((HGG.out.each j hj).1.1) hnot
  have hlj : ls[j].length ≤ 10 := by
    have hw := (HGG.out.each j hj).1
    have := rise_len hw.1 hw.2 (by omega)
    have := HGG.out.high
    omega
  have HMD : Hid (∀ B gO cO nv W, GraphV W (.agg #[nv, .slice (some ⟨gO, 0, none⟩) l.length cO]) ls l → World.ownsRow W B 3 1 (.slice (some ⟨gO, 0, none⟩) l.length cO) l.length (I l) → Calls Try.prog 57 #[.agg #[nv, .slice (some ⟨gO, 0, none⟩) l.length cO], .int .i64 t, .int .i64 x] W fun e w' => e = .returned (.tuple #[]) ∧ w'.ownsRow B 3 1 (.slice (some ⟨gO, 0, none⟩) l.length cO) l.length (I (mendO ls l t x)) ∧ W.grownBy w' (some gO)) := fun B gO cO nv W h1 h2 => by
    have := mendOrder_any ls l j y B gO cO nv W h1 h2 HGG.out hj hy (by rw [← ht, ← hx]; exact hfar)
    rw [← ht, ← hx] at this
    exact this
  have HMOL : Hid (∀ B v W, World.ownsRow W B 3 1 v l.length (I (mendO ls l t x)) → (mendO ls l t x).length = l.length) := fun B v W h => by
    have := h.1
    rw [I_len] at this
    omega
  have hll : 0 < l.length := by have := HGG.out.same; omega
  obtain ⟨g, o, a2, c2, rfl, hg, hcell0, hrk⟩ := HAT.out j hj
  have HC3 : Hid (∀ W, Below w.heap.size w W → Calls Try.prog 54 #[.slice a2 ls[j].length c2, .int .i64 x] W fun e w' => e = .returned (.bool false) ∧ W = w') := fun W h => by
    have := contains_any ls[j] x _ W (hrk.below h)
    rw [show hasL ls[j] x = false by rw [← hb3, ht, needsAt_get hj]] at this
    exact this
  have HOG := Lib.hid (fun W (h : Below W0.heap.size W0 W) => ownGraph_any ls l (.agg #[.slice (some ⟨g, o, none⟩) ls.length cn, .slice ao l.length co]) W (HV.out.below (bth HB0.out h (Nat.le_refl _))) HTT.out)
  generalize putL (needsAt ls t) x = P at *
  generalize hmo : mendO ls l t x = mo at *
  clear hmo hlp hb0 hb1 hb2 hb3 hfar hyes hnot hGG hrk hx
  have hj2 : (j : Int) < (ls.length : Int) := by omega
  subst ht
  generalize hnj : ls[j].length = nj at hcell0 HC3
  go_enter Try.func12, Try.ntmps12
  go_wp2_with fail
  rw [← HW0.out]
  refine (HGD.out W0 (Below.refl _ _)).mono ?_
  rintro e w1 ⟨rfl, hb1⟩
  have K1 := Lib.hid hb1
  obtain ⟨p1, q1⟩ := (P0.out.below K1.out hsz).cells
  clear hb1 c0 c1
  go_wp2_with fail
  refine (HT.out w1 K1.out).mono ?_
  rintro e w2 ⟨rfl, hb2⟩
  have K2 := Lib.hid (bth K1.out hb2 (Nat.le_refl _))
  obtain ⟨p2, q2⟩ := (P0.out.below K2.out hsz).cells
  clear hb2 p1 q1
  go_wp2_with fail
  refine (HX.out w2 K2.out).mono ?_
  rintro e w3 ⟨rfl, hb3⟩
  have K3 := Lib.hid (bth K2.out hb3 (Nat.le_refl _))
  obtain ⟨p3, q3⟩ := (P0.out.below K3.out hsz).cells
  clear hb3 p2 q2
  have HK3 := Lib.hid (bth HB0.out K3.out (Nat.le_refl _))
  have hcell : w3.cell? ⟨g, o + j, none⟩ = some (.slice a2 nj c2) := by rw [HK3.out.cell (p := ⟨g, o + j, none⟩) hg]; exact hcell0
  go_wp2_with fail
  refine (HC3.out w3 HK3.out).mono ?_
  rintro e w4 ⟨rfl, rfl⟩
  clear hcell HC3 HGD HT HX
  go_wp2_with fail
  refine (HLP.out w3 K3.out).mono ?_
  rintro e w4 ⟨u4, rfl, ho4, hb4⟩
  have K4 := Lib.hid (bth K3.out hb4 (Nat.le_refl _))
  obtain ⟨p4, q4⟩ := (P0.out.below K4.out hsz).cells
  obtain ⟨ua, uc, rfl⟩ := own_slice ho4
  clear hb4 ho4 p3 q3 HLP
  go_wp2_with fail
  refine (HOG.out w4 K4.out).mono ?_
  rintro e w5 ⟨v5, rfl, ho5, hb5⟩
  have K5 := Lib.hid (bth K4.out hb5 (Nat.le_refl _))
  obtain ⟨nv, ov, sl, hv5, hs5, hn5, hL5⟩ := ho5
  obtain ⟨b1, d1', rfl⟩ := own_slice hn5
  have hov5 := hL5.1 (ov, l) (List.mem_append.2 (.inr (List.mem_singleton.2 rfl)))
  simp only at hov5
  obtain ⟨b2, d2', hov⟩ := own_slice hov5
  subst hov hv5
  obtain ⟨gO, hb2'⟩ : ∃ gO, b2 = some ⟨gO, 0, none⟩ := by
    rcases hov5.2 with ⟨_, h0⟩ | ⟨gN, cap, cur, hv, _⟩
    · omega
    · injection hv with hv1 _ _; exact ⟨gN, hv1⟩
  obtain ⟨gN, hb1', hc1⟩ : ∃ gN, b1 = some ⟨gN, 0, none⟩ ∧ ls.length ≤ d1' := by
    rcases hn5.2 with ⟨_, h0⟩ | ⟨gN, cap, cur, hv, _, _, hcap, _⟩
    · omega
    · injection hv with hv1 _ hv3; exact ⟨gN, hv1, by omega⟩
  subst hb1' hb2'
  obtain ⟨w6, hw6⟩ : ∃ w6, w6 = w5.alloc (.cells #[.slice (some ⟨gN, 0, none⟩) ls.length d1', .slice (some ⟨gO, 0, none⟩) l.length d2'] 27) := ⟨_, rfl⟩
  have hA6 : Below w5.heap.size w5 w6 := by rw [hw6]; exact (Below.refl w5.heap.size w5).alloc (Nat.le_refl _) _
  have G6 : Hid (Blk2 w6 w5.heap.size 27 (.slice (some ⟨gN, 0, none⟩) ls.length d1') (.slice (some ⟨gO, 0, none⟩) l.length d2')) := by rw [hw6]; exact Blk2.new
  have HN6 := Lib.hid (own_below hn5 hA6)
  have HL6 := Lib.hid (hL5.below hA6)
  have K6 := Lib.hid (bth K5.out hA6 (Nat.le_refl _))
  have s6 : w5.heap.size < w6.heap.size := lt_of_block G6.out
  have s5 := hb5.size
  have s4 := K4.out.size
  obtain ⟨p6, q6⟩ := (P0.out.below K6.out hsz).cells
  obtain ⟨g0, g1⟩ := G6.out.cells
  have Hw6 := Lib.hid hw6
  have HHS := Lib.hid hs5
  have hsj : j < sl.length := by omega
  have HOV6 := Lib.hid (own_below hov5 hA6)
  have hgO := hov5.lt gO rfl
  have hgN := hn5.lt gN rfl
  have hM := HMD.out w4.heap.size gO d2' (.slice (some ⟨gN, 0, none⟩) ls.length d1') w6 (GraphO.view ⟨_, _, sl, rfl, hs5, HN6.out, HL6.out⟩) HOV6.out
  have HM := Lib.hid hM
  clear hM hw6 hA6 hb5 hn5 hL5 hov5 p4 q4 HMD HOG hs5
  go_wp2_with fail
  rw [← Hw6.out]
  go_wp2_with fail
  refine HM.out.mono ?_
  rintro e w7 ⟨rfl, ho7, hg7⟩
  have hmo : mo.length = l.length := by have := HMOL.out w4.heap.size _ w7 ho7; exact this
  have HOV7 : Hid (w7.ownsRow w4.heap.size 3 1 (.slice (some ⟨gO, 0, none⟩) l.length d2') mo.length (I mo)) := by show World.ownsRow _ _ _ _ _ _ _; rw [hmo]; exact ho7
  have HL7 := Lib.hid (HL6.out.turn (M := []) hg7 HOV7.out (fun b h => .inl h))
  have HN7 := Lib.hid (own_apartI HN6.out (u := .slice (some ⟨gO, 0, none⟩) l.length d2') hg7 (fun i hi hi' => own_typesI HN6.out HOV6.out (by decide) i hi' hi))
  have G7 := Lib.hid (G6.out.beside hg7 (fun e => by have := Option.some.inj e; omega))
  have K7 := Lib.hid (K6.out.trans (only_below hg7 (by omega) K6.out.size))
  have s7 := hg7.size
  have hoj := HL7.out.1 (sl[j], ls[j]) (List.mem_append.2 (.inl (zip_get hsj hj)))
  simp only at hoj
  obtain ⟨ya, yc, hyj⟩ := own_slice hoj
  rw [hyj] at hoj
  obtain ⟨v8, w8, run8, o8, g8, hv8⟩ := app_at ls[j] x _ w4.heap.size w7.drew hoj (by omega) (by show w4.heap.size ≤ w7.heap.size; omega) 23
  rw [hnj] at hyj hoj run8 g8 hv8
  obtain ⟨m, hm⟩ : ∃ m, m = ls[j] ++ [x] := ⟨_, rfl⟩
  rw [← hm] at o8 HSP
  have hml : m.length ≤ 11 := by rw [hm, List.length_append, List.length_singleton]; omega
  obtain ⟨za, zc, rfl⟩ := own_slice o8
  have hg8 : w7.grownBy w8 (Value.slice ya nj yc).ownBlock := ⟨g8.os, g8.tape, g8.output, g8.size, g8.block⟩
  have G8 := Lib.hid (G7.out.beside hg8 (fun e => blk_ne (g := 0) G7.out hoj (by decide) w5.heap.size e rfl))
  have HN8 := Lib.hid (own_apartI HN7.out hg8 (fun i hi hi' => own_typesI HN7.out hoj (by decide) i hi' hi))
  have K8 := Lib.hid (K7.out.trans ((Below.refl W0.heap.size w7).grown hg8 K7.out.size (fun i hi => by have := (hoj.lt i hi).1; omega)))
  have s8 := hg8.size
  have r7 : w7.cell? ⟨gN, j, none⟩ = some (.slice ya nj yc) := by rw [HN7.out.cellAt j (by omega), List.getElem?_eq_getElem hsj, hyj]
  have r8 : w8.cell? ⟨gN, j, none⟩ = some (.slice ya nj yc) := by rw [HN8.out.cellAt j (by omega), List.getElem?_eq_getElem hsj, hyj]
  have p7 := G7.out.cells.1
  have p8 := G8.out.cells.1
  have ra := (World.cell?_alloc_lt w7 (.cells #[.int .i64 x] 3) ⟨gN, j, none⟩ (by show gN < w7.heap.size; omega)).trans r7
  have pa := (World.cell?_alloc_lt w7 (.cells #[.int .i64 x] 3) ⟨w5.heap.size, 0, none⟩ (by show w5.heap.size < w7.heap.size; omega)).trans p7
  have f8 := HN8.out.frozenAt j
  have hst := HN8.out.stored j (.slice za m.length zc)
  have hLp := HL7.out.put (u := .slice za m.length zc) (x := m) HHS.out hj (by rw [hyj]; exact hg8) o8 (fun i hi => by rw [hyj]; exact hv8 i hi)
  obtain ⟨w9, hw9⟩ : ∃ w9, w9 = w8.setCell ⟨gN, j, none⟩ (.slice za m.length zc) := ⟨_, rfl⟩
  rw [← hw9] at hst
  have HL9 := Lib.hid (hLp.outer HN8.out (by decide) hst.2)
  have HN9 := Lib.hid hst.1
  have HO9 := Lib.hid (own_apartI o8 (u := .slice (some ⟨gN, 0, none⟩) ls.length d1') hst.2 (fun i hi hi' => own_typesI HN8.out o8 (by decide) i hi hi'))
  have G9 := Lib.hid (G8.out.beside hst.2 (fun e => by have := Option.some.inj e; omega))
  have K9 := Lib.hid (K8.out.trans (only_below hst.2 (by omega) K8.out.size))
  have s9 := hst.2.size
  have hS := sortG_any m (.slice za m.length zc) w4.heap.size w9 HO9.out (by omega)
  rw [HSP.out] at hS
  have HS := Lib.hid hS
  have HSL := Lib.hid (sortI_len m)
  rw [HSP.out] at HSL
  have R8 := Lib.hid run8
  have Hw9 := Lib.hid hw9
  have HM' := Lib.hid hmo
  have hrow9 : w9.cell? ⟨gN, j, none⟩ = some (.slice za m.length zc) := by rw [HN9.out.cellAt j (by omega), List.getElem?_set_self (by omega)]
  have p9 := G9.out.cells.1
  clear run8 g8 hg8 hS hst hLp hw9 o8 hoj ho7 hg7 HM p6 q6 g0 g1 hm hmo
  go_wp2_with fail
  refine (fun (key : (?X : Prop)) => ?main) ?k
  case main =>
    go_region_law
      (first
        | (refine step_runApp (t := 23) rfl _ _ rfl rfl rfl R8.out ?_))
    all_goals exact key
  rw [← Hw9.out]
  clear r7 r8 p7 p8 ra pa f8 R8 Hw9
  go_wp2_with fail
  refine HS.out.mono ?_
  rintro e w10 ⟨rfl, ho10, hg10⟩
  have HL10 : Hid (Lists w4.heap.size w10 ((sl.set j (.slice za m.length zc)).zip (ls.set j P) ++ [(.slice (some ⟨gO, 0, none⟩) l.length d2', mo)])) := by
    have h := HL9.out.put (j := j) (u := .slice za m.length zc) (x := P) (w' := w10) (by rw [List.length_set, List.length_set]; exact HHS.out) (by rw [List.length_set]; exact hj) (by rw [List.getElem_set_self]; exact hg10) ho10 (fun i hi => .inl (by rw [List.getElem_set_self]; exact hi))
    rw [List.set_set, List.set_set] at h
    exact h
  have HN10 := Lib.hid (own_apartI HN9.out hg10 (fun i hi hi' => own_typesI HN9.out HO9.out (by decide) i hi' hi))
  have G10 := Lib.hid (G9.out.beside hg10 (fun e => blk_ne (g := 0) G9.out HO9.out (by decide) w5.heap.size e rfl))
  have K10 := Lib.hid (K9.out.trans ((Below.refl W0.heap.size w9).grown hg10 K9.out.size (fun i hi => by have := (HO9.out.lt i hi).1; omega)))
  have HB10 := Lib.hid (bth HB0.out K10.out (Nat.le_refl _))
  have s10 := hg10.size
  have HRA := Lib.hid (HOR.out.below HB10.out)
  have HRB := Lib.hid (RowV.of_own (HL10.out.1 (.slice (some ⟨gO, 0, none⟩) l.length d2', mo) (List.mem_append.2 (.inr (List.mem_singleton.2 rfl)))))
  have PP := Lib.hid (P0.out.below K10.out hsz)
  have RR := Lib.hid (R0.out.below K10.out hsz2)
  clear ho10 hg10 HS hrow9 p9
  obtain ⟨x0, x1⟩ := G10.out.cells
  obtain ⟨y0, y1⟩ := PP.out.cells
  obtain ⟨q0, q1⟩ := RR.out.cells
  have f0 := RR.out.soft 0
  have f1 := RR.out.soft 1
  have HTM := Lib.hid (tasksMoved_any l mo _ _ w10.drew HRA.out HRB.out HM'.out (by have := HGG.out.high; have := HGG.out.same; omega))
  have hzz : w.heap.size + 1 < w4.heap.size := Nat.lt_of_lt_of_le hsz2 s4
  go_wp2_with fail
  go_region_law
    (first
      | (go_simp; go_at_call 59
         refine HTM.out.mono ?_
         rintro e w11 ⟨u11, rfl, ho11, hb11⟩
         have hd11 := undrew hb11
         have HD11 := Lib.hid hd11
         have HO11 := Lib.hid ho11
         have G11 := Lib.hid (G10.out.below hd11 (lt_of_block G10.out))
         have R11 := Lib.hid (RR.out.below hd11 (lt_of_block RR.out))
         obtain ⟨x0, x1⟩ := G11.out.cells
         obtain ⟨q0, q1⟩ := R11.out.cells
         have f0 := R11.out.soft 0
         have f1 := R11.out.soft 1
         obtain ⟨ma, mc, rfl⟩ := own_slice ho11
         clear hb11 hd11 ho11))
  all_goals
    have HZ := Lib.hid ((R11.out.set0 (.slice (some ⟨gN, 0, none⟩) ls.length d1')).set1 (.slice (some ⟨gO, 0, none⟩) l.length d2'))
    have HL11 := Lib.hid (HL10.out.snoc HD11.out HO11.out (Nat.le_refl _) (by show w4.heap.size ≤ w10.heap.size; omega))
    have HN11 := Lib.hid (own_below HN10.out HD11.out)
    have HB11 := Lib.hid (bth HB10.out HD11.out (Nat.le_refl _))
    go_wp2_with fail
    refine bodyPost_ret (results_cell3 rfl rfl (load_store2 HZ.out.cells.1 HZ.out.cells.2)) rfl ?_
    refine ⟨_, _, rfl, ⟨_, _, sl.set j (.slice za m.length zc), rfl, by rw [List.length_set, List.length_set]; exact HHS.out, by rw [List.length_set]; exact own_base (own_setI (own_setI HN11.out (p := ⟨w.heap.size + 1, 0, none⟩) hzz _) (p := ⟨w.heap.size + 1, 1, none⟩) hzz _) (by omega), ((HL11.out.set (p := ⟨w.heap.size + 1, 0, none⟩) hzz _).set (p := ⟨w.heap.size + 1, 1, none⟩) hzz _).base (by omega)⟩, ?_⟩
    exact (HB11.out.setCell (p := ⟨w.heap.size + 1, 0, none⟩) (by show w.heap.size ≤ w.heap.size + 1; omega) _).setCell (p := ⟨w.heap.size + 1, 1, none⟩) (by show w.heap.size ≤ w.heap.size + 1; omega) _
end Go.Proofs.Ytnkkbleebfijgaa

/- AddNeed of the program, at all arguments. -/
namespace Go.Proofs.Ytnkkbleebfijgaa
open Go.RowKit Pth

theorem implAdd_any (ls : List (List Int)) (l : List Int) (t x : Int) (v : Value) (w : World) (hst : GraphV w v ls l) :
    Calls Try.prog 12 #[v, .int .i64 t, .int .i64 x] w (AddPost (addG ls l t x) (addO ls l t x) (addM ls l t x) (addOk ls l t x) w) := by
  rcases h : addOk ls l t x with _ | _
  · rw [(add_no h).1, (add_no h).2.1]
    exact implAdd_no ls l t x v w hst h
  · obtain ⟨_, h1, h2, _, _⟩ := add_parts h
    simp only [Bool.and_eq_true, decide_eq_true_eq] at h1 h2
    rw [(add_yes h).1, (add_yes h).2.1, (add_yes h).2.2]
    exact implAdd_yes ls l t.toNat x.toNat t x (by omega) (by omega) v w hst h
end Go.Proofs.Ytnkkbleebfijgaa

/- AddNeed of the reference, where no need is added; a new number put into a list. -/
namespace Go.Proofs.Ytnkkbleebfijgaa
open Go.RowKit Pth

set_option maxHeartbeats 1000000 in
theorem l1PutN_any (l : List Int) (n : Int) (v : Value) (w : World) (hrow : RowV w v (I l)) (hn : n ∉ l) (hl : l.length ≤ 1000) :
    Calls Try.prog 49 #[v, .int .i64 n] w (IntsPost w.heap.size (putL l n) w) := by
  have HR := Lib.hid hrow
  obtain ⟨a, cap, rfl, hc1, hc2, hat⟩ := HR.out.ints
  clear hrow
  unfold maxLen at hc2
  go_enter Try.func49, Try.ntmps49
  go_wp2_with fail
  go_loop [5] (fun i => ∃ k : Nat, k ≤ l.length ∧ i = .int .i64 k ∧ Hid (putL l n = l.take k ++ putL (l.drop k) n)) (fun i => l.length - (intOf i).toNat)
  case atStart => exact ⟨0, Nat.zero_le _, rfl, put_start l n⟩
  case round =>
    obtain ⟨k, hk, rfl, HO⟩ := hrel
    by_cases hlt : k < l.length
    · obtain ⟨g, o, rfl, hg, hcell⟩ := hat k hlt
      have hlt1 : decide ((k : Int) < (l.length : Int)) = true := by simp; omega
      by_cases hx : l[k] < n
      · have HP := Lib.hid (put_less hlt HO.out hx)
        have hx1 : decide (l[k] < n) = true := by simpa using hx
        generalize l[k] = x at hcell hx hx1
        clear hat HO hx
        go_wp2_with fail
        go_round
        case rel => exact ⟨k + 1, by omega, by go_num, HP⟩
        case measure => simp [intOf]; omega
      · have hx1 : decide (l[k] < n) = false := by simpa using hx
        by_cases hy : l[k] = n
        · exact absurd (by rw [← hy]; exact List.getElem_mem hlt) hn
        · have HP := Lib.hid (put_new HO.out (fun _ => by omega))
          have hy1 : (l[k] == n) = false := by simpa using hy
          generalize l[k] = x at hcell hx hx1 hy hy1
          clear hat HO hx hy
          obtain ⟨hF, A1, cut1, hD⟩ := cutI HR.out hk hc1
          have HF := Lib.hid hF
          have HD := Lib.hid hD
          clear hF hD
          go_wp2_with (at_builtin; first
            | (refine wpAppRow elemI rfl _ _ rfl w.heap.size _ [] (I (l.take k)) _ rfl (World.ownsRow_lit w #[] 0 (Nat.le_refl _) (by unfold maxLen; omega) rfl) rfl (HF.out.alloc _) (I_one _) (by rw [I_len, List.length_take, List.length_nil]; omega) (by simp) ?_
               intro v1 w1 hown1 hg1
               have HN1 := Lib.hid (put_first hown1)
               have HB1 := Lib.hid (((Below.refl _ w).alloc (Nat.le_refl _) _).trans (below_own (World.ownsRow_lit w #[] 0 (Nat.le_refl _) (by unfold maxLen; omega) rfl) hg1 (by simp)))
               clear hown1 hg1)
            | (refine wpAppOne elemI rfl _ _ rfl w.heap.size _ (I (l.take k)) rfl HN1.out _ rfl rfl rfl (by rw [I_len, List.length_take]; omega) HB1.out.size ?_
               intro v2 w2 hown2 hg2
               have HN2 := Lib.hid (put_second hown2)
               have HB2 := Lib.hid (HB1.out.trans (below_own HN1.out hg2 HB1.out.size))
               clear hown2 hg2)
            | (refine wpAppRow elemI rfl _ _ rfl w.heap.size _ (I (l.take k ++ [n])) (I (l.drop k)) _ rfl HN2.out rfl (HD.out.below HB2.out) (I_one _) (by rw [I_len, I_len, List.length_append, List.length_take, List.length_drop, List.length_singleton]; omega) HB2.out.size ?_
               intro v3 w3 hown3 hg3
               have HN3 := Lib.hid (put_third hown3 HP.out)
               have HB3 := Lib.hid (HB2.out.trans (below_own HN2.out hg3 HB2.out.size))
               clear hown3 hg3))
          go_ret
          exact ⟨_, rfl, HN3.out, HB3.out⟩
    · have HP := Lib.hid (put_new HO.out (fun h => absurd h hlt))
      have hlt1 : decide ((k : Int) < (l.length : Int)) = false := by simp; omega
      clear hat HO
      obtain ⟨hF, A1, cut1, hD⟩ := cutI HR.out hk hc1
      have HF := Lib.hid hF
      have HD := Lib.hid hD
      clear hF hD
      go_wp2_with (at_builtin; first
        | (refine wpAppRow elemI rfl _ _ rfl w.heap.size _ [] (I (l.take k)) _ rfl (World.ownsRow_lit w #[] 0 (Nat.le_refl _) (by unfold maxLen; omega) rfl) rfl (HF.out.alloc _) (I_one _) (by rw [I_len, List.length_take, List.length_nil]; omega) (by simp) ?_
           intro v1 w1 hown1 hg1
           have HN1 := Lib.hid (put_first hown1)
           have HB1 := Lib.hid (((Below.refl _ w).alloc (Nat.le_refl _) _).trans (below_own (World.ownsRow_lit w #[] 0 (Nat.le_refl _) (by unfold maxLen; omega) rfl) hg1 (by simp)))
           clear hown1 hg1)
        | (refine wpAppOne elemI rfl _ _ rfl w.heap.size _ (I (l.take k)) rfl HN1.out _ rfl rfl rfl (by rw [I_len, List.length_take]; omega) HB1.out.size ?_
           intro v2 w2 hown2 hg2
           have HN2 := Lib.hid (put_second hown2)
           have HB2 := Lib.hid (HB1.out.trans (below_own HN1.out hg2 HB1.out.size))
           clear hown2 hg2)
        | (refine wpAppRow elemI rfl _ _ rfl w.heap.size _ (I (l.take k ++ [n])) (I (l.drop k)) _ rfl HN2.out rfl (HD.out.below HB2.out) (I_one _) (by rw [I_len, I_len, List.length_append, List.length_take, List.length_drop, List.length_singleton]; omega) HB2.out.size ?_
           intro v3 w3 hown3 hg3
           have HN3 := Lib.hid (put_third hown3 HP.out)
           have HB3 := Lib.hid (HB2.out.trans (below_own HN2.out hg3 HB2.out.size))
           clear hown3 hg3))
      go_ret
      exact ⟨_, rfl, HN3.out, HB3.out⟩

theorem addPre_task (ls : List (List Int)) (l : List Int) (t x : Int) : addPre ls l t x = (taskG ls l t && taskG ls l x && !hasL (needsAt ls t) x) := by
  unfold addPre
  rcases h : goodG ls l with _ | _
  · rw [taskG_good h]; rfl
  · rw [taskG_in h, taskG_in h]; rfl

set_option maxRecDepth 20000 in
set_option maxHeartbeats 8000000 in
theorem specAdd_no (ls : List (List Int)) (l : List Int) (t x : Int) (v : Value) (w : World) (hst : GraphV w v ls l) (hno : addOk ls l t x = false) :
    Calls Try.prog 10 #[v, .int .i64 t, .int .i64 x] w (AddPost [] [] (addM ls l t x) false w) := by
  have HV := Lib.hid hst
  obtain ⟨nv, ov, rfl, h1, h2⟩ := hst
  obtain ⟨an, cn, rfl, hn1, hn2, hat⟩ := h1.lists
  obtain ⟨ao, co, rfl, ho1, ho2, _⟩ := h2.ints
  have HOR := Lib.hid h2
  clear h1 h2
  unfold maxLen at hn2 ho2
  have HAT := Lib.hid hat
  clear hat
  obtain ⟨W0, hW0⟩ : ∃ W0, W0 = (w.alloc (.cells #[.slice an ls.length cn, .slice ao l.length co] 27)).alloc (.cells #[.slice none 0 0, .slice none 0 0] 27) := ⟨_, rfl⟩
  have e1 : (w.alloc (.cells #[.slice an ls.length cn, .slice ao l.length co] 27)).heap.size = w.heap.size + 1 := by simp
  have P0 : Hid (Blk2 W0 w.heap.size 27 (.slice an ls.length cn) (.slice ao l.length co)) := by rw [hW0]; exact Blk2.new.old _
  have R0 : Hid (Blk2 W0 (w.heap.size + 1) 27 (.slice none 0 0) (.slice none 0 0)) := by
    have := Blk2.new (w := w.alloc (.cells #[.slice an ls.length cn, .slice ao l.length co] 27)) (t := 27) (x := .slice none 0 0) (y := .slice none 0 0)
    rw [e1] at this
    rw [hW0]; exact this
  have HB0 : Hid (Below w.heap.size w W0) := by rw [hW0]; exact ((Below.refl w.heap.size w).alloc (Nat.le_refl _) _).alloc (by rw [e1]; omega) _
  have hz0 : w.heap.size + 2 ≤ W0.heap.size := by rw [hW0]; simp
  have HZ0 := Lib.hid hz0
  have hsz : w.heap.size < W0.heap.size := by omega
  have hsz2 : w.heap.size + 1 < W0.heap.size := by omega
  have HW0 := Lib.hid hW0
  clear hW0 e1 hz0
  obtain ⟨c0, c1⟩ := P0.out.cells
  have HT := Lib.hid (fun W (h : Below W0.heap.size W0 W) => l5Task_any ls l t _ W (HV.out.below (bth HB0.out h (Nat.le_refl _))))
  have HX := Lib.hid (fun W (h : Below W0.heap.size W0 W) => l5Task_any ls l x _ W (HV.out.below (bth HB0.out h (Nat.le_refl _))))
  have hM := (add_no hno).2.2
  have HNo : Hid (addPre ls l t x = false → addM ls l t x = []) := fun h => by rw [hM, h]; rfl
  have HYes : Hid (addPre ls l t x = true → addM ls l t x = loopL ls t x ∧ 0 < (loopL ls t x).length) := fun h => by
    have hn := hno
    unfold addOk at hn
    rw [h, Bool.true_and, decide_eq_false_iff_not] at hn
    rw [hM, h]
    refine ⟨rfl, ?_⟩
    rw [loopL, if_neg hn, wayL_len]
    omega
  have HIN : Hid (taskG ls l t = true → GoodG ls l ∧ ∃ j : Nat, t = j ∧ j < ls.length) := fun h => by
    have := taskG_yes h
    exact ⟨this.1, t.toNat, by omega, by omega⟩
  have HIX : Hid (taskG ls l x = true → ∃ j : Nat, x = j ∧ j < ls.length) := fun h => by
    have := taskG_yes h
    exact ⟨x.toNat, by omega, by omega⟩
  have HB3 : Hid (∀ (j : Nat) (hj : j < ls.length), t = j → hasL ls[j] x = hasL (needsAt ls t) x) := fun j hj e => by rw [e, needsAt_get hj]
  have HLO : Hid (∀ W (h : Below W0.heap.size W0 W) (j y : Nat), t = j → x = y → GoodG ls l → j < ls.length → y < ls.length → Calls Try.prog 46 #[.agg #[.slice an ls.length cn, .slice ao l.length co], .int .i64 t, .int .i64 x] W (IntsPost W.heap.size (loopL ls t x) W)) := fun W h j y e1 e2 hG h1 h2 => by
    rw [e1, e2]
    exact l5Loop_any ls l j y _ W (HV.out.below (bth HB0.out h (Nat.le_refl _))) hG h1 h2
  rw [addPre_task] at HNo HYes
  clear hM hno
  generalize addM ls l t x = M at *
  generalize loopL ls t x = LL at *
  generalize taskG ls l t = b1 at *
  generalize taskG ls l x = b2 at *
  generalize hasL (needsAt ls t) x = b3 at *
  go_enter Try.func10, Try.ntmps10
  go_wp2_with fail
  rw [← HW0.out]
  refine (HT.out W0 (Below.refl _ _)).mono ?_
  rintro e w1 ⟨rfl, hb1⟩
  have K1 := Lib.hid hb1
  obtain ⟨p1, q1⟩ := (P0.out.below K1.out hsz).cells
  clear hb1 c0 c1
  cases b1 with
  | false =>
    have hR := HNo.out (by simp)
    subst hR
    clear HNo HYes HIN HIX HB3 HT HX HLO p1 q1
    have R := Lib.hid (R0.out.below K1.out hsz2)
    have q0 := R.out.cells.1
    have q1 := R.out.cells.2
    have f0 := R.out.soft 0
    have f1 := R.out.soft 1
    have HZ := Lib.hid ((R.out.set0 (.slice none 0 0)).set1 (.slice none 0 0))
    go_wp2_with fail
    refine bodyPost_ret (results_cell3 rfl rfl (load_store2 HZ.out.cells.1 HZ.out.cells.2)) rfl ?_
    exact ⟨_, _, rfl, GraphM.none (none_ownZ _ _ _), ((bth HB0.out K1.out (Nat.le_refl _)).setCell (p := ⟨w.heap.size + 1, 0, none⟩) (by show w.heap.size ≤ w.heap.size + 1; omega) _).setCell (p := ⟨w.heap.size + 1, 1, none⟩) (by show w.heap.size ≤ w.heap.size + 1; omega) _⟩
  | true =>
    go_wp2_with fail
    refine (HX.out w1 K1.out).mono ?_
    rintro e w2 ⟨rfl, hb2⟩
    have K2 := Lib.hid (bth K1.out hb2 (Nat.le_refl _))
    obtain ⟨p2, q2⟩ := (P0.out.below K2.out hsz).cells
    clear hb2 p1 q1
    cases b2 with
    | false =>
      have hR := HNo.out (by simp)
      subst hR
      clear HNo HYes HIN HIX HB3 HT HX HLO p2 q2
      have R := Lib.hid (R0.out.below K2.out hsz2)
      have q0 := R.out.cells.1
      have q1 := R.out.cells.2
      have f0 := R.out.soft 0
      have f1 := R.out.soft 1
      have HZ := Lib.hid ((R.out.set0 (.slice none 0 0)).set1 (.slice none 0 0))
      go_wp2_with fail
      refine bodyPost_ret (results_cell3 rfl rfl (load_store2 HZ.out.cells.1 HZ.out.cells.2)) rfl ?_
      exact ⟨_, _, rfl, GraphM.none (none_ownZ _ _ _), ((bth HB0.out K2.out (Nat.le_refl _)).setCell (p := ⟨w.heap.size + 1, 0, none⟩) (by show w.heap.size ≤ w.heap.size + 1; omega) _).setCell (p := ⟨w.heap.size + 1, 1, none⟩) (by show w.heap.size ≤ w.heap.size + 1; omega) _⟩
    | true =>
      obtain ⟨hGG, j, ej, hj⟩ := HIN.out (by trivial)
      obtain ⟨y, ey, hy⟩ := HIX.out (by trivial)
      obtain ⟨g, o, a2, c2, rfl, hg, hcell0, hrk⟩ := HAT.out j hj
      have HKW := Lib.hid (bth HB0.out K2.out (Nat.le_refl _))
      have hcell : w2.cell? ⟨g, o + j, none⟩ = some (.slice a2 ls[j].length c2) := by rw [HKW.out.cell (p := ⟨g, o + j, none⟩) hg]; exact hcell0
      have hC := l1Has_any ls[j] x _ w2 (hrk.below HKW.out)
      rw [HB3.out j hj ej] at hC
      have HC := Lib.hid hC
      have HL := Lib.hid (HLO.out w2 K2.out j y ej ey hGG hj hy)
      subst ej
      have hj2 : (j : Int) < (ls.length : Int) := by omega
      clear hC hcell0 hrk HIN HIX HB3 HT HX HAT HLO hGG ey
      generalize ls[j].length = nj at hcell HC
      go_wp2_with fail
      refine HC.out.mono ?_
      rintro e w4 ⟨rfl, rfl⟩
      cases b3 with
      | true =>
        have hR := HNo.out (by simp)
        subst hR
        clear HNo HYes HL p2 q2 HC
        have R := Lib.hid (R0.out.below K2.out hsz2)
        have q0 := R.out.cells.1
        have q1 := R.out.cells.2
        have f0 := R.out.soft 0
        have f1 := R.out.soft 1
        have HZ := Lib.hid ((R.out.set0 (.slice none 0 0)).set1 (.slice none 0 0))
        go_wp2_with fail
        refine bodyPost_ret (results_cell3 rfl rfl (load_store2 HZ.out.cells.1 HZ.out.cells.2)) rfl ?_
        exact ⟨_, _, rfl, GraphM.none (none_ownZ _ _ _), ((bth HB0.out K2.out (Nat.le_refl _)).setCell (p := ⟨w.heap.size + 1, 0, none⟩) (by show w.heap.size ≤ w.heap.size + 1; omega) _).setCell (p := ⟨w.heap.size + 1, 1, none⟩) (by show w.heap.size ≤ w.heap.size + 1; omega) _⟩
      | false =>
        obtain ⟨rfl, hLL⟩ := HYes.out (by simp)
        have hLd : decide ((M.length : Int) > 0) = true := by rw [decide_eq_true_iff]; omega
        clear HNo HYes HC
        go_wp2_with fail
        refine HL.out.mono ?_
        rintro e w4 ⟨u4, rfl, ho4, hb4⟩
        have K4 := Lib.hid (bth K2.out hb4 (Nat.le_refl _))
        have hlt : w.heap.size + 1 < w2.heap.size := Nat.lt_of_lt_of_le hsz2 K2.out.size
        have HO3 := Lib.hid ho4
        obtain ⟨ua, uc, rfl⟩ := own_slice ho4
        clear hb4 ho4 p2 q2 HL
        have R := Lib.hid (R0.out.below K4.out hsz2)
        have q0 := R.out.cells.1
        have q1 := R.out.cells.2
        have f0 := R.out.soft 0
        have f1 := R.out.soft 1
        have HZ := Lib.hid ((R.out.set0 (.slice none 0 0)).set1 (.slice none 0 0))
        go_wp2_with fail
        refine bodyPost_ret (results_cell3 rfl rfl (load_store2 HZ.out.cells.1 HZ.out.cells.2)) rfl ?_
        exact ⟨_, _, rfl, GraphM.none (own_base (own_setI (own_setI HO3.out (p := ⟨w.heap.size + 1, 0, none⟩) hlt _) (p := ⟨w.heap.size + 1, 1, none⟩) hlt _) (by omega)), ((bth HB0.out K4.out (Nat.le_refl _)).setCell (p := ⟨w.heap.size + 1, 0, none⟩) (by show w.heap.size ≤ w.heap.size + 1; omega) _).setCell (p := ⟨w.heap.size + 1, 1, none⟩) (by show w.heap.size ≤ w.heap.size + 1; omega) _⟩
end Go.Proofs.Ytnkkbleebfijgaa

/- AddNeed of the reference, where a need is added, given what l5Mend does. -/
namespace Go.Proofs.Ytnkkbleebfijgaa
open Go.RowKit Pth

/-- What l5Mend does: the order's row is turned into the mended order, what moved is told in new memory. -/
def MendC : Prop := ∀ (ls : List (List Int)) (l : List Int) (t x : Nat) (B gO cO : Nat) (nv : Value) (w : World), GraphV w (.agg #[nv, .slice (some ⟨gO, 0, none⟩) l.length cO]) ls l → w.ownsRow B 3 1 (.slice (some ⟨gO, 0, none⟩) l.length cO) l.length (I l) → GoodG ls l → t < ls.length → x < ls.length → farI ls t x < 0 →
    Calls Try.prog 48 #[.agg #[nv, .slice (some ⟨gO, 0, none⟩) l.length cO], .int .i64 (t : Int), .int .i64 (x : Int)] w fun e w' => ∃ u, e = .returned u ∧ w'.ownsRow w.heap.size 3 1 u (sortI (movedL l (mendO ls l t x))).length (I (sortI (movedL l (mendO ls l t x)))) ∧ w'.ownsRow B 3 1 (.slice (some ⟨gO, 0, none⟩) l.length cO) l.length (I (mendO ls l t x)) ∧ w.grownBy w' (some gO)
theorem total_tenK {ls : List (List Int)} {l : List Int} (hG : GoodG ls l) : ls.length + total ls + l.length ≤ 1000 := by
  have h10 := hG.high
  have hs := hG.same
  have : ∀ m : List (List Int), (∀ k (hk : k < m.length), m[k].length ≤ 10) → total m ≤ 10 * m.length := by
    intro m
    induction m with
    | nil => intro _; simp [total]
    | cons y q ih =>
      intro h
      have h0 := h 0 (by simp)
      have h1 := ih (fun k hk => by have := h (k + 1) (by simp; omega); simpa using this)
      simp only [List.getElem_cons_zero] at h0
      simp only [total, List.map_cons, List.sum_cons, List.length_cons] at h1 ⊢
      omega
  have hk := this ls (fun k hk => by
    have hw := (hG.each k hk).1
    have := rise_len hw.1 hw.2 (by omega)
    omega)
  omega
/-- One list more, in newer memory than what the others lie in. -/
theorem Lists.newer {B C : Nat} {w : World} {L : List (Value × List Int)} {v : Value} {l : List Int} (h : Lists B w L) (hown : w.ownsRow C 3 1 v l.length (I l)) (hC : B ≤ C) (hl : ∀ p ∈ L, ∀ b, p.1.ownBlock = some b → b < C) : Lists B w (L ++ [(v, l)]) :=
  h.more (own_base hown hC) (fun p hp b h1 h2 => by have := hl p hp b h1; have := (hown.lt b h2).1; omega)

set_option maxRecDepth 20000 in
set_option maxHeartbeats 8000000 in
theorem specAdd_yes (hMC : MendC) (ls : List (List Int)) (l : List Int) (j y : Nat) (t x : Int) (ht : t = j) (hx : x = y) (v : Value) (w : World) (hst : GraphV w v ls l) (hyes : addOk ls l t x = true) :
    Calls Try.prog 10 #[v, .int .i64 t, .int .i64 x] w (AddPost (ls.set j (putL (needsAt ls t) x)) (mendO ls l t x) (sortI (movedL l (mendO ls l t x))) true w) := by
  have HV := Lib.hid hst
  obtain ⟨nv, ov, rfl, h1, h2⟩ := hst
  obtain ⟨an, cn, rfl, hn1, hn2, hat⟩ := h1.lists
  obtain ⟨ao, co, rfl, ho1, ho2, _⟩ := h2.ints
  have HOR := Lib.hid h2
  clear h1 h2
  unfold maxLen at hn2 ho2
  have HAT := Lib.hid hat
  clear hat
  obtain ⟨W0, hW0⟩ : ∃ W0, W0 = (w.alloc (.cells #[.slice an ls.length cn, .slice ao l.length co] 27)).alloc (.cells #[.slice none 0 0, .slice none 0 0] 27) := ⟨_, rfl⟩
  have e1 : (w.alloc (.cells #[.slice an ls.length cn, .slice ao l.length co] 27)).heap.size = w.heap.size + 1 := by simp
  have P0 : Hid (Blk2 W0 w.heap.size 27 (.slice an ls.length cn) (.slice ao l.length co)) := by rw [hW0]; exact Blk2.new.old _
  have R0 : Hid (Blk2 W0 (w.heap.size + 1) 27 (.slice none 0 0) (.slice none 0 0)) := by
    have := Blk2.new (w := w.alloc (.cells #[.slice an ls.length cn, .slice ao l.length co] 27)) (t := 27) (x := .slice none 0 0) (y := .slice none 0 0)
    rw [e1] at this
    rw [hW0]; exact this
  have HB0 : Hid (Below w.heap.size w W0) := by rw [hW0]; exact ((Below.refl w.heap.size w).alloc (Nat.le_refl _) _).alloc (by rw [e1]; omega) _
  have hz0 : w.heap.size + 2 ≤ W0.heap.size := by rw [hW0]; simp
  have HZ0 := Lib.hid hz0
  have hsz : w.heap.size < W0.heap.size := by omega
  have hsz2 : w.heap.size + 1 < W0.heap.size := by omega
  have HW0 := Lib.hid hW0
  clear hW0 e1 hz0
  obtain ⟨c0, c1⟩ := P0.out.cells
  have HT := Lib.hid (fun W (h : Below W0.heap.size W0 W) => l5Task_any ls l t _ W (HV.out.below (bth HB0.out h (Nat.le_refl _))))
  have HX := Lib.hid (fun W (h : Below W0.heap.size W0 W) => l5Task_any ls l x _ W (HV.out.below (bth HB0.out h (Nat.le_refl _))))
  obtain ⟨hb0, hb1, hb2, hb3, hfar⟩ := add_parts hyes
  have hGG := goodG_iff.1 hb0
  have HGG := Lib.hid hGG
  have HTT := Lib.hid (total_tenK hGG)
  rw [taskG_in hb0, hb1] at HT
  rw [taskG_in hb0, hb2] at HX
  have hj : j < ls.length := by simp only [Bool.and_eq_true, decide_eq_true_eq] at hb1; omega
  have hy : y < ls.length := by simp only [Bool.and_eq_true, decide_eq_true_eq] at hb2; omega
  have hnot : x ∉ ls[j] := by rw [ht, needsAt_get hj, hasL, decide_eq_false_iff_not] at hb3; exact hb3
  have HPT : Hid (putL ls[j] x = putL (needsAt ls t) x) := by show _ = _; rw [ht, needsAt_get hj]
  have hlj : ls[j].length ≤ 10 := by
    have hw := (HGG.out.each j hj).1
    have := rise_len hw.1 hw.2 (by omega)
    have := HGG.out.high
    omega
  have HLP : Hid (∀ W (_ : Below W0.heap.size W0 W), Calls Try.prog 46 #[.agg #[.slice an ls.length cn, .slice ao l.length co], .int .i64 t, .int .i64 x] W (IntsPost W.heap.size [] W)) := fun W h => by
    have := l5Loop_any ls l j y _ W (HV.out.below (bth HB0.out h (Nat.le_refl _))) HGG.out hj hy
    rw [← ht, ← hx, loopL, if_pos hfar] at this
    exact this
  have HMD : Hid (∀ B gO cO nv W, GraphV W (.agg #[nv, .slice (some ⟨gO, 0, none⟩) l.length cO]) ls l → World.ownsRow W B 3 1 (.slice (some ⟨gO, 0, none⟩) l.length cO) l.length (I l) → Calls Try.prog 48 #[.agg #[nv, .slice (some ⟨gO, 0, none⟩) l.length cO], .int .i64 t, .int .i64 x] W fun e w' => ∃ u, e = .returned u ∧ w'.ownsRow W.heap.size 3 1 u (sortI (movedL l (mendO ls l t x))).length (I (sortI (movedL l (mendO ls l t x)))) ∧ w'.ownsRow B 3 1 (.slice (some ⟨gO, 0, none⟩) l.length cO) l.length (I (mendO ls l t x)) ∧ W.grownBy w' (some gO)) := fun B gO cO nv W h1 h2 => by
    have := hMC ls l j y B gO cO nv W h1 h2 HGG.out hj hy (by rw [← ht, ← hx]; exact hfar)
    rw [← ht, ← hx] at this
    exact this
  have HMOL : Hid (∀ B v W, World.ownsRow W B 3 1 v l.length (I (mendO ls l t x)) → (mendO ls l t x).length = l.length) := fun B v W h => by
    have := h.1
    rw [I_len] at this
    omega
  have hll : 0 < l.length := by have := HGG.out.same; omega
  obtain ⟨g, o, a2, c2, rfl, hg, hcell0, hrk⟩ := HAT.out j hj
  have HC3 : Hid (∀ W, Below w.heap.size w W → Calls Try.prog 45 #[.slice a2 ls[j].length c2, .int .i64 x] W fun e w' => e = .returned (.bool false) ∧ W = w') := fun W h => by
    have := l1Has_any ls[j] x _ W (hrk.below h)
    rw [show hasL ls[j] x = false by rw [← hb3, ht, needsAt_get hj]] at this
    exact this
  have HOG := Lib.hid (fun W (h : Below W0.heap.size W0 W) => l5Own_any ls l (.agg #[.slice (some ⟨g, o, none⟩) ls.length cn, .slice ao l.length co]) W (HV.out.below (bth HB0.out h (Nat.le_refl _))) HTT.out)
  have HPU := Lib.hid (fun u W (h : RowV W u (I ls[j])) => l1PutN_any ls[j] x u W h hnot (by omega))
  rw [HPT.out] at HPU
  generalize putL (needsAt ls t) x = P at *
  generalize sortI (movedL l (mendO ls l t x)) = M at *
  generalize hmo : mendO ls l t x = mo at *
  clear hmo hb0 hb1 hb2 hb3 hfar hyes hnot hGG hrk hx HPT
  have hj2 : (j : Int) < (ls.length : Int) := by omega
  subst ht
  generalize hnj : ls[j].length = nj at hcell0 HC3
  go_enter Try.func10, Try.ntmps10
  go_wp2_with fail
  rw [← HW0.out]
  refine (HT.out W0 (Below.refl _ _)).mono ?_
  rintro e w2 ⟨rfl, hb2⟩
  have K2 := Lib.hid hb2
  obtain ⟨p2, q2⟩ := (P0.out.below K2.out hsz).cells
  clear hb2 c0 c1
  go_wp2_with fail
  refine (HX.out w2 K2.out).mono ?_
  rintro e w3 ⟨rfl, hb3⟩
  have K3 := Lib.hid (bth K2.out hb3 (Nat.le_refl _))
  obtain ⟨p3, q3⟩ := (P0.out.below K3.out hsz).cells
  clear hb3 p2 q2
  have HK3 := Lib.hid (bth HB0.out K3.out (Nat.le_refl _))
  have hcell : w3.cell? ⟨g, o + j, none⟩ = some (.slice a2 nj c2) := by rw [HK3.out.cell (p := ⟨g, o + j, none⟩) hg]; exact hcell0
  go_wp2_with fail
  refine (HC3.out w3 HK3.out).mono ?_
  rintro e w4 ⟨rfl, rfl⟩
  clear hcell HC3 HT HX
  go_wp2_with fail
  refine (HLP.out w3 K3.out).mono ?_
  rintro e w4 ⟨u4, rfl, ho4, hb4⟩
  have K4 := Lib.hid (bth K3.out hb4 (Nat.le_refl _))
  obtain ⟨p4, q4⟩ := (P0.out.below K4.out hsz).cells
  obtain ⟨ua, uc, rfl⟩ := own_slice ho4
  rw [show ([] : List Int).length = 0 from rfl]
  clear hb4 ho4 p3 q3 HLP
  go_wp2_with fail
  refine (HOG.out w4 K4.out).mono ?_
  rintro e w5 ⟨v5, rfl, ho5, hb5⟩
  have K5 := Lib.hid (bth K4.out hb5 (Nat.le_refl _))
  obtain ⟨nv, ov, sl, hv5, hs5, hn5, hL5⟩ := ho5
  obtain ⟨b1, d1', rfl⟩ := own_slice hn5
  have hov5 := hL5.1 (ov, l) (List.mem_append.2 (.inr (List.mem_singleton.2 rfl)))
  simp only at hov5
  obtain ⟨b2, d2', hov⟩ := own_slice hov5
  subst hov hv5
  obtain ⟨gO, hb2'⟩ : ∃ gO, b2 = some ⟨gO, 0, none⟩ := by
    rcases hov5.2 with ⟨_, h0⟩ | ⟨gN, cap, cur, hv, _⟩
    · omega
    · injection hv with hv1 _ _; exact ⟨gN, hv1⟩
  obtain ⟨gN, hb1', hc1⟩ : ∃ gN, b1 = some ⟨gN, 0, none⟩ ∧ ls.length ≤ d1' := by
    rcases hn5.2 with ⟨_, h0⟩ | ⟨gN, cap, cur, hv, _, _, hcap, _⟩
    · omega
    · injection hv with hv1 _ hv3; exact ⟨gN, hv1, by omega⟩
  subst hb1' hb2'
  obtain ⟨w6, hw6⟩ : ∃ w6, w6 = w5.alloc (.cells #[.slice (some ⟨gN, 0, none⟩) ls.length d1', .slice (some ⟨gO, 0, none⟩) l.length d2'] 27) := ⟨_, rfl⟩
  have hA6 : Below w5.heap.size w5 w6 := by rw [hw6]; exact (Below.refl w5.heap.size w5).alloc (Nat.le_refl _) _
  have G6 : Hid (Blk2 w6 w5.heap.size 27 (.slice (some ⟨gN, 0, none⟩) ls.length d1') (.slice (some ⟨gO, 0, none⟩) l.length d2')) := by rw [hw6]; exact Blk2.new
  have HN6 := Lib.hid (own_below hn5 hA6)
  have HL6 := Lib.hid (hL5.below hA6)
  have K6 := Lib.hid (bth K5.out hA6 (Nat.le_refl _))
  have s6 : w5.heap.size < w6.heap.size := lt_of_block G6.out
  have s5 := hb5.size
  have s4 := K4.out.size
  obtain ⟨p6, q6⟩ := (P0.out.below K6.out hsz).cells
  obtain ⟨g0, g1⟩ := G6.out.cells
  have Hw6 := Lib.hid hw6
  have HHS := Lib.hid hs5
  have hsj : j < sl.length := by omega
  have HOV6 := Lib.hid (own_below hov5 hA6)
  have hgO := hov5.lt gO rfl
  have hgN := hn5.lt gN rfl
  have hM := HMD.out w4.heap.size gO d2' (.slice (some ⟨gN, 0, none⟩) ls.length d1') w6 (GraphO.view ⟨_, _, sl, rfl, hs5, HN6.out, HL6.out⟩) HOV6.out
  have HM := Lib.hid hM
  clear hM hw6 hA6 hb5 hn5 hL5 hov5 p4 q4 HMD HOG hs5
  go_wp2_with fail
  rw [← Hw6.out]
  go_wp2_with fail
  refine HM.out.mono ?_
  rintro e w7 ⟨u7, rfl, hu7, ho7, hg7⟩
  have hmo : mo.length = l.length := HMOL.out w4.heap.size _ w7 ho7
  have HOV7 : Hid (w7.ownsRow w4.heap.size 3 1 (.slice (some ⟨gO, 0, none⟩) l.length d2') mo.length (I mo)) := by show World.ownsRow _ _ _ _ _ _ _; rw [hmo]; exact ho7
  have HL7 : Hid (Lists w4.heap.size w7 (sl.zip ls ++ ([(.slice (some ⟨gO, 0, none⟩) l.length d2', mo)] ++ [(u7, M)]))) := by
    rw [← List.append_assoc]
    refine (HL6.out.turn (M := []) hg7 HOV7.out (fun b h => .inl h)).newer hu7 (by omega) (fun p hp b hb => ?_)
    rw [List.mem_append, List.mem_singleton] at hp
    rcases hp with hp | rfl
    · exact ((HL6.out.1 p (List.mem_append.2 (.inl hp))).lt b hb).2
    · exact (HOV6.out.lt b hb).2
  have HN7 := Lib.hid (own_apartI HN6.out (u := .slice (some ⟨gO, 0, none⟩) l.length d2') hg7 (fun i hi hi' => own_typesI HN6.out HOV6.out (by decide) i hi' hi))
  have G7 := Lib.hid (G6.out.beside hg7 (fun e => by have := Option.some.inj e; omega))
  have K7 := Lib.hid (K6.out.trans (only_below hg7 (by omega) K6.out.size))
  have s7 := hg7.size
  have hoj := HL7.out.1 (sl[j], ls[j]) (List.mem_append.2 (.inl (zip_get hsj hj)))
  simp only at hoj
  obtain ⟨ya, yc, hyj⟩ := own_slice hoj
  rw [hyj] at hoj
  obtain ⟨ma, mc, rfl⟩ := own_slice hu7
  rw [hnj] at hyj hoj
  have r7 : w7.cell? ⟨gN, j, none⟩ = some (.slice ya nj yc) := by rw [HN7.out.cellAt j (by omega), List.getElem?_eq_getElem hsj, hyj]
  have p7 := G7.out.cells.1
  have HP7 := Lib.hid (HPU.out (.slice ya nj yc) w7.drew (RowV.of_own hoj))
  have HYJ := Lib.hid hyj
  clear hu7 ho7 hg7 HM p6 q6 g0 g1 hmo hoj hyj HPU
  go_wp2_with fail
  go_region_law
    (first
      | (go_simp; go_at_call 49
         refine HP7.out.mono ?_
         rintro e w8 ⟨u8, rfl, ho8, hb8⟩
         have hd8 := undrew hb8
         have HD8 := Lib.hid hd8
         have HO8 := Lib.hid ho8
         have G8 := Lib.hid (G7.out.below hd8 (lt_of_block G7.out))
         have HN8 := Lib.hid (own_below HN7.out hd8)
         have p7 := G8.out.cells.1
         have r8 : w8.cell? ⟨gN, j, none⟩ = some (.slice ya nj yc) := by rw [HN8.out.cellAt j (by omega), List.getElem?_eq_getElem hsj, HYJ.out]
         have f8 := HN8.out.frozenAt j
         obtain ⟨za, zc, rfl⟩ := own_slice ho8
         clear hb8 hd8 ho8))
  all_goals
    have hst := HN8.out.stored j (.slice za P.length zc)
    have hLp := HL7.out.put (u := .slice za P.length zc) (x := P) HHS.out hj (below_grown HD8.out) (own_base HO8.out (by show w4.heap.size ≤ w7.heap.size; omega)) (fun i hi => .inr (HO8.out.lt i hi).1)
    obtain ⟨w9, hw9⟩ : ∃ w9, w9 = w8.setCell ⟨gN, j, none⟩ (.slice za P.length zc) := ⟨_, rfl⟩
    rw [← hw9] at hst
    have HL9 := Lib.hid (hLp.outer HN8.out (by decide) hst.2)
    have HN9 := Lib.hid hst.1
    have s8 := HD8.out.size
    have G9 := Lib.hid (G8.out.beside hst.2 (fun e => by have := Option.some.inj e; omega))
    have K8 := Lib.hid (bth K7.out HD8.out (Nat.le_refl _))
    have K9 := Lib.hid (K8.out.trans (only_below hst.2 (by omega) K8.out.size))
    have HB9 := Lib.hid (bth HB0.out K9.out (Nat.le_refl _))
    have RR := Lib.hid (R0.out.below K9.out hsz2)
    obtain ⟨x0, x1⟩ := G9.out.cells
    obtain ⟨q0, q1⟩ := RR.out.cells
    have f0 := RR.out.soft 0
    have f1 := RR.out.soft 1
    have hzz : w.heap.size + 1 < w4.heap.size := Nat.lt_of_lt_of_le hsz2 s4
    have HZ := Lib.hid ((RR.out.set0 (.slice (some ⟨gN, 0, none⟩) ls.length d1')).set1 (.slice (some ⟨gO, 0, none⟩) l.length d2'))
    rw [← hw9]
    clear hst hLp hw9
    go_wp2_with fail
    refine bodyPost_ret (results_cell3 rfl rfl (load_store2 HZ.out.cells.1 HZ.out.cells.2)) rfl ?_
    refine ⟨_, _, rfl, ⟨_, _, sl.set j (.slice za P.length zc), rfl, by rw [List.length_set, List.length_set]; exact HHS.out, by rw [List.length_set]; exact own_base (own_setI (own_setI HN9.out (p := ⟨w.heap.size + 1, 0, none⟩) hzz _) (p := ⟨w.heap.size + 1, 1, none⟩) hzz _) (by omega), ?_⟩, ?_⟩
    · rw [List.append_assoc]
      exact ((HL9.out.set (p := ⟨w.heap.size + 1, 0, none⟩) hzz _).set (p := ⟨w.heap.size + 1, 1, none⟩) hzz _).base (by omega)
    · exact (HB9.out.setCell (p := ⟨w.heap.size + 1, 0, none⟩) (by show w.heap.size ≤ w.heap.size + 1; omega) _).setCell (p := ⟨w.heap.size + 1, 1, none⟩) (by show w.heap.size ≤ w.heap.size + 1; omega) _
theorem specAdd_any (hMC : MendC) (ls : List (List Int)) (l : List Int) (t x : Int) (v : Value) (w : World) (hst : GraphV w v ls l) :
    Calls Try.prog 10 #[v, .int .i64 t, .int .i64 x] w (AddPost (addG ls l t x) (addO ls l t x) (addM ls l t x) (addOk ls l t x) w) := by
  rcases h : addOk ls l t x with _ | _
  · rw [(add_no h).1, (add_no h).2.1]
    exact specAdd_no ls l t x v w hst h
  · obtain ⟨_, h1, h2, _, _⟩ := add_parts h
    simp only [Bool.and_eq_true, decide_eq_true_eq] at h1 h2
    rw [(add_yes h).1, (add_yes h).2.1, (add_yes h).2.2]
    exact specAdd_yes hMC ls l t.toNat x.toNat t x (by omega) (by omega) v w hst h
end Go.Proofs.Ytnkkbleebfijgaa

/- The laws' marks in a graph, where a list lies beside it. -/
namespace Go.Proofs.Ytnkkbleebfijgaa
open Go.RowKit Pth

theorem GraphM.below {B : Nat} {w w' : World} {v u : Value} {ls : List (List Int)} {l m : List Int} (h : GraphM B w v u ls l m) (hb : Below w.heap.size w w') : GraphM B w' v u ls l m := by
  obtain ⟨nv, ov, sl, h1, h2, h3, h4⟩ := h
  exact ⟨nv, ov, sl, h1, h2, own_below h3 hb, h4.below hb⟩
theorem GraphM.only {B C D : Nat} {w w' : World} {v u : Value} {ls : List (List Int)} {l m : List Int} (h : GraphM D w v u ls l m) (hg : OnlyIn B C w w') (hD : C ≤ D) : GraphM D w' v u ls l m := by
  obtain ⟨nv, ov, sl, h1, h2, h3, h4⟩ := h
  exact ⟨nv, ov, sl, h1, h2, own_only h3 hg hD, fun p hp => own_only (h4.1 p hp) hg hD, h4.2⟩
/-- The list beside the graph has turned. -/
theorem GraphM.turn {B : Nat} {w w' : World} {v u : Value} {ls : List (List Int)} {l m m' : List Int} (h : GraphM B w v u ls l m) (hg : w.grownBy w' u.ownBlock) (hown : w'.ownsRow B 3 1 u m'.length (I m')) : GraphM B w' v u ls l m' := by
  obtain ⟨nv, ov, sl, h1, h2, h3, h4⟩ := h
  have hu := h4.1 (u, m) (List.mem_append.2 (.inr (List.mem_singleton.2 rfl)))
  exact ⟨nv, ov, sl, h1, h2, own_apartI h3 hg (fun i hi hi' => own_typesI h3 hu (by decide) i hi' hi), h4.turn (M := []) hg hown (fun b hb => .inl hb)⟩

set_option maxRecDepth 20000 in
set_option maxHeartbeats 4000000 in
theorem markGraphM_any (ls : List (List Int)) (l m : List Int) (k B : Nat) (v u : Value) (w0 w : World) (h0 : GraphM B w0 v u ls l m) (hb0 : Below w0.heap.size w0 w) (hB : B ≤ w0.heap.size) (hl : ls.length + total ls + l.length ≤ 1500000) (hk : k ≤ 1000) :
    Calls Try.prog 15 #[v, .int .i64 (k : Int)] w fun e w' => e = .returned (.int .i64 ((k + totalG ls l : Nat) : Int)) ∧ GraphM B w' v u (marksL k ls) (marks ((k + total ls : Nat) : Int) l.length) m ∧ OnlyIn B w0.heap.size w w' := by
  obtain ⟨nv, ov, sl, rfl, hs, hn, hL3⟩ := h0
  have hL := hL3.left
  rw [List.append_assoc] at hL3
  have hlt : ∀ p ∈ sl.zip ls ++ [(ov, l)], ∀ i, p.1.ownBlock = some i → B ≤ i ∧ i < w0.heap.size := fun p hp i hi => (hL.1 p hp).lt i hi
  have HLT := Lib.hid hlt
  have hnw := own_below hn hb0
  have hLw := hL.below hb0
  obtain ⟨an, cn, rfl⟩ := own_slice hn
  obtain ⟨ao, co, hov⟩ := own_slice (hL.1 (ov, l) (List.mem_append.2 (.inr (List.mem_singleton.2 rfl))))
  simp only at hov
  subst hov
  obtain ⟨wa, hwa⟩ : ∃ wa, wa = w.alloc (.cells #[.slice an ls.length cn, .slice ao l.length co] 27) := ⟨_, rfl⟩
  have P0 : Hid (Blk2 wa w.heap.size 27 (.slice an ls.length cn) (.slice ao l.length co)) := by rw [hwa]; exact Blk2.new
  have hAw : Below w.heap.size w wa := by rw [hwa]; exact (Below.refl w.heap.size w).alloc (Nat.le_refl _) _
  have HA := Lib.hid hAw
  have hsa : wa.heap.size = w.heap.size + 1 := by rw [hwa]; simp
  have hsw : w0.heap.size ≤ w.heap.size := hb0.size
  have HN := Lib.hid (own_below hnw hAw)
  have HL := Lib.hid (hLw.below hAw)
  have HL3 := Lib.hid ((hL3.below hb0).below hAw)
  have HWA := Lib.hid hwa
  have HC := Lib.hid (markIntSS_any ls ([(.slice ao l.length co, l)] ++ [(u, m)]) k B B _ sl wa hs HN.out HL3.out (by omega) (by omega))
  have hpb : ∀ (L : List (Value × List Int)) (x y : World), GrownL x y L → (∀ p ∈ L, p ∈ sl.zip ls ++ [(.slice ao l.length co, l)]) → w.heap.size < x.heap.size → x.heap[w.heap.size]? = y.heap[w.heap.size]? := by
    intro L x y hg hm hx
    refine (hg.block w.heap.size hx (fun p hp hi => ?_)).symm
    have := (HLT.out p (hm p hp) _ hi).2
    omega
  have HPB := Lib.hid hpb
  clear hL3 hlt hnw hLw hn hL hAw hwa hpb hb0
  go_enter Try.func15, Try.ntmps15
  go_wp2_with fail
  rw [← HWA.out]
  refine HC.out.mono ?_
  rintro e w1 ⟨rfl, hL1, hg1⟩
  have hm1 : ∀ p ∈ sl.zip ls, p ∈ sl.zip ls ++ [(Value.slice ao l.length co, l)] := fun p hp => List.mem_append.2 (.inl hp)
  have P1 := Lib.hid (show Blk2 w1 w.heap.size 27 (.slice an ls.length cn) (.slice ao l.length co) from (HPB.out _ _ _ hg1 hm1 (by omega)).symm.trans P0.out)
  have hn1 := own_grownL HN.out (by decide) HL.out.left hg1
  have c1 := P1.out.cells.2
  have hone := hL1.1 (.slice ao l.length co, l) (List.mem_append.2 (.inr (List.mem_append.2 (.inl (List.mem_singleton.2 rfl)))))
  have HC2 := Lib.hid (markIntS_l (l := l) (k := k + total ls) (i := ((k + total ls : Nat) : Int)) (r := ((k + totalG ls l : Nat) : Int)) rfl (by unfold totalG; omega) hone (by omega) (by omega))
  have HG1 := Lib.hid (hg1.more hm1 (w2 := w1))
  have HL1 := Lib.hid hL1
  have HN1 := Lib.hid hn1
  clear hL1 hg1 hn1 hone hm1 HC
  generalize hq : k + total ls = q at *
  have HQ := Lib.hid hq
  clear hq
  go_wp2_with fail
  refine HC2.out.mono ?_
  rintro e w2 ⟨rfl, ho2, hg2⟩
  have HF : Hid (GraphM B w2 (.agg #[.slice an ls.length cn, .slice ao l.length co]) u (marksL k ls) (marks (q : Int) l.length) m ∧ OnlyIn B w0.heap.size w w2) := by
    have hL2 := HL1.out.turn (L := sl.zip (marksL k ls)) (M := [(u, m)]) (v' := .slice ao l.length co) (l' := marks (q : Int) l.length) hg2 (by rw [marks_len]; exact ho2) (fun b hb => .inl hb)
    have hg := HG1.out.one hg2 (l := l) (List.mem_append.2 (.inr (List.mem_singleton.2 rfl)))
    have hml := marksL_len k ls
    refine ⟨⟨_, _, sl, rfl, by rw [hml]; exact hs, ?_, by rw [List.append_assoc]; exact hL2⟩, ?_, fun i hi hiw => ?_, fun i cs e he hi => ?_⟩
    · rw [hml]
      exact own_apartI HN1.out hg2 (fun i hi hi' => own_typesI HN1.out (HL1.out.1 (.slice ao l.length co, l) (List.mem_append.2 (.inr (List.mem_append.2 (.inl (List.mem_singleton.2 rfl)))))) (by decide) i hi' hi)
    · have := hg.below HL.out (by omega)
      exact HA.out.mono (by omega) |>.trans this
    · have h1 := hg.block i (by omega) (fun p hp hpi => by have := (HLT.out p hp i hpi).2; omega)
      exact h1.trans (HA.out.block i hiw)
    · have hiw := lt_of_block hi
      have hi' := (HA.out.block i hiw).trans hi
      have h1 := hg.block i (by omega) (fun p hp hpi => by
        rcases (HL.out.1 p hp).2 with ⟨hv, _⟩ | ⟨g, cap, cur, hv, _, hg', _⟩
        · rw [hv] at hpi; simp [Value.ownBlock] at hpi
        · rw [hv] at hpi
          simp only [Value.ownBlock, Option.some.injEq] at hpi
          subst hpi
          rw [hi'] at hg'
          simp at hg'
          exact he hg'.2)
      exact h1.trans (HA.out.block i hiw)
  clear ho2 hg2
  go_wp2_with fail
  go_ret
  exact ⟨rfl, by rw [HQ.out]; exact HF.out.1, HF.out.2⟩
end Go.Proofs.Ytnkkbleebfijgaa

/- Walks: the laws that good graphs and places are told alike, given contracts of both programs. -/
namespace Go.Proofs.Ytnkkbleebfijgaa
open Go.RowKit Pth

/-- The law says yes, and only new memory is written. -/
def YesZ (w : World) (e : Ending) (w' : World) : Prop := e = .returned (.bool true) ∧ Below w.heap.size w w'
theorem bt {B : Nat} {w w1 w2 : World} (h1 : Below B w w1) (h2 : Below w1.heap.size w1 w2) (hB : B ≤ w.heap.size := by exact Nat.le_refl _) : Below B w w2 := h1.trans (h2.mono (Nat.le_trans hB h1.size))

end Go.Proofs.Ytnkkbleebfijgaa
