/- Texts of one claim, joined in their order. -/
import Derived.Test.YtgolhfmmlanmlaaM2
import Derived.Test.YtgolhfmmlanmlaaM1

/- Walks: the laws' marks in graphs, and whether they are held. -/
namespace Go.Proofs.Ytgolhfmmlanmlaa
open Go.RowKit Pth

/-- The marks from k on, in lists. -/
def marksL : Nat → List (List Int) → List (List Int)
  | _, [] => []
  | k, l :: t => marks k l.length :: marksL (k + l.length) t
theorem marksL_len (k : Nat) (ls : List (List Int)) : (marksL k ls).length = ls.length := by
  induction ls generalizing k with
  | nil => rfl
  | cons l t ih => rw [marksL, List.length_cons, List.length_cons, ih]
theorem marksL_snoc (k : Nat) (ls : List (List Int)) (l : List Int) : marksL k (ls ++ [l]) = marksL k ls ++ [marks ((k + total ls : Nat) : Int) l.length] := by
  induction ls generalizing k with
  | nil => simp [marksL, total]
  | cons x t ih =>
    rw [List.cons_append, marksL, marksL, ih, List.cons_append]
    have : k + x.length + total t = k + total (x :: t) := by simp [total]; omega
    rw [this]
theorem marksL_next {k : Nat} {ls : List (List Int)} {j : Nat} (hj : j < ls.length) : marksL k (ls.take (j + 1)) = marksL k (ls.take j) ++ [marks ((k + total (ls.take j) : Nat) : Int) ls[j].length] := by
  rw [List.take_succ_eq_append_getElem hj, marksL_snoc]
theorem marksL_total (k : Nat) (ls : List (List Int)) : total (marksL k ls) = total ls := by
  induction ls generalizing k with
  | nil => rfl
  | cons x t ih => have := ih (k + x.length); simp only [total, marksL, List.map_cons, List.sum_cons, marks_len] at this ⊢; omega
theorem marksL_at {k : Nat} {ls : List (List Int)} {j : Nat} (hj : j < ls.length) : (marksL k ls)[j]'(by rw [marksL_len]; exact hj) = marks ((k + total (ls.take j) : Nat) : Int) ls[j].length := by
  induction ls generalizing k j with
  | nil => simp at hj
  | cons x t ih =>
    cases j with
    | zero => simp [marksL, total]
    | succ j =>
      simp only [marksL, List.getElem_cons_succ]
      rw [ih (by simpa using hj)]
      have : k + x.length + total (t.take j) = k + total ((x :: t).take (j + 1)) := by simp [total]; omega
      rw [this]

theorem zip_split {sl : List Value} {M ls : List (List Int)} {j : Nat} (hs : sl.length = ls.length) (hM : M.length = j) (hj : j < ls.length) :
    sl.zip (M ++ ls.drop j) = (sl.take j).zip M ++ (sl[j]'(by omega), ls[j]) :: (sl.drop (j + 1)).zip (ls.drop (j + 1)) := by
  have e : sl = sl.take j ++ sl[j]'(by omega) :: sl.drop (j + 1) := by rw [← List.drop_eq_getElem_cons (by omega), List.take_append_drop]
  conv => lhs; rw [e, List.drop_eq_getElem_cons hj]
  rw [List.zip_append (by rw [List.length_take]; omega), List.zip_cons_cons]
theorem zip_join {sl : List Value} {M ls : List (List Int)} {j : Nat} {x : List Int} (hs : sl.length = ls.length) (hM : M.length = j) (hj : j < ls.length) :
    (sl.take j).zip M ++ (sl[j]'(by omega), x) :: (sl.drop (j + 1)).zip (ls.drop (j + 1)) = sl.zip ((M ++ [x]) ++ ls.drop (j + 1)) := by
  have e : sl = sl.take j ++ sl[j]'(by omega) :: sl.drop (j + 1) := by rw [← List.drop_eq_getElem_cons (by omega), List.take_append_drop]
  conv => rhs; rw [e]
  rw [List.append_assoc, List.zip_append (by rw [List.length_take]; omega), List.singleton_append, List.zip_cons_cons]
/-- A list of another type stays. -/
theorem own_grownL {w w' : World} {B B' e n : Nat} {v : Value} {xs : List Value} {L : List (Value × List Int)} (h : w.ownsRow B e 1 v n xs) (he : e ≠ 3) (hl : Lists B' w L) (hg : GrownL w w' L) : w'.ownsRow B e 1 v n xs := by
  refine ⟨h.1, ?_⟩
  rcases h.2 with h0 | ⟨g, cap, cur, hv, hB, hh, r⟩
  · exact .inl h0
  · refine .inr ⟨g, cap, cur, hv, hB, (hg.block g (lt_of_block hh) (fun p hp hi => own_typesI h (hl.1 p hp) he g (by rw [hv]; rfl) hi)).trans hh, r⟩

theorem markIntS_l {l : List Int} {k B : Nat} {i r : Int} {v : Value} {w : World} (hi : (k : Int) = i) (hr : r = (k : Int) + (l.length : Int)) (hown : w.ownsRow B 3 1 v l.length (I l)) (hl : l.length ≤ 2000000) (hk : k ≤ 2000000) :
    Calls Try.prog 36 #[v, .int .i64 i] w fun e w' => e = .returned (.int .i64 r) ∧ w'.ownsRow B 3 1 v l.length (I (marks (k : Int) l.length)) ∧ w.grownBy w' v.ownBlock := by
  subst hi hr
  exact markIntS_any l k B v w hown hl hk
theorem heldIntS_l {k n : Nat} {i r : Int} {v : Value} {w : World} (hi : (k : Int) = i) (hr : r = (k : Int) + (n : Int)) (hrow : RowV w v (I (marks (k : Int) n))) (hn : n ≤ 2000000) (hk : k ≤ 2000000) :
    Calls Try.prog 37 #[v, .int .i64 i] w fun e w' => e = .returned (.int .i64 r) ∧ Below w.heap.size w w' := by
  subst hi hr
  exact heldIntS_any k n v w hrow hn hk

/-- The lists hold the marks, and nothing but their blocks has turned. -/
def MarkedN (B : Nat) (sl : List Value) (ls : List (List Int)) (R : List (Value × List Int)) (k : Nat) (w : World) (e : Ending) (w' : World) : Prop :=
  e = .returned (.int .i64 ((k + total ls : Nat) : Int)) ∧ Lists B w' (sl.zip (marksL k ls) ++ R) ∧ GrownL w w' (sl.zip ls)

set_option maxHeartbeats 2000000 in
theorem markIntSS_any (ls : List (List Int)) (R : List (Value × List Int)) (k B B' : Nat) (v : Value) (sl : List Value) (w : World) (hs : sl.length = ls.length) (hout : w.ownsRow B' 24 1 v ls.length sl) (hL : Lists B w (sl.zip ls ++ R)) (hl : ls.length + total ls ≤ 1500000) (hk : k ≤ 100000) :
    Calls Try.prog 68 #[v, .int .i64 (k : Int)] w (MarkedN B sl ls R k w) := by
  have HW := Lib.hid hL
  have HU := Lib.hid hout
  obtain ⟨a, cap, rfl⟩ := own_slice hout
  have hcap : ls.length ≤ cap ∧ cap ≤ maxLen := by obtain ⟨a', c', he, h1, h2, _⟩ := RowV.of_own hout; injection he with _ _ he; omega
  obtain ⟨hc1, hc2⟩ := hcap
  unfold maxLen at hc2
  clear hL hout
  go_enter Try.func68, Try.ntmps68
  go_wp2_with fail
  go_loopw [1, 5] (fun q i wr => ∃ j : Nat, j ≤ ls.length ∧ q = .int .i64 ((k + total (ls.take j) : Nat) : Int) ∧ i = .int .i64 j ∧ Lists B wr (sl.zip (marksL k (ls.take j) ++ ls.drop j) ++ R) ∧ GrownL w wr (sl.zip ls)) (fun _ i _ => ls.length - (intOf i).toNat)
  case atStart => exact ⟨0, Nat.zero_le _, by simp [total], rfl, by simpa [marksL] using HW.out, GrownL.refl _ _⟩
  case round =>
    obtain ⟨j, hj, rfl, rfl, hL, hg⟩ := hrel
    by_cases hlt : j < ls.length
    · have hout := own_grownL HU.out (by decide) HW.out.left hg
      have hsj : j < sl.length := by omega
      obtain ⟨a', c', he', _, _, hat⟩ := RowV.of_own hout
      injection he' with he1 he2 he3
      subst he1 he3
      obtain ⟨g, o, rfl, hgz, hcell⟩ := hat j hsj
      have hM : (marksL k (ls.take j)).length = j := by rw [marksL_len, List.length_take]; omega
      rw [zip_split hs hM hlt, List.append_assoc, List.cons_append] at hL
      have hone := hL.1 (sl[j], ls[j]) (by simp)
      have htl := total_at hlt
      have htk := total_le (ls := ls) (k := j)
      have HC := Lib.hid (markIntS_l (l := ls[j]) (k := k + total (ls.take j)) (i := ((k + total (ls.take j) : Nat) : Int)) (r := ((k + total (ls.take (j + 1)) : Nat) : Int)) rfl (by have := total_next hlt; omega) hone (by omega) (by omega))
      have HT : Hid (∀ w1, w1.ownsRow B 3 1 sl[j] ls[j].length (I (marks ((k + total (ls.take j) : Nat) : Int) ls[j].length)) → wr.grownBy w1 (sl[j]).ownBlock → Lists B w1 (sl.zip (marksL k (ls.take (j + 1)) ++ ls.drop (j + 1)) ++ R) ∧ GrownL w w1 (sl.zip ls)) := by
        intro w1 h1 h2
        refine ⟨?_, hg.one h2 (zip_get hsj hlt)⟩
        have := hL.turn (v' := sl[j]) (l' := marks ((k + total (ls.take j) : Nat) : Int) ls[j].length) h2 (by rw [marks_len]; exact h1) (fun b hb => .inl hb)
        rw [← List.cons_append, ← List.append_assoc, zip_join hs hM hlt, ← marksL_next hlt] at this
        exact this
      obtain ⟨a2, c2, hv2⟩ := own_slice hone
      have h63 : (k + total (ls.take (j + 1)) : Nat) ≤ 3000000 := by have := total_le (ls := ls) (k := j + 1); omega
      clear hL hone hat hg hout he2
      simp only at hv2
      generalize hsl : sl[j] = u at hcell HC HT hv2
      subst hv2
      generalize ls[j].length = n1 at *
      generalize k + total (ls.take j) = q0 at *
      generalize hq1 : k + total (ls.take (j + 1)) = q1 at *
      have HQ := Lib.hid hq1
      clear hsl hq1
      go_wp2_with fail
      refine HC.out.mono ?_
      rintro e w1 ⟨rfl, h1, h2⟩
      obtain ⟨h3, h4⟩ := HT.out w1 h1 h2
      have H3 := Lib.hid h3
      have H4 := Lib.hid h4
      clear h1 h2 h3 h4 HT HC
      go_wp2_with fail
      go_roundw
      case rel => exact ⟨j + 1, by omega, by rw [HQ.out], by go_num, H3.out, H4.out⟩
      case measure => simp [intOf]; omega
    · obtain rfl : j = ls.length := by omega
      rw [List.take_length, List.drop_length, List.append_nil] at hL
      rw [List.take_length]
      have HL := Lib.hid hL
      have HG := Lib.hid hg
      clear hL hg
      go_wp2_with fail
      go_ret
      exact ⟨rfl, HL.out, HG.out⟩

/-- Only blocks between two have turned. -/
structure OnlyIn (B C : Nat) (w w' : World) : Prop where
  below : Below B w w'
  above : ∀ i, C ≤ i → i < w.heap.size → w'.heap[i]? = w.heap[i]?
  kept : ∀ (i : Nat) (cs : Array Value) (e : Nat), e ≠ 3 → w.heap[i]? = some (Obj.cells cs e (0, 0)) → w'.heap[i]? = w.heap[i]?
theorem GraphO.only {B C D : Nat} {w w' : World} {v : Value} {ls : List (List Int)} {l : List Int} (h : GraphO D w v ls l) (hg : OnlyIn B C w w') (hD : C ≤ D) : GraphO D w' v ls l := by
  obtain ⟨nv, ov, sl, hv, h1, h2, h3⟩ := h
  have one : ∀ {e n : Nat} {x : Value} {xs : List Value}, w.ownsRow D e 1 x n xs → w'.ownsRow D e 1 x n xs := by
    intro e n x xs h
    refine ⟨h.1, ?_⟩
    rcases h.2 with h0 | ⟨g, cap, cur, hv, hB, hh, r⟩
    · exact .inl h0
    · exact .inr ⟨g, cap, cur, hv, hB, (hg.above g (by omega) (lt_of_block hh)).trans hh, r⟩
  exact ⟨nv, ov, sl, hv, h1, one h2, fun p hp => one (h3.1 p hp), h3.2⟩
theorem own_only {B C D e n : Nat} {w w' : World} {v : Value} {xs : List Value} (h : w.ownsRow D e 1 v n xs) (hg : OnlyIn B C w w') (hD : C ≤ D) : w'.ownsRow D e 1 v n xs := by
  refine ⟨h.1, ?_⟩
  rcases h.2 with h0 | ⟨g, cap, cur, hv, hB, hh, r⟩
  · exact .inl h0
  · exact .inr ⟨g, cap, cur, hv, hB, (hg.above g (by omega) (lt_of_block hh)).trans hh, r⟩
theorem Blk2.only {B C b t : Nat} {w w' : World} {x y : Value} (h : Blk2 w b t x y) (hg : OnlyIn B C w w') (hb : b < B ∨ C ≤ b) : Blk2 w' b t x y := by
  rcases hb with hb | hb
  · exact h.below hg.below hb
  · exact (hg.above b hb (lt_of_block h)).trans h

theorem Blk2.kept {B C b t : Nat} {w w' : World} {x y : Value} (h : Blk2 w b t x y) (hg : OnlyIn B C w w') (ht : t ≠ 3) : Blk2 w' b t x y := (hg.kept b _ t ht h).trans h
/-- How many numbers a graph has. -/
def totalG (ls : List (List Int)) (l : List Int) : Nat := total ls + l.length
theorem GrownL.more {w w1 : World} {L M : List (Value × List Int)} (h : GrownL w w1 L) (hs : ∀ p ∈ L, p ∈ M) : GrownL w w1 M :=
  ⟨h.os, h.tape, h.output, h.size, fun i hi hne => h.block i hi (fun p hp => hne p (hs p hp))⟩

set_option maxRecDepth 20000 in
set_option maxHeartbeats 4000000 in
theorem markGraph_any (ls : List (List Int)) (l : List Int) (k B : Nat) (v : Value) (w0 w : World) (h0 : GraphO B w0 v ls l) (hb0 : Below w0.heap.size w0 w) (hB : B ≤ w0.heap.size) (hl : ls.length + total ls + l.length ≤ 1500000) (hk : k ≤ 1000) :
    Calls Try.prog 35 #[v, .int .i64 (k : Int)] w fun e w' => e = .returned (.int .i64 ((k + totalG ls l : Nat) : Int)) ∧ GraphO B w' v (marksL k ls) (marks ((k + total ls : Nat) : Int) l.length) ∧ OnlyIn B w0.heap.size w w' := by
  obtain ⟨nv, ov, sl, rfl, hs, hn, hL⟩ := h0
  have hlt : ∀ p ∈ sl.zip ls ++ [(ov, l)], ∀ i, p.1.ownBlock = some i → B ≤ i ∧ i < w0.heap.size := fun p hp i hi => (hL.1 p hp).lt i hi
  have HLT := Lib.hid hlt
  have hnw := own_below hn hb0
  have hLw := hL.below hb0
  obtain ⟨an, cn, rfl⟩ := own_slice hn
  obtain ⟨ao, co, hov⟩ := own_slice (hL.1 (ov, l) (List.mem_append.2 (.inr (List.mem_singleton.2 rfl))))
  simp only at hov
  subst hov
  obtain ⟨wa, hwa⟩ : ∃ wa, wa = w.alloc (.cells #[.slice an ls.length cn, .slice ao l.length co] 26) := ⟨_, rfl⟩
  have P0 : Hid (Blk2 wa w.heap.size 26 (.slice an ls.length cn) (.slice ao l.length co)) := by rw [hwa]; exact Blk2.new
  have hAw : Below w.heap.size w wa := by rw [hwa]; exact (Below.refl w.heap.size w).alloc (Nat.le_refl _) _
  have HA := Lib.hid hAw
  have hsa : wa.heap.size = w.heap.size + 1 := by rw [hwa]; simp
  have hsw : w0.heap.size ≤ w.heap.size := hb0.size
  have HN := Lib.hid (own_below hnw hAw)
  have HL := Lib.hid (hLw.below hAw)
  have HWA := Lib.hid hwa
  have HC := Lib.hid (markIntSS_any ls [(.slice ao l.length co, l)] k B B _ sl wa hs HN.out HL.out (by omega) (by omega))
  have hpb : ∀ (L : List (Value × List Int)) (x y : World), GrownL x y L → (∀ p ∈ L, p ∈ sl.zip ls ++ [(.slice ao l.length co, l)]) → w.heap.size < x.heap.size → x.heap[w.heap.size]? = y.heap[w.heap.size]? := by
    intro L x y hg hm hx
    refine (hg.block w.heap.size hx (fun p hp hi => ?_)).symm
    have := (HLT.out p (hm p hp) _ hi).2
    omega
  have HPB := Lib.hid hpb
  clear hlt hnw hLw hn hL hAw hwa hpb hb0
  go_enter Try.func35, Try.ntmps35
  go_wp2_with fail
  rw [← HWA.out]
  refine HC.out.mono ?_
  rintro e w1 ⟨rfl, hL1, hg1⟩
  have hm1 : ∀ p ∈ sl.zip ls, p ∈ sl.zip ls ++ [(Value.slice ao l.length co, l)] := fun p hp => List.mem_append.2 (.inl hp)
  have P1 := Lib.hid (show Blk2 w1 w.heap.size 26 (.slice an ls.length cn) (.slice ao l.length co) from (HPB.out _ _ _ hg1 hm1 (by omega)).symm.trans P0.out)
  have hn1 := own_grownL HN.out (by decide) HL.out.left hg1
  have c1 := P1.out.cells.2
  have hone := hL1.1 (.slice ao l.length co, l) (List.mem_append.2 (.inr (List.mem_singleton.2 rfl)))
  have HC2 := Lib.hid (markIntS_l (l := l) (k := k + total ls) (i := ((k + total ls : Nat) : Int)) (r := ((k + totalG ls l : Nat) : Int)) rfl (by unfold totalG; omega) hone (by omega) (by omega))
  have HG1 := Lib.hid (hg1.more hm1)
  have HL1 := Lib.hid hL1
  have HN1 := Lib.hid hn1
  clear hL1 hg1 hn1 hone hm1 HC
  generalize hq : k + total ls = q at *
  have HQ := Lib.hid hq
  clear hq
  go_wp2_with fail
  refine HC2.out.mono ?_
  rintro e w2 ⟨rfl, ho2, hg2⟩
  have HF : Hid (GraphO B w2 (.agg #[.slice an ls.length cn, .slice ao l.length co]) (marksL k ls) (marks (q : Int) l.length) ∧ OnlyIn B w0.heap.size w w2) := by
    have hL2 := HL1.out.turn (L := sl.zip (marksL k ls)) (M := []) (v' := .slice ao l.length co) (l' := marks (q : Int) l.length) hg2 (by rw [marks_len]; exact ho2) (fun b hb => .inl hb)
    have hg := HG1.out.one hg2 (l := l) (List.mem_append.2 (.inr (List.mem_singleton.2 rfl)))
    have hml := marksL_len k ls
    refine ⟨⟨_, _, sl, rfl, by rw [hml]; exact hs, ?_, hL2⟩, ?_, fun i hi hiw => ?_, fun i cs e he hi => ?_⟩
    · rw [hml]
      exact own_apartI HN1.out hg2 (fun i hi hi' => own_typesI HN1.out (HL1.out.1 (.slice ao l.length co, l) (List.mem_append.2 (.inr (List.mem_singleton.2 rfl)))) (by decide) i hi' hi)
    · have := hg.below HL.out (by omega)
      exact HA.out.mono (by omega) |>.trans this
    · have h1 := hg.block i (by omega) (fun p hp hpi => by have := (HLT.out p hp i hpi).2; omega)
      exact h1.trans (HA.out.block i hiw)
    · have hiw := lt_of_block hi
      have hi' := (HA.out.block i hiw).trans hi
      have h1 := hg.block i (by omega) (fun p hp hpi => by
        rcases (HL.out.1 p hp).2 with ⟨hv, _⟩ | ⟨g, cap, cur, hv, _, hg', _⟩
        · rw [hv] at hpi; simp [Value.ownBlock] at hpi
        · rw [hv] at hpi
          simp only [Value.ownBlock, Option.some.injEq] at hpi
          subst hpi
          rw [hi'] at hg'
          simp at hg'
          exact he hg'.2)
      exact h1.trans (HA.out.block i hiw)
  clear ho2 hg2
  go_wp2_with fail
  go_ret
  exact ⟨rfl, by rw [HQ.out]; exact HF.out.1, HF.out.2⟩

end Go.Proofs.Ytgolhfmmlanmlaa

/- Walks: the laws that good graphs and places are told alike, given contracts of both programs. -/
namespace Go.Proofs.Ytgolhfmmlanmlaa
open Go.RowKit Pth

/-- The law says yes, and only new memory is written. -/
def YesZ (w : World) (e : Ending) (w' : World) : Prop := e = .returned (.bool true) ∧ Below w.heap.size w w'
theorem bt {B : Nat} {w w1 w2 : World} (h1 : Below B w w1) (h2 : Below w1.heap.size w1 w2) (hB : B ≤ w.heap.size := by exact Nat.le_refl _) : Below B w w2 := h1.trans (h2.mono (Nat.le_trans hB h1.size))

end Go.Proofs.Ytgolhfmmlanmlaa

/- Walks: whether a number is in a list, whether numbers rise (as chapter 2 has them). -/
namespace Go.Proofs.Ytgolhfmmlanmlaa
open Go.RowKit Pth

theorem has_next {l : List Int} {n : Int} {k : Nat} (hk : k < l.length) (h : hasL l n = hasL (l.drop k) n) (hn : l[k] ≠ n) : hasL l n = hasL (l.drop (k + 1)) n := by
  rw [h, List.drop_eq_getElem_cons hk, hasL, hasL, Bool.eq_iff_iff, decide_eq_true_iff, decide_eq_true_iff, List.mem_cons]
  constructor
  · rintro (h | h)
    · exact absurd h.symm hn
    · exact h
  · exact .inr

set_option maxHeartbeats 1000000 in
theorem l1Has_any (l : List Int) (n : Int) (v : Value) (w : World) (hrow : RowV w v (I l)) :
    Calls Try.prog 77 #[v, .int .i64 n] w fun e w' => e = .returned (.bool (hasL l n)) ∧ w = w' := by
  obtain ⟨a, cap, rfl, hc1, hc2, hat⟩ := hrow.ints
  clear hrow
  unfold maxLen at hc2
  go_enter Try.func77, Try.ntmps77
  go_wp2_with fail
  go_loop [9] (fun i => ∃ k : Nat, k ≤ l.length ∧ i = .int .i64 k ∧ Hid (hasL l n = hasL (l.drop k) n)) (fun i => l.length - (intOf i).toNat)
  case atStart => exact ⟨0, Nat.zero_le _, rfl, rfl⟩
  case round =>
    obtain ⟨k, hk, rfl, HO⟩ := hrel
    by_cases hlt : k < l.length
    · obtain ⟨g, o, rfl, hg, hcell⟩ := hat k hlt
      clear hat
      by_cases hx : l[k] = n
      · have HR : Hid (hasL l n = true) := by rw [hasL, decide_eq_true_iff, ← hx]; exact List.getElem_mem hlt
        have hx1 : (l[k] == n) = true := by simp [hx]
        generalize l[k] = x at hcell hx hx1
        clear HO hx
        go_wp2_with fail
        go_ret
        exact ⟨ret_bool HR.out.symm, rfl⟩
      · have HR : Hid (hasL l n = hasL (l.drop (k + 1)) n) := has_next hlt HO.out hx
        have hx1 : (l[k] == n) = false := by simp [hx]
        generalize l[k] = x at hcell hx hx1
        clear HO hx
        go_wp2_with fail
        go_round
        case rel => exact ⟨k + 1, by omega, by go_num, HR⟩
        case measure => simp [intOf]; omega
    · have HR : Hid (hasL l n = false) := by rw [HO.out, List.drop_of_length_le (by omega)]; rfl
      clear HO hat
      go_wp2_with fail
      go_ret
      exact ⟨ret_bool HR.out.symm, rfl⟩


set_option maxHeartbeats 1000000 in
theorem l1Rising_any (l : List Int) (lo hi : Int) (v : Value) (w : World) (hrow : RowV w v (I l)) :
    Calls Try.prog 91 #[v, .int .i64 lo, .int .i64 hi] w fun e w' => e = .returned (.bool (riseB lo hi l)) ∧ w = w' := by
  obtain ⟨a, cap, rfl, hc1, hc2, hat⟩ := hrow.ints
  clear hrow
  unfold maxLen at hc2
  go_enter Try.func91, Try.ntmps91
  go_wp2_with fail
  go_loop [11] (fun i => ∃ k : Nat, k ≤ l.length ∧ i = .int .i64 k ∧ Hid (Rise (l.take k) ∧ Within lo hi (l.take k))) (fun i => l.length - (intOf i).toNat)
  case atStart => exact ⟨0, Nat.zero_le _, rfl, by simp [Rise, Hid, Within]⟩
  case round =>
    obtain ⟨k, hk, rfl, HO⟩ := hrel
    by_cases hlt : k < l.length
    · obtain ⟨g, o, rfl, hg, hcell⟩ := hat k hlt
      by_cases hx : lo ≤ l[k] ∧ l[k] ≤ hi
      · have hx1 : (decide (lo ≤ l[k]) && decide (l[k] ≤ hi)) = true := by simp [hx]
        by_cases h0 : 0 < k
        · obtain ⟨g', o', hA, _, hcell0⟩ := hat (k - 1) (by omega)
          injection hA with hA
          injection hA with hA1 hA2
          subst hA1 hA2
          by_cases hy : l[k - 1] < l[k]
          · have HR : Hid (Rise (l.take (k + 1)) ∧ Within lo hi (l.take (k + 1))) := rise_next hlt HO.out hx.1 hx.2 (fun _ => hy)
            generalize l[k] = x at hcell hx hx1 hy
            generalize l[k - 1] = y at hcell0 hy
            clear hat HO hx
            have hk0 : decide ((k : Int) > 0) = true := by simp; omega
            have hy1 : decide (y ≥ x) = false := by simp; omega
            go_wp2_with (go_at_call 63; refine (l1In_any _ _ _ _).mono ?_; rintro e w' ⟨rfl, rfl⟩)
            all_goals
              go_round
              case rel => exact ⟨k + 1, by omega, by go_num, HR⟩
              case measure => simp [intOf]; omega
          · have HR : Hid (riseB lo hi l = false) := rise_fall hlt h0 (by omega)
            generalize l[k] = x at hcell hx hx1 hy
            generalize l[k - 1] = y at hcell0 hy
            clear hat HO hx
            have hk0 : decide ((k : Int) > 0) = true := by simp; omega
            have hy1 : decide (y ≥ x) = true := by simp; omega
            go_wp2_with (go_at_call 63; refine (l1In_any _ _ _ _).mono ?_; rintro e w' ⟨rfl, rfl⟩)
            all_goals
              go_ret
              exact ⟨ret_bool HR.out.symm, rfl⟩
        · have HR : Hid (Rise (l.take (k + 1)) ∧ Within lo hi (l.take (k + 1))) := rise_next hlt HO.out hx.1 hx.2 (fun h => absurd h h0)
          generalize l[k] = x at hcell hx hx1
          clear hat HO hx
          have hk0 : decide ((k : Int) > 0) = false := by simp; omega
          go_wp2_with (go_at_call 63; refine (l1In_any _ _ _ _).mono ?_; rintro e w' ⟨rfl, rfl⟩)
          all_goals
            go_round
            case rel => exact ⟨k + 1, by omega, by go_num, HR⟩
            case measure => simp [intOf]; omega
      · have HR : Hid (riseB lo hi l = false) := rise_out hlt (by omega)
        have hx1 : (decide (lo ≤ l[k]) && decide (l[k] ≤ hi)) = false := by
          rw [Bool.eq_false_iff]; intro h; rw [Bool.and_eq_true, decide_eq_true_iff, decide_eq_true_iff] at h; exact hx h
        generalize l[k] = x at hcell hx hx1
        clear hat HO hx
        go_wp2_with (go_at_call 63; refine (l1In_any _ _ _ _).mono ?_; rintro e w' ⟨rfl, rfl⟩)
        all_goals
          go_ret
          exact ⟨ret_bool HR.out.symm, rfl⟩
    · have HR : Hid (riseB lo hi l = true) := by have := HO.out; rw [List.take_of_length_le (by omega)] at this; exact riseB_iff.2 this
      clear HO hat
      go_wp2_with fail
      go_ret
      exact ⟨ret_bool HR.out.symm, rfl⟩

/-- All between two. -/
def allB (lo hi : Int) (l : List Int) : Bool := decide (∀ x ∈ l, lo ≤ x ∧ x ≤ hi)
set_option maxHeartbeats 1000000 in
theorem l1All_any (l : List Int) (lo hi : Int) (v : Value) (w : World) (hrow : RowV w v (I l)) :
    Calls Try.prog 62 #[v, .int .i64 lo, .int .i64 hi] w fun e w' => e = .returned (.bool (allB lo hi l)) ∧ w = w' := by
  obtain ⟨a, cap, rfl, hc1, hc2, hat⟩ := hrow.ints
  clear hrow
  unfold maxLen at hc2
  go_enter Try.func62, Try.ntmps62
  go_wp2_with fail
  go_loop [11] (fun i => ∃ k : Nat, k ≤ l.length ∧ i = .int .i64 k ∧ Hid (∀ x ∈ l.take k, lo ≤ x ∧ x ≤ hi)) (fun i => l.length - (intOf i).toNat)
  case atStart => exact ⟨0, Nat.zero_le _, rfl, by simp [Hid]⟩
  case round =>
    obtain ⟨k, hk, rfl, HO⟩ := hrel
    by_cases hlt : k < l.length
    · obtain ⟨g, o, rfl, hg, hcell⟩ := hat k hlt
      by_cases hx : lo ≤ l[k] ∧ l[k] ≤ hi
      · have hx1 : (decide (lo ≤ l[k]) && decide (l[k] ≤ hi)) = true := by simp [hx]
        have HR : Hid (∀ x ∈ l.take (k + 1), lo ≤ x ∧ x ≤ hi) := by
          intro x hxm
          rw [List.take_succ_eq_append_getElem hlt, List.mem_append, List.mem_singleton] at hxm
          rcases hxm with h | h
          · exact HO.out x h
          · rw [h]; exact hx
        generalize l[k] = x at hcell hx hx1
        clear hat HO hx
        go_wp2_with (go_at_call 63; refine (l1In_any _ _ _ _).mono ?_; rintro e w' ⟨rfl, rfl⟩)
        all_goals
          go_round
          case rel => exact ⟨k + 1, by omega, by go_num, HR⟩
          case measure => simp [intOf]; omega
      · have HR : Hid (allB lo hi l = false) := by
          rw [allB, decide_eq_false_iff_not]; exact fun h => hx (h _ (List.getElem_mem hlt))
        have hx1 : (decide (lo ≤ l[k]) && decide (l[k] ≤ hi)) = false := by
          rw [Bool.eq_false_iff]; intro h; rw [Bool.and_eq_true, decide_eq_true_iff, decide_eq_true_iff] at h; exact hx h
        generalize l[k] = x at hcell hx hx1
        clear hat HO hx
        go_wp2_with (go_at_call 63; refine (l1In_any _ _ _ _).mono ?_; rintro e w' ⟨rfl, rfl⟩)
        all_goals
          go_ret
          exact ⟨ret_bool HR.out.symm, rfl⟩
    · have HR : Hid (allB lo hi l = true) := by have := HO.out; rw [List.take_of_length_le (by omega)] at this; rw [allB, decide_eq_true_iff]; exact this
      clear HO hat
      go_wp2_with fail
      go_ret
      exact ⟨ret_bool HR.out.symm, rfl⟩

end Go.Proofs.Ytgolhfmmlanmlaa

/- Walks: the place of a number in a list; whether a graph is good, as the reference has it. -/
namespace Go.Proofs.Ytgolhfmmlanmlaa
open Go.RowKit Pth

theorem not_take {l : List Int} {n : Int} {k : Nat} (hk : k < l.length) (h : n ∉ l.take k) (hx : ¬ l[k] = n) : n ∉ l.take (k + 1) := by
  rw [List.take_succ_eq_append_getElem hk, List.mem_append, List.mem_singleton]
  rintro (h' | h')
  · exact h h'
  · exact hx h'.symm
theorem ret_int {a b : Int} (h : a = b) : Ending.returned (.int .i64 a) = .returned (.int .i64 b) := by rw [h]

set_option maxHeartbeats 1000000 in
theorem l5Place_any (l : List Int) (n : Int) (v : Value) (w : World) (hrow : RowV w v (I l)) :
    Calls Try.prog 92 #[v, .int .i64 n] w fun e w' => e = .returned (.int .i64 (placeI l n)) ∧ w = w' := by
  obtain ⟨a, cap, rfl, hc1, hc2, hat⟩ := hrow.ints
  clear hrow
  unfold maxLen at hc2
  go_enter Try.func92, Try.ntmps92
  go_wp2_with fail
  go_loop [9] (fun i => ∃ k : Nat, k ≤ l.length ∧ i = .int .i64 k ∧ Hid (n ∉ l.take k)) (fun i => l.length - (intOf i).toNat)
  case atStart => exact ⟨0, Nat.zero_le _, rfl, by simp [Hid]⟩
  case round =>
    obtain ⟨k, hk, rfl, HO⟩ := hrel
    by_cases hlt : k < l.length
    · obtain ⟨g, o, rfl, hg, hcell⟩ := hat k hlt
      clear hat
      by_cases hx : l[k] = n
      · have HR : Hid (placeI l n = k) := place_at hlt HO.out hx
        have hx1 : (l[k] == n) = true := by simp [hx]
        generalize l[k] = x at hcell hx hx1
        clear HO hx
        go_wp2_with fail
        go_ret
        exact ⟨ret_int HR.out.symm, rfl⟩
      · have HR : Hid (n ∉ l.take (k + 1)) := not_take hlt HO.out hx
        have hx1 : (l[k] == n) = false := by simp [hx]
        generalize l[k] = x at hcell hx hx1
        clear HO hx
        go_wp2_with fail
        go_round
        case rel => exact ⟨k + 1, by omega, by go_num, HR⟩
        case measure => simp [intOf]; omega
    · have HR : Hid (placeI l n = -1) := by have := HO.out; rw [List.take_of_length_le (by omega)] at this; exact place_none this
      clear HO hat
      go_wp2_with fail
      go_ret
      exact ⟨ret_int HR.out.symm, rfl⟩

/-- One task is as it should be. -/
def TaskOk (ls : List (List Int)) (l : List Int) (k : Nat) (hk : k < ls.length) : Prop := (Rise ls[k] ∧ Within 0 ((ls.length : Int) - 1) ls[k]) ∧ (k : Int) ∈ l ∧ ∀ x ∈ ls[k], placeI l x < placeI l k

set_option maxRecDepth 20000 in
set_option maxHeartbeats 4000000 in
theorem specGood_any (ls : List (List Int)) (l : List Int) (v : Value) (w : World) (hst : GraphV w v ls l) :
    Calls Try.prog 75 #[v] w fun e w' => e = .returned (.bool (goodG ls l)) ∧ Below w.heap.size w w' := by
  obtain ⟨nv, ov, rfl, h1, h2⟩ := hst
  have H1 := Lib.hid h1
  have H2 := Lib.hid h2
  obtain ⟨an, cn, rfl, hn1, hn2, hat⟩ := h1.lists
  obtain ⟨ao, co, rfl, ho1, ho2, _⟩ := h2.ints
  clear h1 h2
  unfold maxLen at hn2 ho2
  have nog : ∀ {P : Prop}, (GoodG ls l → P) → ¬ P → Hid (goodG ls l = false) := fun h1 h2 => goodG_no (fun h => h2 (h1 h))
  obtain ⟨wa, hwa⟩ : ∃ wa, wa = w.alloc (.cells #[.slice an ls.length cn, .slice ao l.length co] 26) := ⟨_, rfl⟩
  have c0 : wa.cell? ⟨w.heap.size, 0, none⟩ = some (.slice an ls.length cn) := by rw [hwa]; simp
  have c1 : wa.cell? ⟨w.heap.size, 1, none⟩ = some (.slice ao l.length co) := by rw [hwa]; simp
  have HA : Hid (Below w.heap.size w wa) := by rw [hwa]; exact (Below.refl w.heap.size w).alloc (Nat.le_refl _) _
  have HWA := Lib.hid hwa
  clear hwa
  have CI := l1In_any (ls.length : Int) 1 10 wa
  have CA := l1All_any l 0 ((ls.length : Int) - 1) _ wa (H2.out.below HA.out)
  by_cases h1 : 1 ≤ ls.length ∧ ls.length ≤ 10
  · have e1 : (decide ((1 : Int) ≤ (ls.length : Int)) && decide ((ls.length : Int) ≤ 10)) = true := by simp; omega
    rw [e1] at CI
    have HCI := Lib.hid CI
    clear CI e1
    by_cases h2 : l.length = ls.length
    · have e2 : ((l.length : Int) != (ls.length : Int)) = false := by simp [h2]
      have HL := Lib.hid h2
      by_cases h3 : ∀ x ∈ l, 0 ≤ x ∧ x ≤ (ls.length : Int) - 1
      · have e3 : allB 0 ((ls.length : Int) - 1) l = true := by rw [allB, decide_eq_true_iff]; exact h3
        rw [e3] at CA
        have HCA := Lib.hid CA
        have H3 := Lib.hid h3
        clear CA e3 h3 h2
        obtain ⟨h1a, h1b⟩ := h1
        go_enter Try.func75, Try.ntmps75
        go_wp2_with fail
        rw [← HWA.out]
        refine HCI.out.mono ?_
        rintro e w1 ⟨rfl, rfl⟩
        go_wp2_with fail
        refine HCA.out.mono ?_
        rintro e w1 ⟨rfl, rfl⟩
        go_wp2_with fail
        clear HCI HCA HWA e2
        have hsz : w.heap.size < wa.heap.size := by exact World.block_lt_of_cell? _ _ c0
        go_loopw [32] (fun i wr => ∃ k : Nat, k ≤ ls.length ∧ i = .int .i64 k ∧ Hid (∀ j (hj : j < ls.length), j < k → TaskOk ls l j hj) ∧ Below wa.heap.size wa wr) (fun i _ => ls.length - (intOf i).toNat)
        case atStart => exact ⟨0, Nat.zero_le _, rfl, fun j hj h => by omega, Below.refl _ _⟩
        case round =>
          obtain ⟨k, hk, rfl, HO, hb⟩ := hrel
          have HB := Lib.hid hb
          have HBW := Lib.hid (bth HA.out hb (Nat.le_refl _))
          have d0 := (hb.cell (p := ⟨w.heap.size, 0, none⟩) hsz).trans c0
          have d1 := (hb.cell (p := ⟨w.heap.size, 1, none⟩) hsz).trans c1
          have HC0 := Lib.hid c0
          have HC1 := Lib.hid c1
          clear hb c0 c1
          by_cases hlt : k < ls.length
          · obtain ⟨g, o, a2, c2, rfl, hg, hcell0, hrk⟩ := hat k hlt
            have hcell : wr.cell? ⟨g, o + k, none⟩ = some (.slice a2 ls[k].length c2) := by rw [HBW.out.cell (p := ⟨g, o + k, none⟩) hg]; exact hcell0
            have CR := l1Rising_any ls[k] 0 ((ls.length : Int) - 1) _ wr (hrk.below HBW.out)
            have CP := l5Place_any l (k : Int) _ wr (H2.out.below HBW.out)
            by_cases hr : Rise ls[k] ∧ Within 0 ((ls.length : Int) - 1) ls[k]
            · rw [riseB_iff.2 hr] at CR
              have HCR := Lib.hid CR
              clear CR
              by_cases hm : (k : Int) ∈ l
              · have hp0 : ¬ (placeI l k < 0) := by have := place_nonneg.2 hm; omega
                have HCP := Lib.hid CP
                have HRK := Lib.hid hrk
                have HM := Lib.hid hm
                have HRR := Lib.hid hr
                have hkl : ls[k].length ≤ c2 ∧ c2 ≤ maxLen := by obtain ⟨a3, c3, he, h1, h2, _⟩ := hrk.ints; injection he with _ _ he; omega
                obtain ⟨hkl1, hkl2⟩ := hkl
                obtain ⟨a3, c3, he3, _, _, hatk⟩ := hrk.ints
                injection he3 with he3 _ he4
                subst he3 he4
                unfold maxLen at hkl2
                clear CP hcell0 hm hr hat hrk
                generalize hpk : placeI l k = pk at hp0 HCP
                have HPK := Lib.hid hpk
                clear hpk
                go_wp2_with fail
                refine HCR.out.mono ?_
                rintro e w' ⟨rfl, rfl⟩
                go_wp2_with fail
                refine HCP.out.mono ?_
                rintro e w' ⟨rfl, rfl⟩
                go_wp2_with fail
                clear HCR HCP d0 d1 hcell
                go_loopw [51] (fun i wq => ∃ j : Nat, j ≤ ls[k].length ∧ i = .int .i64 j ∧ Hid (∀ x ∈ ls[k].take j, placeI l x < pk) ∧ Below wa.heap.size wa wq) (fun i _ => ls[k].length - (intOf i).toNat)
                case atStart => exact ⟨0, Nat.zero_le _, rfl, by simp [Hid], HB.out⟩
                case round =>
                  clear HB HBW
                  obtain ⟨j, hj, rfl, HJ, hb⟩ := hrel
                  have HB := Lib.hid hb
                  have HBW := Lib.hid (bth HA.out hb (Nat.le_refl _))
                  have d1 := (hb.cell (p := ⟨w.heap.size, 1, none⟩) hsz).trans HC1.out
                  have HP := Lib.hid (fun (q : Nat) (x : Int) => (l5Place_any l x _ (wr.drewN q) (H2.out.below (below_drewN HBW.out q))).mono (fun e w' ⟨h1, h2⟩ => And.intro h1 h2.symm))
                  clear hb
                  by_cases hjt : j < ls[k].length
                  · obtain ⟨g2, o2, rfl, hg2, hcell0⟩ := hatk j hjt
                    have hcell : wr.cell? ⟨g2, o2 + j, none⟩ = some (.int .i64 ls[k][j]) := by rw [HBW.out.cell (p := ⟨g2, o2 + j, none⟩) hg2]; exact hcell0
                    clear hcell0 hatk
                    by_cases hx : placeI l ls[k][j] < pk
                    · have hx1 : decide (placeI l ls[k][j] ≥ pk) = false := by simp; omega
                      have HJ2 : Hid (∀ x ∈ ls[k].take (j + 1), placeI l x < pk) := by
                        intro x hxm
                        rw [List.take_succ_eq_append_getElem hjt, List.mem_append, List.mem_singleton] at hxm
                        rcases hxm with h | h
                        · exact HJ.out x h
                        · rw [h]; exact hx
                      clear HJ hx
                      rw [← HPK.out] at hx1
                      generalize ls[k][j] = x at hcell hx1
                      go_wp2_with fail
                      go_quiet ((go_at_call 92; exact Calls.quiet_of_same (HP.out _ _)))
                      go_wp2_with fail
                      go_roundw
                      case rel => exact ⟨j + 1, by omega, by go_num, HJ2, below_drewN HB.out _⟩
                      case measure => simp [intOf]; omega
                    · have HR := nog (fun h => (h.each k hlt).2.2 _ (List.getElem_mem hjt)) (by rw [HPK.out]; exact hx)
                      have hx1 : decide (placeI l ls[k][j] ≥ pk) = true := by simp; omega
                      clear HJ hx
                      rw [← HPK.out] at hx1
                      generalize ls[k][j] = x at hcell hx1
                      go_wp2_with fail
                      go_quiet ((go_at_call 92; exact Calls.quiet_of_same (HP.out _ _)))
                      go_wp2_with fail
                      go_ret
                      exact ⟨ret_bool HR.out.symm, below_drewN HBW.out _⟩
                  · have HT : Hid (∀ i (hi : i < ls.length), i < k + 1 → TaskOk ls l i hi) := by
                      intro i hi hik
                      rcases Nat.lt_or_ge i k with h | h
                      · exact HO.out i hi h
                      · obtain rfl : i = k := by omega
                        refine ⟨HRR.out, HM.out, fun x hx => ?_⟩
                        rw [HPK.out]
                        have := HJ.out
                        rw [List.take_of_length_le (by omega)] at this
                        exact this x hx
                    clear HJ HO HP hatk
                    go_wp2_with fail
                    go_roundw
                    case rel => exact ⟨k + 1, by omega, by go_num, HT, HB.out⟩
                    case measure => simp [intOf]; omega
              · have hp0 : placeI l k < 0 := by rw [place_none hm]; omega
                have HCP := Lib.hid CP
                have HR := nog (fun h => (h.each k hlt).2.1) hm
                clear CP hcell0 hm hr hat nog hrk
                generalize placeI l k = pk at hp0 HCP
                go_wp2_with fail
                refine HCR.out.mono ?_
                rintro e w' ⟨rfl, rfl⟩
                go_wp2_with fail
                refine HCP.out.mono ?_
                rintro e w' ⟨rfl, rfl⟩
                go_wp2_with fail
                all_goals
                  go_ret
                  exact ⟨ret_bool HR.out.symm, HBW.out⟩
            · rw [riseB_false hr] at CR
              have HCR := Lib.hid CR
              have HR := nog (fun h => (h.each k hlt).1) hr
              clear CR CP hcell0 hr hat nog hrk
              go_wp2_with fail
              refine HCR.out.mono ?_
              rintro e w' ⟨rfl, rfl⟩
              go_wp2_with fail
              all_goals
                go_ret
                exact ⟨ret_bool HR.out.symm, HBW.out⟩
          · have HR : Hid (goodG ls l = true) := goodG_iff.2 ⟨h1a, h1b, HL.out, H3.out, fun j hj => HO.out j hj (by omega)⟩
            clear HO hat nog
            go_wp2_with fail
            go_ret
            exact ⟨ret_bool HR.out.symm, HBW.out⟩
      · have e3 : allB 0 ((ls.length : Int) - 1) l = false := by rw [allB, decide_eq_false_iff_not]; exact h3
        have HR := nog (fun h => h.tasks) h3
        rw [e3] at CA
        have HCA := Lib.hid CA
        clear CA e3 h3 h2 nog hat
        obtain ⟨h1a, h1b⟩ := h1
        go_enter Try.func75, Try.ntmps75
        go_wp2_with fail
        rw [← HWA.out]
        refine HCI.out.mono ?_
        rintro e w1 ⟨rfl, rfl⟩
        go_wp2_with fail
        refine HCA.out.mono ?_
        rintro e w1 ⟨rfl, rfl⟩
        go_wp2_with fail
        go_ret
        exact ⟨ret_bool HR.out.symm, HA.out⟩
    · have e2 : ((l.length : Int) != (ls.length : Int)) = true := by simp; omega
      have HR := nog (fun h => h.same) h2
      clear h2 nog CA hat
      obtain ⟨h1a, h1b⟩ := h1
      go_enter Try.func75, Try.ntmps75
      go_wp2_with fail
      rw [← HWA.out]
      refine HCI.out.mono ?_
      rintro e w1 ⟨rfl, rfl⟩
      go_wp2_with fail
      go_ret
      exact ⟨ret_bool HR.out.symm, HA.out⟩
  · have e1 : (decide ((1 : Int) ≤ (ls.length : Int)) && decide ((ls.length : Int) ≤ 10)) = false := by
      rw [Bool.eq_false_iff]; intro h; rw [Bool.and_eq_true, decide_eq_true_iff, decide_eq_true_iff] at h; omega
    have HR := nog (fun h => And.intro h.low h.high) h1
    rw [e1] at CI
    have HCI := Lib.hid CI
    clear CI e1 h1 nog CA hat
    go_enter Try.func75, Try.ntmps75
    go_wp2_with fail
    rw [← HWA.out]
    refine HCI.out.mono ?_
    rintro e w1 ⟨rfl, rfl⟩
    go_wp2_with fail
    go_ret
    exact ⟨ret_bool HR.out.symm, HA.out⟩
end Go.Proofs.Ytgolhfmmlanmlaa

/- Walks: whether a graph is good, as the program has it. -/
namespace Go.Proofs.Ytgolhfmmlanmlaa
open Go.RowKit Pth

/-- Yes-or-no as cells. -/
def Bo (l : List Bool) : List Value := l.map fun x => .bool x
theorem Bo_len (l : List Bool) : (Bo l).length = l.length := by simp [Bo]
theorem Bo_get {l : List Bool} {k : Nat} (hk : k < l.length) : (Bo l)[k]'(by rw [Bo_len]; exact hk) = .bool l[k] := by simp [Bo]
theorem Bo_get? {l : List Bool} {k : Nat} (hk : k < l.length) : (Bo l)[k]? = some (.bool l[k]) := by simp [Bo, hk]
theorem Bo_set (l : List Bool) (k : Nat) (b : Bool) : (Bo l).set k (.bool b) = Bo (l.set k b) := by simp [Bo, List.map_set]
theorem Bo_rep (n : Nat) (b : Bool) : Bo (List.replicate n b) = List.replicate n (.bool b) := by simp [Bo]
theorem RowV.bools {w : World} {v : Value} {l : List Bool} (h : RowV w v (Bo l)) :
    ∃ a c, v = .slice a l.length c ∧ l.length ≤ c ∧ c ≤ maxLen ∧ ∀ k (hk : k < l.length), ∃ g o, a = some ⟨g, o, none⟩ ∧ g < w.heap.size ∧ w.cell? ⟨g, o + k, none⟩ = some (.bool l[k]) := by
  obtain ⟨a, c, hv, h1, h2, hat⟩ := h
  refine ⟨a, c, by rw [hv, Bo_len], by rw [Bo_len] at h1; exact h1, h2, fun k hk => ?_⟩
  obtain ⟨g, o, ha, hg, hc⟩ := hat k (by rw [Bo_len]; exact hk)
  exact ⟨g, o, ha, hg, by rw [hc]; simp [Bo]⟩

theorem RowV.marks {w : World} {v : Value} {n : Nat} {pre : List Int} (h : RowV w v (Bo (marksIn n pre))) :
    ∃ a c, v = .slice a n c ∧ n ≤ c ∧ c ≤ maxLen ∧ ∀ k (_ : k < n), ∃ g o, a = some ⟨g, o, none⟩ ∧ g < w.heap.size ∧ w.cell? ⟨g, o + k, none⟩ = some (.bool (decide ((k : Int) ∈ pre))) := by
  obtain ⟨a, c, hv, h1, h2, hat⟩ := h.bools
  have hl := marksIn_len n pre
  refine ⟨a, c, by rw [hv, hl], by omega, h2, fun k hk => ?_⟩
  obtain ⟨g, o, ha, hg, hc⟩ := hat k (by omega)
  exact ⟨g, o, ha, hg, by rw [hc, marksIn_at]⟩

set_option maxRecDepth 20000 in
set_option maxHeartbeats 2000000 in
theorem areNeeds_any (l pre : List Int) (n : Nat) (v u : Value) (w : World) (hrow : RowV w v (I l)) (hpl : RowV w u (Bo (marksIn n pre))) (hpre : ∀ x ∈ pre, 0 ≤ x ∧ x < n) :
    Calls Try.prog 93 #[v, u] w fun e w' => e = .returned (.bool (needsB l pre)) ∧ w = w' := by
  obtain ⟨a, cap, rfl, hc1, hc2, hat⟩ := hrow.ints
  obtain ⟨a2, cap2, rfl, hd1, hd2, hat2⟩ := hpl.marks
  clear hrow hpl
  unfold maxLen at hc2 hd2
  go_enter Try.func93, Try.ntmps93
  go_wp2_with fail
  go_loop [9] (fun i => ∃ k : Nat, k ≤ l.length ∧ i = .int .i64 k ∧ Hid (Rise (l.take k) ∧ ∀ x ∈ l.take k, x ∈ pre)) (fun i => l.length - (intOf i).toNat)
  case atStart => exact ⟨0, Nat.zero_le _, rfl, by simp [Hid, Rise]⟩
  case round =>
    obtain ⟨k, hk, rfl, HO⟩ := hrel
    by_cases hlt : k < l.length
    · obtain ⟨g, o, rfl, hg, hcell⟩ := hat k hlt
      by_cases hx : l[k] ∈ pre
      · obtain ⟨hx0, hxn⟩ := hpre _ hx
        obtain ⟨g2, o2, rfl, hg2, hcell2⟩ := hat2 l[k].toNat (by omega)
        rw [show ((l[k].toNat : Nat) : Int) = l[k] by omega, decide_eq_true hx] at hcell2
        by_cases h0 : 0 < k
        · obtain ⟨g', o', hA, _, hcell1⟩ := hat (k - 1) (by omega)
          obtain ⟨rfl, rfl⟩ := addr_inj hA
          have hk0 : decide ((k : Int) > 0) = true := by simp; omega
          by_cases hy : l[k - 1] < l[k]
          · have HR := Lib.hid (needs_next hlt HO.out hx (fun _ => hy))
            have hy1 : decide (l[k - 1] ≥ l[k]) = false := by simp; omega
            clear hat hat2 HO hx hpre hA
            generalize l[k] = x at *
            generalize l[k - 1] = y at *
            go_wp2_with fail
            go_round
            case rel => exact ⟨k + 1, by omega, by go_num, HR⟩
            case measure => simp [intOf]; omega
          · have HR : Hid (needsB l pre = false) := needs_fall hlt h0 (by omega)
            have hy1 : decide (l[k - 1] ≥ l[k]) = true := by simp; omega
            clear hat hat2 HO hx hpre hA
            generalize l[k] = x at *
            generalize l[k - 1] = y at *
            go_wp2_with fail
            go_ret
            exact ⟨ret_bool HR.out.symm, rfl⟩
        · have HR := Lib.hid (needs_next hlt HO.out hx (fun h => absurd h h0))
          have hk0 : decide ((k : Int) > 0) = false := by simp; omega
          clear hat hat2 HO hx hpre
          generalize l[k] = x at *
          go_wp2_with fail
          go_round
          case rel => exact ⟨k + 1, by omega, by go_num, HR⟩
          case measure => simp [intOf]; omega
      · have HR : Hid (needsB l pre = false) := needs_not hlt hx
        by_cases hx0 : l[k] < 0
        · clear hat hat2 HO hx hpre
          generalize l[k] = x at *
          go_wp2_with fail
          go_ret
          exact ⟨ret_bool HR.out.symm, rfl⟩
        · by_cases hxn : l[k] < n
          · obtain ⟨g2, o2, rfl, hg2, hcell2⟩ := hat2 l[k].toNat (by omega)
            rw [show ((l[k].toNat : Nat) : Int) = l[k] by omega, decide_eq_false hx] at hcell2
            clear hat hat2 HO hx hpre
            generalize l[k] = x at *
            go_wp2_with fail
            go_ret
            exact ⟨ret_bool HR.out.symm, rfl⟩
          · clear hat hat2 HO hx hpre
            generalize l[k] = x at *
            go_wp2_with fail
            go_ret
            exact ⟨ret_bool HR.out.symm, rfl⟩
    · have HR : Hid (needsB l pre = true) := by have := HO.out; rw [List.take_of_length_le (by omega)] at this; exact needsB_iff.2 this
      clear HO hat hat2 hpre
      go_wp2_with fail
      go_ret
      exact ⟨ret_bool HR.out.symm, rfl⟩

set_option maxHeartbeats 1000000 in
theorem isTask_any (ls : List (List Int)) (l : List Int) (k : Int) (v : Value) (w : World) (hst : GraphV w v ls l) :
    Calls Try.prog 87 #[v, .int .i64 k] w fun e w' => e = .returned (.bool (decide (0 ≤ k) && decide (k < (ls.length : Int)))) ∧ Below w.heap.size w w' := by
  obtain ⟨nv, ov, rfl, h1, h2⟩ := hst
  obtain ⟨an, cn, rfl, hn1, hn2, _⟩ := h1.lists
  obtain ⟨ao, co, rfl, ho1, ho2, _⟩ := h2.ints
  clear h1 h2
  unfold maxLen at hn2 ho2
  go_enter Try.func87, Try.ntmps87
  go_wp2_with fail
  all_goals
    go_ret
    exact ⟨ret_bool (by rw [Bool.eq_iff_iff]; simp <;> omega), (Below.refl w.heap.size w).alloc (Nat.le_refl _) _⟩

/-- What the program asks of the one at a place. -/
def SpotOk (ls : List (List Int)) (l : List Int) (i : Nat) (hi : i < l.length) : Prop := ∃ t : Nat, ∃ ht : t < ls.length, l[i] = (t : Int) ∧ l[i] ∉ l.take i ∧ Rise ls[t] ∧ ∀ x ∈ ls[t], x ∈ l.take i
theorem spot_range {ls : List (List Int)} {l : List Int} {k : Nat} (h : ∀ i (hi : i < l.length), i < k → SpotOk ls l i hi) : ∀ x ∈ l.take k, 0 ≤ x ∧ x < (ls.length : Int) := by
  intro x hx
  obtain ⟨i, hi, rfl⟩ := List.mem_iff_getElem.1 hx
  rw [List.length_take] at hi
  obtain ⟨t, ht, he, _⟩ := h i (by omega) (by omega)
  rw [List.getElem_take]
  omega
theorem isTask_b {ls : List (List Int)} {l : List Int} {k : Int} {v : Value} {w : World} {b : Bool} (hst : GraphV w v ls l) (h : (decide (0 ≤ k) && decide (k < (ls.length : Int))) = b) :
    Calls Try.prog 87 #[v, .int .i64 k] w fun e w' => e = .returned (.bool b) ∧ Below w.heap.size w w' := by
  subst h
  exact isTask_any ls l k v w hst
theorem take_snoc {l : List Int} {k : Nat} (hk : k < l.length) : l.take k ++ [l[k]] = l.take (k + 1) := (List.take_succ_eq_append_getElem hk).symm

set_option maxRecDepth 20000 in
set_option maxHeartbeats 4000000 in
theorem implGood_any (ls : List (List Int)) (l : List Int) (v : Value) (w : World) (hst : GraphV w v ls l) :
    Calls Try.prog 78 #[v] w fun e w' => e = .returned (.bool (goodG ls l)) ∧ Below w.heap.size w w' := by
  have HV := Lib.hid hst
  obtain ⟨nv, ov, rfl, h1, h2⟩ := hst
  obtain ⟨an, cn, rfl, hn1, hn2, hat⟩ := h1.lists
  obtain ⟨ao, co, rfl, ho1, ho2, hao⟩ := h2.ints
  clear h1 h2
  unfold maxLen at hn2 ho2
  have nog : ∀ {P : Prop}, (GoodP ls l → P) → ¬ P → Hid (goodG ls l = false) := fun h1 h2 => goodG_noP (fun h => h2 (h1 h))
  obtain ⟨wa, hwa⟩ : ∃ wa, wa = w.alloc (.cells #[.slice an ls.length cn, .slice ao l.length co] 26) := ⟨_, rfl⟩
  have c0 : wa.cell? ⟨w.heap.size, 0, none⟩ = some (.slice an ls.length cn) := by rw [hwa]; simp
  have c1 : wa.cell? ⟨w.heap.size, 1, none⟩ = some (.slice ao l.length co) := by rw [hwa]; simp
  have HA : Hid (Below w.heap.size w wa) := by rw [hwa]; exact (Below.refl w.heap.size w).alloc (Nat.le_refl _) _
  have hsz : w.heap.size < wa.heap.size := by rw [hwa]; simp
  have HWA := Lib.hid hwa
  by_cases h1 : 1 ≤ ls.length ∧ ls.length ≤ 10
  · by_cases h2 : l.length = ls.length
    · have e2 : ((l.length : Int) != (ls.length : Int)) = false := by simp [h2]
      have HL := Lib.hid h2
      obtain ⟨h1a, h1b⟩ := h1
      obtain ⟨w0, hmk, hown0, hb0⟩ := make_row elemB rfl ls.length wa (by omega)
      have HN0 := Lib.hid hown0
      have HB0 := Lib.hid hb0
      rw [hwa] at hmk
      have hwz : wa.heap.size = w.heap.size + 1 := by rw [hwa]; simp
      rw [hwz] at HN0
      have d0 := (HB0.out.cell (p := ⟨w.heap.size, 0, none⟩) hsz).trans c0
      have d1 := (HB0.out.cell (p := ⟨w.heap.size, 1, none⟩) hsz).trans c1
      clear hown0 hb0 h2 hwa
      go_enter Try.func78, Try.ntmps78
      go_wp2_with fail
      clear hmk e2 d0 d1
      go_loopw [28] (fun i wr => ∃ k : Nat, k ≤ l.length ∧ i = .int .i64 k ∧ Hid (∀ i (hi : i < l.length), i < k → SpotOk ls l i hi) ∧ wr.ownsRow (w.heap.size + 1) 4 1 (.slice (some ⟨w.heap.size + 1, 0, none⟩) ls.length ls.length) ls.length (Bo (marksIn ls.length (l.take k))) ∧ Below wa.heap.size wa wr) (fun i _ => l.length - (intOf i).toNat)
      case atStart => exact ⟨0, Nat.zero_le _, rfl, fun i hi h => by omega, by rw [List.take_zero, marksIn_nil, Bo_rep]; exact HN0.out, HB0.out⟩
      case round =>
        clear HN0 HB0
        obtain ⟨k, hk, rfl, HO, hown, hb⟩ := hrel
        have HN := Lib.hid hown
        have HB := Lib.hid hb
        have HBW := Lib.hid (bth HA.out hb (Nat.le_refl _))
        have d0 := (hb.cell (p := ⟨w.heap.size, 0, none⟩) hsz).trans c0
        have d1 := (hb.cell (p := ⟨w.heap.size, 1, none⟩) hsz).trans c1
        have HC0 := Lib.hid c0
        have HC1 := Lib.hid c1
        have hszr := hb.size
        clear hb c0 c1 hown
        by_cases hlt : k < l.length
        · obtain ⟨g, o, rfl, hg, hcell0⟩ := hao k hlt
          have hcell : wr.cell? ⟨g, o + k, none⟩ = some (.int .i64 l[k]) := by rw [HBW.out.cell (p := ⟨g, o + k, none⟩) hg]; exact hcell0
          clear hcell0
          by_cases hr : 0 ≤ l[k] ∧ l[k] < (ls.length : Int)
          · have CT := Lib.hid (isTask_b (HV.out.below HBW.out) (show (decide (0 ≤ l[k]) && decide (l[k] < (ls.length : Int))) = true by simp [hr]))
            obtain ⟨t, ht⟩ : ∃ t : Nat, l[k] = t := ⟨l[k].toNat, by omega⟩
            have htn : t < ls.length := by omega
            have HTL := Lib.hid ht
            have HPRE := Lib.hid (spot_range HO.out)
            have HTS := Lib.hid (take_snoc hlt)
            have HSO : Hid (∀ (h1 : (t : Int) ∉ l.take k) (h2 : Rise ls[t]) (h3 : ∀ x ∈ ls[t], x ∈ l.take k), ∀ i (hi : i < l.length), i < k + 1 → SpotOk ls l i hi) := by
              intro h1 h2 h3 i hi hik
              rcases Nat.lt_or_ge i k with h | h
              · exact HO.out i hi h
              · obtain rfl : i = k := by omega
                exact ⟨t, htn, ht, by rw [ht]; exact h1, h2, h3⟩
            have hnog1 : (t : Int) ∈ l.take k → Hid (goodG ls l = false) := fun hm => nog (fun h => (h.each k hlt)) (fun ⟨t', ht', he, hn, _⟩ => hn (by rw [ht]; exact hm))
            have hnog2 : ¬ (Rise ls[t] ∧ ∀ x ∈ ls[t], x ∈ l.take k) → Hid (goodG ls l = false) := fun hm => nog (fun h => (h.each k hlt)) (fun ⟨t', ht', he, hn, h3, h4⟩ => hm (by
              obtain rfl : t = t' := by omega
              exact ⟨h3, h4⟩))
            rw [ht] at hcell CT HTS
            clear ht nog hao HTL
            go_wp2_with fail
            refine CT.out.mono ?_
            rintro e w1 ⟨rfl, hb1⟩
            have hN1 := own_below HN.out hb1
            have HN1 := Lib.hid hN1
            have HB1 := Lib.hid (bth HB.out hb1 (Nat.le_refl _))
            have HBW1 := Lib.hid (bth HBW.out hb1 (Nat.le_refl _))
            have hcp : w1.cell? ⟨w.heap.size + 1, t, none⟩ = some (.bool (decide ((t : Int) ∈ l.take k))) := by rw [hN1.cellAt t (by omega), Bo_get? (by rw [marksIn_len]; exact htn), marksIn_at]
            have f0 := (hb1.cell (p := ⟨w.heap.size, 0, none⟩) (by show w.heap.size < wr.heap.size; omega)).trans d0
            clear d0 d1 hcell hb1 HN CT HO
            by_cases hm : (t : Int) ∈ l.take k
            · have HR := hnog1 hm
              rw [decide_eq_true hm] at hcp
              clear hnog1 hnog2 hm hat HSO HTS hN1
              go_wp2_with fail
              go_ret
              exact ⟨ret_bool HR.out.symm, HBW1.out⟩
            · obtain ⟨g2, o2, a2, c2, rfl, hg2, hcell2, hrk⟩ := hat t htn
              have hcell3 : w1.cell? ⟨g2, o2 + t, none⟩ = some (.slice a2 ls[t].length c2) := by rw [HBW1.out.cell (p := ⟨g2, o2 + t, none⟩) hg2]; exact hcell2
              have CN := areNeeds_any ls[t] (l.take k) ls.length _ _ w1 (hrk.below HBW1.out) (RowV.of_own hN1) HPRE.out
              rw [decide_eq_false hm] at hcp
              by_cases hq : Rise ls[t] ∧ ∀ x ∈ ls[t], x ∈ l.take k
              · rw [needsB_iff.2 hq] at CN
                have HCN := Lib.hid CN
                have HS1 := Lib.hid (HSO.out hm hq.1 hq.2)
                have hfz := hN1.frozenAt t
                have hst := hN1.stored t (.bool true)
                rw [Bo_set, marksIn_set, HTS.out] at hst
                have HN2 := Lib.hid hst.1
                have HB2 := Lib.hid (HB1.out.trans (only_below hst.2 (by omega) (by have := HB1.out.size; omega)))
                clear hnog1 hnog2 hm hat HSO HTS hN1 CN hcell2 hrk hst hq HN1
                generalize ls[t].length = n2 at *
                go_wp2_with fail
                refine HCN.out.mono ?_
                rintro e w' ⟨rfl, rfl⟩
                go_wp2_with fail
                go_roundw
                case rel => exact ⟨k + 1, by omega, by go_num, HS1, HN2.out, HB2.out⟩
                case measure => simp [intOf]; omega
              · rw [needsB_no hq] at CN
                have HCN := Lib.hid CN
                have HR := hnog2 hq
                clear hnog1 hnog2 hm hat HSO HTS hN1 CN hcell2 hrk hq HN1
                generalize ls[t].length = n2 at *
                go_wp2_with fail
                refine HCN.out.mono ?_
                rintro e w' ⟨rfl, rfl⟩
                go_wp2_with fail
                go_ret
                exact ⟨ret_bool HR.out.symm, HBW1.out⟩
          · have CT := Lib.hid (isTask_b (HV.out.below HBW.out) (show (decide (0 ≤ l[k]) && decide (l[k] < (ls.length : Int))) = false by rw [Bool.eq_false_iff]; intro h; rw [Bool.and_eq_true, decide_eq_true_iff, decide_eq_true_iff] at h; exact hr h))
            have HR := nog (fun h => h.each k hlt) (fun ⟨t, ht, he, _⟩ => hr (by omega))
            clear nog hao hat HO hr HN
            generalize l[k] = x at *
            go_wp2_with fail
            refine CT.out.mono ?_
            rintro e w1 ⟨rfl, hb1⟩
            have HB1 := Lib.hid (bth HBW.out hb1 (Nat.le_refl _))
            clear hb1
            go_wp2_with fail
            go_ret
            exact ⟨ret_bool HR.out.symm, HB1.out⟩
        · have HR : Hid (goodG ls l = true) := goodG_iff.2 (GoodP.toG ⟨h1a, h1b, HL.out, fun i hi => HO.out i hi (by omega)⟩)
          clear HO hat hao nog HN
          go_wp2_with fail
          go_ret
          exact ⟨ret_bool HR.out.symm, HBW.out⟩
    · have e2 : ((l.length : Int) != (ls.length : Int)) = true := by simp; omega
      have HR := nog (fun h => h.same) h2
      obtain ⟨h1a, h1b⟩ := h1
      clear h2 nog hat hao c0 c1 hwa hsz
      go_enter Try.func78, Try.ntmps78
      go_wp2_with fail
      rw [← HWA.out]
      go_ret
      exact ⟨ret_bool HR.out.symm, HA.out⟩
  · have HR := nog (fun h => And.intro h.low h.high) h1
    clear nog hat hao c0 c1 hwa hsz
    by_cases h3 : ls.length < 1
    · go_enter Try.func78, Try.ntmps78
      go_wp2_with fail
      rw [← HWA.out]
      go_ret
      exact ⟨ret_bool HR.out.symm, HA.out⟩
    · have h4 : 10 < ls.length := by omega
      clear h1
      go_enter Try.func78, Try.ntmps78
      go_wp2_with fail
      rw [← HWA.out]
      go_ret
      exact ⟨ret_bool HR.out.symm, HA.out⟩
end Go.Proofs.Ytgolhfmmlanmlaa

/- Walks: whether there is such a task, where it stands. -/
namespace Go.Proofs.Ytgolhfmmlanmlaa
open Go.RowKit Pth

/-- There is such a task, in a good graph. -/
noncomputable def taskG (ls : List (List Int)) (l : List Int) (k : Int) : Bool := goodG ls l && (decide (0 ≤ k) && decide (k < (ls.length : Int)))
theorem taskG_yes {ls : List (List Int)} {l : List Int} {k : Int} (h : taskG ls l k = true) : GoodG ls l ∧ 0 ≤ k ∧ k < (ls.length : Int) := by
  unfold taskG at h
  simp only [Bool.and_eq_true, decide_eq_true_eq] at h
  exact ⟨goodG_iff.1 h.1, h.2⟩
theorem taskG_good {ls : List (List Int)} {l : List Int} {k : Int} (h : goodG ls l = false) : taskG ls l k = false := by unfold taskG; rw [h]; rfl
theorem taskG_in {ls : List (List Int)} {l : List Int} {k : Int} (h : goodG ls l = true) : taskG ls l k = (decide (0 ≤ k) && decide (k < (ls.length : Int))) := by unfold taskG; rw [h]; rfl

theorem l1In_task {k : Int} {n : Nat} {w : World} {b : Bool} (h : (decide (0 ≤ k) && decide (k < (n : Int))) = b) :
    Calls Try.prog 63 #[.int .i64 k, .int .i64 0, .int .i64 ((n : Int) - 1)] w fun e w' => e = .returned (.bool b) ∧ w = w' := by
  have e : (decide (0 ≤ k) && decide (k ≤ (n : Int) - 1)) = b := by rw [← h, Bool.eq_iff_iff]; simp; omega
  have := l1In_any k 0 ((n : Int) - 1) w
  rw [e] at this
  exact this

set_option maxRecDepth 20000 in
set_option maxHeartbeats 1000000 in
theorem l5Task_any (ls : List (List Int)) (l : List Int) (k : Int) (v : Value) (w : World) (hst : GraphV w v ls l) :
    Calls Try.prog 94 #[v, .int .i64 k] w fun e w' => e = .returned (.bool (taskG ls l k)) ∧ Below w.heap.size w w' := by
  have HV := Lib.hid hst
  obtain ⟨nv, ov, rfl, h1, h2⟩ := hst
  obtain ⟨an, cn, rfl, hn1, hn2, _⟩ := h1.lists
  obtain ⟨ao, co, rfl, ho1, ho2, _⟩ := h2.ints
  clear h1 h2
  unfold maxLen at hn2 ho2
  obtain ⟨wa, hwa⟩ : ∃ wa, wa = w.alloc (.cells #[.slice an ls.length cn, .slice ao l.length co] 26) := ⟨_, rfl⟩
  have P0 : Hid (Blk2 wa w.heap.size 26 (.slice an ls.length cn) (.slice ao l.length co)) := by rw [hwa]; exact Blk2.new
  have HA : Hid (Below w.heap.size w wa) := by rw [hwa]; exact (Below.refl w.heap.size w).alloc (Nat.le_refl _) _
  have hsz : w.heap.size < wa.heap.size := by rw [hwa]; simp
  have HWA := Lib.hid hwa
  have HC := specGood_any ls l _ wa (HV.out.below HA.out)
  clear hwa
  rcases hG : goodG ls l with _ | _
  · rw [hG] at HC
    have HCC := Lib.hid HC
    have HT := Lib.hid (taskG_good (k := k) hG)
    rw [HT.out]
    clear HC hG
    go_enter Try.func94, Try.ntmps94
    go_wp2_with fail
    rw [← HWA.out]
    refine HCC.out.mono ?_
    rintro e w1 ⟨rfl, hb1⟩
    have HB1 := Lib.hid (bth HA.out hb1 (Nat.le_refl _))
    clear hb1
    go_wp2_with fail
    go_ret
    exact ⟨rfl, HB1.out⟩
  · rw [hG] at HC
    have HCC := Lib.hid HC
    have HT := Lib.hid (taskG_in (k := k) hG)
    rw [HT.out]
    generalize hb : (decide (0 ≤ k) && decide (k < (ls.length : Int))) = b
    have HI := Lib.hid (fun W => l1In_task (n := ls.length) (w := W) hb)
    clear HC hG hb HT
    go_enter Try.func94, Try.ntmps94
    go_wp2_with fail
    rw [← HWA.out]
    refine HCC.out.mono ?_
    rintro e w1 ⟨rfl, hb1⟩
    have HB1 := Lib.hid (bth HA.out hb1 (Nat.le_refl _))
    have c0 := (P0.out.below hb1 hsz).cells.1
    clear hb1
    go_wp2_with fail
    refine (HI.out _).mono ?_
    rintro e w2 ⟨rfl, rfl⟩
    go_wp2_with fail
    go_ret
    exact ⟨rfl, HB1.out⟩

set_option maxHeartbeats 1000000 in
theorem index_any (l : List Int) (n : Int) (v : Value) (w : World) (hrow : RowV w v (I l)) :
    Calls Try.prog 99 #[v, .int .i64 n] w fun e w' => e = .returned (.int .i64 (placeI l n)) ∧ w = w' := by
  obtain ⟨a, cap, rfl, hc1, hc2, hat⟩ := hrow.ints
  clear hrow
  unfold maxLen at hc2
  go_enter Try.func99, Try.ntmps99
  go_wp2_with fail
  go_loop [8] (fun i => ∃ k : Nat, k ≤ l.length ∧ i = .int .i64 k ∧ Hid (n ∉ l.take k)) (fun i => l.length - (intOf i).toNat)
  case atStart => exact ⟨0, Nat.zero_le _, rfl, by simp [Hid]⟩
  case round =>
    obtain ⟨k, hk, rfl, HO⟩ := hrel
    by_cases hlt : k < l.length
    · obtain ⟨g, o, rfl, hg, hcell⟩ := hat k hlt
      clear hat
      by_cases hx : l[k] = n
      · have HR : Hid (placeI l n = k) := place_at hlt HO.out hx
        have hx1 : (n == l[k]) = true := by simp [hx]
        generalize l[k] = x at hcell hx hx1
        clear HO hx
        go_wp2_with fail
        go_ret
        exact ⟨ret_int HR.out.symm, rfl⟩
      · have HR : Hid (n ∉ l.take (k + 1)) := not_take hlt HO.out hx
        have hx1 : (n == l[k]) = false := by simp; exact fun h => hx h.symm
        generalize l[k] = x at hcell hx hx1
        clear HO hx
        go_wp2_with fail
        go_round
        case rel => exact ⟨k + 1, by omega, by go_num, HR⟩
        case measure => simp [intOf]; omega
    · have HR : Hid (placeI l n = -1) := by have := HO.out; rw [List.take_of_length_le (by omega)] at this; exact place_none this
      clear HO hat
      go_wp2_with fail
      go_ret
      exact ⟨ret_int HR.out.symm, rfl⟩

set_option maxHeartbeats 1000000 in
theorem contains_any (l : List Int) (n : Int) (v : Value) (w : World) (hrow : RowV w v (I l)) :
    Calls Try.prog 88 #[v, .int .i64 n] w fun e w' => e = .returned (.bool (hasL l n)) ∧ w = w' := by
  have HC := Lib.hid (index_any l n v w hrow)
  have HR : Hid (decide (placeI l n ≥ 0) = hasL l n) := by
    show decide (placeI l n ≥ 0) = hasL l n
    rw [hasL, Bool.eq_iff_iff, decide_eq_true_iff, decide_eq_true_iff]; exact place_nonneg
  obtain ⟨a, cap, rfl, hc1, hc2, _⟩ := hrow.ints
  clear hrow
  unfold maxLen at hc2
  go_enter Try.func88, Try.ntmps88
  go_wp2_with fail
  refine HC.out.mono ?_
  rintro e w1 ⟨rfl, rfl⟩
  go_wp2_with fail
  go_ret
  exact ⟨ret_bool HR.out, rfl⟩

/-- Where a task stands, and whether there is such a one. -/
noncomputable def placeA (ls : List (List Int)) (l : List Int) (k : Int) : Int := if taskG ls l k then placeI l k else 0
def PlacePost (ls : List (List Int)) (l : List Int) (k : Int) (w : World) (e : Ending) (w' : World) : Prop := e = .returned (.tuple #[.int .i64 (placeA ls l k), .bool (taskG ls l k)]) ∧ Below w.heap.size w w'

end Go.Proofs.Ytgolhfmmlanmlaa

/- Plain mathematics of ways of needs: how far, by a queue and along the order; no program. -/
namespace Go.Proofs.Ytgolhfmmlanmlaa
namespace Pth

/-- What a task needs. -/
def needsAt (ls : List (List Int)) (k : Int) : List Int := ls.getD k.toNat []
theorem needsAt_get {ls : List (List Int)} {k : Nat} (hk : k < ls.length) : needsAt ls k = ls[k] := by
  unfold needsAt; simp [hk]
/-- So many needs lead from a task to t. -/
def Way (ls : List (List Int)) (t : Int) : Nat → Int → Prop
  | 0, k => k = t
  | m + 1, k => ∃ x ∈ needsAt ls k, Way ls t m x
/-- How many at least, -1 for none. -/
def IsFar (ls : List (List Int)) (t k d : Int) : Prop := (∃ m : Nat, d = m ∧ Way ls t m k ∧ ∀ j, j < m → ¬ Way ls t j k) ∨ (d = -1 ∧ ∀ m, ¬ Way ls t m k)
theorem far_exists (ls : List (List Int)) (t k : Int) : ∃ d, IsFar ls t k d := by
  rcases Classical.em (∃ m, Way ls t m k) with ⟨m, hm⟩ | h
  · induction m using Nat.strongRecOn with
    | ind m ih =>
      rcases Classical.em (∃ j, j < m ∧ Way ls t j k) with ⟨j, hj, hw⟩ | h
      · exact ih j hj hw
      · exact ⟨m, .inl ⟨m, rfl, hm, fun j hj hw => h ⟨j, hj, hw⟩⟩⟩
  · exact ⟨-1, .inr ⟨rfl, fun m hm => h ⟨m, hm⟩⟩⟩
theorem far_one {ls : List (List Int)} {t k d e : Int} (h : IsFar ls t k d) (h' : IsFar ls t k e) : d = e := by
  rcases h with ⟨m, rfl, h1, h2⟩ | ⟨rfl, h1⟩ <;> rcases h' with ⟨m', rfl, h1', h2'⟩ | ⟨rfl, h1'⟩
  · rcases Nat.lt_trichotomy m m' with h | h | h
    · exact absurd h1 (h2' m h)
    · rw [h]
    · exact absurd h1' (h2 m' h)
  · exact absurd h1 (h1' m)
  · exact absurd h1' (h1 m')
  · rfl
noncomputable def farI (ls : List (List Int)) (t k : Int) : Int := Classical.choose (far_exists ls t k)
theorem farI_is (ls : List (List Int)) (t k : Int) : IsFar ls t k (farI ls t k) := Classical.choose_spec (far_exists ls t k)
theorem farI_eq {ls : List (List Int)} {t k d : Int} (h : IsFar ls t k d) : farI ls t k = d := far_one (farI_is ls t k) h
theorem farI_low (ls : List (List Int)) (t k : Int) : -1 ≤ farI ls t k := by
  rcases farI_is ls t k with ⟨m, h, _⟩ | ⟨h, _⟩ <;> omega
theorem farI_self (ls : List (List Int)) (t : Int) : farI ls t t = 0 := farI_eq (.inl ⟨0, rfl, rfl, fun j hj => by omega⟩)
theorem farI_zero {ls : List (List Int)} {t k : Int} (h : farI ls t k = 0) : k = t := by
  rcases farI_is ls t k with ⟨m, hm, h1, _⟩ | ⟨hm, _⟩
  · have : m = 0 := by omega
    subst this; exact h1
  · omega
theorem farI_le {ls : List (List Int)} {t k : Int} {m : Nat} (h : Way ls t m k) : 0 ≤ farI ls t k ∧ farI ls t k ≤ m := by
  rcases farI_is ls t k with ⟨j, hj, h1, h2⟩ | ⟨_, h1⟩
  · rcases Nat.lt_or_ge m j with h' | h'
    · exact absurd h (h2 m h')
    · omega
  · exact absurd h (h1 m)
theorem farI_way {ls : List (List Int)} {t k : Int} (h : 0 ≤ farI ls t k) : Way ls t (farI ls t k).toNat k := by
  rcases farI_is ls t k with ⟨j, hj, h1, h2⟩ | ⟨h', _⟩
  · rw [hj]; exact h1
  · omega
/-- The next one on a shortest way. -/
theorem far_next {ls : List (List Int)} {t k : Int} {m : Nat} (h : farI ls t k = (m : Int) + 1) : ∃ x ∈ needsAt ls k, farI ls t x = m := by
  have hw := farI_way (ls := ls) (t := t) (k := k) (by omega)
  rw [h, show ((m : Int) + 1).toNat = m + 1 by omega] at hw
  obtain ⟨x, hx, hxw⟩ := hw
  refine ⟨x, hx, ?_⟩
  have h1 := farI_le hxw
  by_cases h' : farI ls t x < m
  · have h2 := farI_way h1.1
    have h3 : Way ls t ((farI ls t x).toNat + 1) k := ⟨x, hx, h2⟩
    have h4 := farI_le h3
    omega
  · omega
theorem far_edge {ls : List (List Int)} {t k x : Int} (hx : x ∈ needsAt ls k) (h : 0 ≤ farI ls t x) : 0 ≤ farI ls t k ∧ farI ls t k ≤ farI ls t x + 1 := by
  have h3 : Way ls t ((farI ls t x).toNat + 1) k := ⟨x, hx, farI_way h⟩
  have h4 := farI_le h3
  omega

/-- The next ones least. -/
noncomputable def nextI (ls : List (List Int)) (t k : Int) : Int := ((needsAt ls k).find? (fun x => decide (farI ls t x = farI ls t k - 1))).getD t
noncomputable def wayL (ls : List (List Int)) (t : Int) : Nat → Int → List Int
  | 0, k => [k]
  | m + 1, k => k :: wayL ls t m (nextI ls t k)
theorem next_at {ls : List (List Int)} {t k : Int} {j : Nat} (hj : j < (needsAt ls k).length) (h : ∀ i (hi : i < j), farI ls t (needsAt ls k)[i] ≠ farI ls t k - 1) (he : farI ls t (needsAt ls k)[j] = farI ls t k - 1) : nextI ls t k = (needsAt ls k)[j] := by
  have : (needsAt ls k).find? (fun x => decide (farI ls t x = farI ls t k - 1)) = some (needsAt ls k)[j] := by
    rw [List.find?_eq_some_iff_getElem]
    refine ⟨by simpa using he, j, hj, rfl, fun i hi => ?_⟩
    have := h i hi
    simpa using this
  unfold nextI
  rw [this]; rfl
theorem next_far {ls : List (List Int)} {t k : Int} {m : Nat} (h : farI ls t k = (m : Int) + 1) : farI ls t (nextI ls t k) = m ∧ nextI ls t k ∈ needsAt ls k := by
  obtain ⟨x, hx, hf⟩ := far_next h
  have : ((needsAt ls k).find? (fun x => decide (farI ls t x = farI ls t k - 1))).isSome = true := by
    rw [List.find?_isSome]
    exact ⟨x, hx, by simp; omega⟩
  obtain ⟨y, hy⟩ := Option.isSome_iff_exists.1 this
  have h1 := List.find?_some hy
  have h2 := List.mem_of_find?_eq_some hy
  simp only [decide_eq_true_eq] at h1
  unfold nextI
  rw [hy]
  exact ⟨by simp only [Option.getD_some]; omega, h2⟩
theorem wayL_len (ls : List (List Int)) (t : Int) (m : Nat) (k : Int) : (wayL ls t m k).length = m + 1 := by
  induction m generalizing k with
  | zero => rfl
  | succ m ih => rw [wayL, List.length_cons, ih]

/-- What the queue keeps while one is looked at: those that are behind it, those that are left. -/
structure Spread (ls : List (List Int)) (t : Int) (out : List Int) (all : List Int) : Prop where
  len : out.length = ls.length
  self : t ∈ all ∧ out.getD t.toNat (-1) = 0
  sound : ∀ k : Nat, k < ls.length → (out.getD k (-1) = -1 ∧ (k : Int) ∉ all) ∨ (0 ≤ out.getD k (-1) ∧ (k : Int) ∈ all ∧ Way ls t (out.getD k (-1)).toNat k)
  range : ∀ k ∈ all, 0 ≤ k ∧ k < (ls.length : Int)
  nodup : all.Nodup
/-- How far by the list so far. -/
def at' (out : List Int) (k : Int) : Int := out.getD k.toNat (-1)
structure Front (ls : List (List Int)) (t : Int) (out : List Int) (done queue : List Int) : Prop where
  spread : Spread ls t out (done ++ queue)
  sorted : queue.Pairwise (fun a b => at' out a ≤ at' out b)
  near : ∀ q r, queue = q :: r → ∀ p ∈ done ++ queue, at' out p ≤ at' out q + 1
  closed : ∀ x ∈ done, ∀ k : Nat, (hk : k < ls.length) → x ∈ ls[k] → (k : Int) ∈ done ++ queue ∧ at' out k ≤ at' out x + 1
structure Inner (ls : List (List Int)) (t : Int) (out : List Int) (done : List Int) (x : Int) (d : Int) (queue us : List Int) : Prop where
  spread : Spread ls t out (done ++ x :: queue)
  dist : at' out x = d
  d0 : 0 ≤ d
  sorted : queue.Pairwise (fun a b => at' out a ≤ at' out b)
  least : ∀ q ∈ queue, d ≤ at' out q
  near : ∀ p ∈ done ++ x :: queue, at' out p ≤ d + 1
  closed : ∀ y ∈ done, ∀ k : Nat, (hk : k < ls.length) → y ∈ ls[k] → (k : Int) ∈ done ++ x :: queue ∧ at' out k ≤ at' out y + 1
  seen : ∀ k ∈ us, k ∈ done ++ x :: queue

theorem at_start {n : Nat} {t : Nat} (ht : t < n) (k : Nat) (hk : k < n) : ((List.replicate n (-1 : Int)).set t 0).getD k (-1) = if k = t then 0 else -1 := by
  rw [List.getD_eq_getElem?_getD, List.getElem?_set]
  by_cases h : t = k
  · subst h; simp [ht]
  · rw [if_neg h, if_neg (fun e => h e.symm)]; simp [hk]
theorem Front.start {ls : List (List Int)} {t : Nat} (ht : t < ls.length) : Front ls t ((List.replicate ls.length (-1)).set t 0) [] [(t : Int)] := by
  refine ⟨⟨by simp, ⟨by simp, ?_⟩, fun k hk => ?_, fun k hk => ?_, by simp⟩, by simp, fun q r h p hp => ?_, by simp⟩
  · rw [show ((t : Int)).toNat = t by omega, at_start ht t ht, if_pos rfl]
  · rw [at_start ht k hk]
    by_cases h : k = t
    · subst h; rw [if_pos rfl]; exact .inr ⟨by omega, by simp, rfl⟩
    · rw [if_neg h]; exact .inl ⟨rfl, by simp; omega⟩
  · simp at hk; omega
  · simp only [List.nil_append, List.mem_singleton] at hp
    injection h with h1 h2
    rw [hp, ← h1]; omega
theorem Front.open {ls : List (List Int)} {t : Int} {out done queue : List Int} {x : Int} (h : Front ls t out done (x :: queue)) : Inner ls t out done x (at' out x) queue [] := by
  have hx := h.spread.range x (by simp)
  have h2 := List.pairwise_cons.1 h.sorted
  refine ⟨h.spread, rfl, ?_, h2.2, fun q hq => h2.1 q hq, fun p hp => h.near x queue rfl p hp, h.closed, by simp⟩
  rcases h.spread.sound x.toNat (by omega) with h3 | h3
  · rw [show ((x.toNat : Nat) : Int) = x by omega] at h3; exact absurd (by simp) h3.2
  · exact h3.1
theorem Inner.close {ls : List (List Int)} {t : Int} {out done queue us : List Int} {x d : Int} (h : Inner ls t out done x d queue us) (hus : ∀ k : Nat, (hk : k < ls.length) → x ∈ ls[k] → (k : Int) ∈ us) : Front ls t out (done ++ [x]) queue := by
  have e : done ++ [x] ++ queue = done ++ x :: queue := by simp
  refine ⟨by rw [e]; exact h.spread, h.sorted, fun q r hq p hp => ?_, fun y hy k hk hm => ?_⟩
  · rw [e] at hp
    have h1 := h.near p hp
    have h2 := h.least q (by rw [hq]; simp)
    omega
  · rw [e]
    rw [List.mem_append, List.mem_singleton] at hy
    rcases hy with hy | rfl
    · exact h.closed y hy k hk hm
    · have := h.seen k (hus k hk hm)
      exact ⟨this, by have := h.near k this; rw [h.dist]; exact this⟩
theorem Inner.skip {ls : List (List Int)} {t : Int} {out done queue us : List Int} {x d : Int} {k : Nat} (h : Inner ls t out done x d queue us) (hk : k < ls.length) (hs : ¬ at' out k < 0) : Inner ls t out done x d queue (us ++ [(k : Int)]) := by
  refine ⟨h.spread, h.dist, h.d0, h.sorted, h.least, h.near, h.closed, fun j hj => ?_⟩
  rw [List.mem_append, List.mem_singleton] at hj
  rcases hj with hj | rfl
  · exact h.seen j hj
  · rcases h.spread.sound k hk with h1 | h1
    · exact absurd (show at' out k < 0 by unfold at'; rw [show ((k : Int)).toNat = k by omega, h1.1]; omega) hs
    · exact h1.2.1
theorem set_at {out : List Int} {k j : Nat} {e : Int} (hk : k < out.length) : (out.set k e).getD j (-1) = if j = k then e else out.getD j (-1) := by
  rw [List.getD_eq_getElem?_getD, List.getElem?_set, List.getD_eq_getElem?_getD]
  by_cases h : k = j
  · subst h; simp [hk]
  · rw [if_neg h, if_neg (fun e => h e.symm)]
theorem Inner.put {ls : List (List Int)} {t : Int} {out done queue us : List Int} {x d : Int} {k : Nat} (h : Inner ls t out done x d queue us) (hk : k < ls.length) (hm : x ∈ ls[k]) (hs : at' out k < 0) :
    Inner ls t (out.set k (d + 1)) done x d (queue ++ [(k : Int)]) (us ++ [(k : Int)]) := by
  have hkl : k < out.length := by rw [h.spread.len]; exact hk
  have hno : (k : Int) ∉ done ++ x :: queue := by
    rcases h.spread.sound k hk with h1 | h1
    · exact h1.2
    · exact absurd h1.1 (by unfold at' at hs; rw [show ((k : Int)).toNat = k by omega] at hs; omega)
  have e : done ++ x :: (queue ++ [(k : Int)]) = (done ++ x :: queue) ++ [(k : Int)] := by simp
  have same : ∀ p ∈ done ++ x :: queue, at' (out.set k (d + 1)) p = at' out p := by
    intro p hp
    have hr := h.spread.range p hp
    unfold at'
    rw [set_at hkl, if_neg]
    intro he
    exact hno (by rw [← he, show ((p.toNat : Nat) : Int) = p by omega]; exact hp)
  have new : at' (out.set k (d + 1)) k = d + 1 := by
    unfold at'
    rw [show ((k : Int)).toNat = k by omega, set_at hkl, if_pos rfl]
  have hx := h.spread.range x (by simp)
  have hway : Way ls t d.toNat x := by
    rcases h.spread.sound x.toNat (by omega) with h1 | h1
    · rw [show ((x.toNat : Nat) : Int) = x by omega] at h1; exact absurd (by simp) h1.2
    · have := h1.2.2
      rw [show ((x.toNat : Nat) : Int) = x by omega] at this
      have hd := h.dist
      unfold at' at hd
      rw [hd] at this; exact this
  have d0 := h.d0
  refine ⟨⟨by rw [List.length_set]; exact h.spread.len, ⟨by rw [e]; exact List.mem_append.2 (.inl h.spread.self.1), ?_⟩, fun j hj => ?_, fun j hj => ?_, ?_⟩, by rw [same x (by simp)]; exact h.dist, d0, ?_, fun q hq => ?_, fun p hp => ?_, fun y hy j hj hym => ?_, fun j hj => ?_⟩
  · have := same t h.spread.self.1
    unfold at' at this
    rw [this]; exact h.spread.self.2
  · rw [e, set_at hkl]
    by_cases hjk : j = k
    · subst hjk
      rw [if_pos rfl]
      refine .inr ⟨by omega, by simp, ?_⟩
      rw [show (d + 1).toNat = d.toNat + 1 by omega]
      exact ⟨x, by rw [needsAt_get hj]; exact hm, hway⟩
    · rw [if_neg hjk]
      rcases h.spread.sound j hj with h1 | h1
      · exact .inl ⟨h1.1, by rw [List.mem_append, List.mem_singleton]; rintro (h2 | h2); exact h1.2 h2; omega⟩
      · exact .inr ⟨h1.1, List.mem_append.2 (.inl h1.2.1), h1.2.2⟩
  · rw [e, List.mem_append, List.mem_singleton] at hj
    rcases hj with hj | rfl
    · exact h.spread.range j hj
    · omega
  · rw [e, List.nodup_append]
    refine ⟨h.spread.nodup, by simp, fun a ha b hb => ?_⟩
    rw [List.mem_singleton] at hb
    rintro rfl
    exact hno (by rw [← hb]; exact ha)
  · rw [List.pairwise_append]
    refine ⟨h.sorted.imp_of_mem (fun ha hb hab => by rw [same _ (by simp [ha]), same _ (by simp [hb])]; exact hab), by simp, fun a ha b hb => ?_⟩
    rw [List.mem_singleton] at hb
    rw [hb, new, same a (by simp [ha])]
    exact h.near a (by simp [ha])
  · rw [List.mem_append, List.mem_singleton] at hq
    rcases hq with hq | rfl
    · rw [same q (by simp [hq])]; exact h.least q hq
    · rw [new]; omega
  · rw [e, List.mem_append, List.mem_singleton] at hp
    rcases hp with hp | rfl
    · rw [same p hp]; exact h.near p hp
    · rw [new]; omega
  · obtain ⟨h1, h2⟩ := h.closed y hy j hj hym
    rw [e, same _ h1, same y (by simp [hy])]
    exact ⟨List.mem_append.2 (.inl h1), h2⟩
  · rw [e, List.mem_append]
    rw [List.mem_append] at hj
    rcases hj with hj | hj
    · exact .inl (h.seen j hj)
    · exact .inr hj
/-- Where the queue is empty, all is known. -/
theorem Front.done {ls : List (List Int)} {t : Int} {out done : List Int} (hin : ∀ k (hk : k < ls.length), ∀ x ∈ ls[k], 0 ≤ x ∧ x < (ls.length : Int)) (h : Front ls t out done []) : out = (upto ls.length).map (farI ls t) := by
  have hle : ∀ m : Nat, ∀ k : Nat, k < ls.length → Way ls t m k → 0 ≤ out.getD k (-1) ∧ out.getD k (-1) ≤ m := by
    intro m
    induction m with
    | zero =>
      intro k hk hw
      have : (k : Int) = t := hw
      have h1 := h.spread.self.2
      rw [← this, show ((k : Int)).toNat = k by omega] at h1
      rw [h1]; omega
    | succ m ih =>
      intro k hk hw
      obtain ⟨x, hx, hxw⟩ := hw
      rw [needsAt_get hk] at hx
      have hxr := hin k hk x hx
      have hxe : ((x.toNat : Nat) : Int) = x := by omega
      have h1 := ih x.toNat (by omega) (by rw [hxe]; exact hxw)
      have h2 : x ∈ done := by
        rcases h.spread.sound x.toNat (by omega) with h3 | h3
        · omega
        · have := h3.2.1; rw [hxe, List.append_nil] at this; exact this
      obtain ⟨h3, h4⟩ := h.closed x h2 k hk hx
      unfold at' at h4
      rw [show ((k : Int)).toNat = k by omega] at h4
      rcases h.spread.sound k hk with h5 | h5
      · exact absurd h3 h5.2
      · omega
  apply List.ext_getElem (by rw [h.spread.len, List.length_map, upto_len])
  intro k h1 h2
  have hk : k < ls.length := by rw [h.spread.len] at h1; exact h1
  rw [List.getElem_map, upto_get]
  symm
  apply farI_eq
  have hg : out.getD k (-1) = out[k] := by rw [List.getD_eq_getElem?_getD, List.getElem?_eq_getElem h1]; rfl
  rcases h.spread.sound k hk with h3 | h3
  · refine .inr ⟨by rw [← hg]; exact h3.1, fun m hw => ?_⟩
    have := hle m k hk hw
    omega
  · refine .inl ⟨(out.getD k (-1)).toNat, by rw [← hg]; omega, h3.2.2, fun j hj hw => ?_⟩
    have := hle j k hk hw
    omega
theorem Front.room {ls : List (List Int)} {t : Int} {out done queue : List Int} (h : Front ls t out done queue) : done.length + queue.length ≤ ls.length := by
  have := nodup_sub (a := done ++ queue) (b := upto ls.length) h.spread.nodup (fun x hx => mem_upto.2 (h.spread.range x hx))
  rw [upto_len, List.length_append] at this
  exact this
end Pth
end Go.Proofs.Ytgolhfmmlanmlaa
