/- Texts of one claim, joined in their order. -/
import Derived.Test.YtngldlconipnnaaGreatDoorM3
import Derived.Test.YtngldlconipnnaaGreatDoorM4
import Derived.Test.YtngldlconipnnaaGreatDoorM10
import Derived.Test.YtngldlconipnnaaGreatDoorM6

/- Walks: the laws' marks in graphs, and whether they are held. -/
namespace Go.Proofs.YtngldlconipnnaaGreatDoor
open Go.RowKit Pth

/-- The marks from k on, in lists. -/
def marksL : Nat → List (List Int) → List (List Int)
  | _, [] => []
  | k, l :: t => marks k l.length :: marksL (k + l.length) t
theorem marksL_len (k : Nat) (ls : List (List Int)) : (marksL k ls).length = ls.length := by
  induction ls generalizing k with
  | nil => rfl
  | cons l t ih => rw [marksL, List.length_cons, List.length_cons, ih]
theorem marksL_snoc (k : Nat) (ls : List (List Int)) (l : List Int) : marksL k (ls ++ [l]) = marksL k ls ++ [marks ((k + total ls : Nat) : Int) l.length] := by
  induction ls generalizing k with
  | nil => simp [marksL, total]
  | cons x t ih =>
    rw [List.cons_append, marksL, marksL, ih, List.cons_append]
    have : k + x.length + total t = k + total (x :: t) := by simp [total]; omega
    rw [this]
theorem marksL_next {k : Nat} {ls : List (List Int)} {j : Nat} (hj : j < ls.length) : marksL k (ls.take (j + 1)) = marksL k (ls.take j) ++ [marks ((k + total (ls.take j) : Nat) : Int) ls[j].length] := by
  rw [List.take_succ_eq_append_getElem hj, marksL_snoc]
theorem marksL_total (k : Nat) (ls : List (List Int)) : total (marksL k ls) = total ls := by
  induction ls generalizing k with
  | nil => rfl
  | cons x t ih => have := ih (k + x.length); simp only [total, marksL, List.map_cons, List.sum_cons, marks_len] at this ⊢; omega
theorem marksL_at {k : Nat} {ls : List (List Int)} {j : Nat} (hj : j < ls.length) : (marksL k ls)[j]'(by rw [marksL_len]; exact hj) = marks ((k + total (ls.take j) : Nat) : Int) ls[j].length := by
  induction ls generalizing k j with
  | nil => simp at hj
  | cons x t ih =>
    cases j with
    | zero => simp [marksL, total]
    | succ j =>
      simp only [marksL, List.getElem_cons_succ]
      rw [ih (by simpa using hj)]
      have : k + x.length + total (t.take j) = k + total ((x :: t).take (j + 1)) := by simp [total]; omega
      rw [this]

theorem zip_split {sl : List Value} {M ls : List (List Int)} {j : Nat} (hs : sl.length = ls.length) (hM : M.length = j) (hj : j < ls.length) :
    sl.zip (M ++ ls.drop j) = (sl.take j).zip M ++ (sl[j]'(by omega), ls[j]) :: (sl.drop (j + 1)).zip (ls.drop (j + 1)) := by
  have e : sl = sl.take j ++ sl[j]'(by omega) :: sl.drop (j + 1) := by rw [← List.drop_eq_getElem_cons (by omega), List.take_append_drop]
  conv => lhs; rw [e, List.drop_eq_getElem_cons hj]
  rw [List.zip_append (by rw [List.length_take]; omega), List.zip_cons_cons]
theorem zip_join {sl : List Value} {M ls : List (List Int)} {j : Nat} {x : List Int} (hs : sl.length = ls.length) (hM : M.length = j) (hj : j < ls.length) :
    (sl.take j).zip M ++ (sl[j]'(by omega), x) :: (sl.drop (j + 1)).zip (ls.drop (j + 1)) = sl.zip ((M ++ [x]) ++ ls.drop (j + 1)) := by
  have e : sl = sl.take j ++ sl[j]'(by omega) :: sl.drop (j + 1) := by rw [← List.drop_eq_getElem_cons (by omega), List.take_append_drop]
  conv => rhs; rw [e]
  rw [List.append_assoc, List.zip_append (by rw [List.length_take]; omega), List.singleton_append, List.zip_cons_cons]
/-- A list of another type stays. -/
theorem own_grownL {w w' : World} {B B' e n : Nat} {v : Value} {xs : List Value} {L : List (Value × List Int)} (h : w.ownsRow B e 1 v n xs) (he : e ≠ 3) (hl : Lists B' w L) (hg : GrownL w w' L) : w'.ownsRow B e 1 v n xs := by
  refine ⟨h.1, ?_⟩
  rcases h.2 with h0 | ⟨g, cap, cur, hv, hB, hh, r⟩
  · exact .inl h0
  · refine .inr ⟨g, cap, cur, hv, hB, (hg.block g (lt_of_block hh) (fun p hp hi => own_typesI h (hl.1 p hp) he g (by rw [hv]; rfl) hi)).trans hh, r⟩

theorem markIntS_l {l : List Int} {k B : Nat} {i r : Int} {v : Value} {w : World} (hi : (k : Int) = i) (hr : r = (k : Int) + (l.length : Int)) (hown : w.ownsRow B 3 1 v l.length (I l)) (hl : l.length ≤ 2000000) (hk : k ≤ 2000000) :
    Calls Tryz.prog 36 #[v, .int .i64 i] w fun e w' => e = .returned (.int .i64 r) ∧ w'.ownsRow B 3 1 v l.length (I (marks (k : Int) l.length)) ∧ w.grownBy w' v.ownBlock := by
  subst hi hr
  exact markIntS_any l k B v w hown hl hk
/-- The lists hold the marks, and nothing but their blocks has turned. -/
def MarkedN (B : Nat) (sl : List Value) (ls : List (List Int)) (R : List (Value × List Int)) (k : Nat) (w : World) (e : Ending) (w' : World) : Prop :=
  e = .returned (.int .i64 ((k + total ls : Nat) : Int)) ∧ Lists B w' (sl.zip (marksL k ls) ++ R) ∧ GrownL w w' (sl.zip ls)

set_option maxHeartbeats 2000000 in
theorem markIntSS_any (ls : List (List Int)) (R : List (Value × List Int)) (k B B' : Nat) (v : Value) (sl : List Value) (w : World) (hs : sl.length = ls.length) (hout : w.ownsRow B' 24 1 v ls.length sl) (hL : Lists B w (sl.zip ls ++ R)) (hl : ls.length + total ls ≤ 1500000) (hk : k ≤ 100000) :
    Calls Tryz.prog 148 #[v, .int .i64 (k : Int)] w (MarkedN B sl ls R k w) := by
  have HW := Lib.hid hL
  have HU := Lib.hid hout
  obtain ⟨a, cap, rfl⟩ := own_slice hout
  have hcap : ls.length ≤ cap ∧ cap ≤ maxLen := by obtain ⟨a', c', he, h1, h2, _⟩ := RowV.of_own hout; injection he with _ _ he; omega
  obtain ⟨hc1, hc2⟩ := hcap
  unfold maxLen at hc2
  clear hL hout
  go_enter Tryz.func148, Tryz.ntmps148
  go_wp2_with fail
  go_loopw [1, 5] (fun q i wr => ∃ j : Nat, j ≤ ls.length ∧ q = .int .i64 ((k + total (ls.take j) : Nat) : Int) ∧ i = .int .i64 j ∧ Lists B wr (sl.zip (marksL k (ls.take j) ++ ls.drop j) ++ R) ∧ GrownL w wr (sl.zip ls)) (fun _ i _ => ls.length - (intOf i).toNat)
  case atStart => exact ⟨0, Nat.zero_le _, by simp [total], rfl, by simpa [marksL] using HW.out, GrownL.refl _ _⟩
  case round =>
    obtain ⟨j, hj, rfl, rfl, hL, hg⟩ := hrel
    by_cases hlt : j < ls.length
    · have hout := own_grownL HU.out (by decide) HW.out.left hg
      have hsj : j < sl.length := by omega
      obtain ⟨a', c', he', _, _, hat⟩ := RowV.of_own hout
      injection he' with he1 he2 he3
      subst he1 he3
      obtain ⟨g, o, rfl, hgz, hcell⟩ := hat j hsj
      have hM : (marksL k (ls.take j)).length = j := by rw [marksL_len, List.length_take]; omega
      rw [zip_split hs hM hlt, List.append_assoc, List.cons_append] at hL
      have hone := hL.1 (sl[j], ls[j]) (by simp)
      have htl := total_at hlt
      have htk := total_le (ls := ls) (k := j)
      have HC := Lib.hid (markIntS_l (l := ls[j]) (k := k + total (ls.take j)) (i := ((k + total (ls.take j) : Nat) : Int)) (r := ((k + total (ls.take (j + 1)) : Nat) : Int)) rfl (by have := total_next hlt; omega) hone (by omega) (by omega))
      have HT : Hid (∀ w1, w1.ownsRow B 3 1 sl[j] ls[j].length (I (marks ((k + total (ls.take j) : Nat) : Int) ls[j].length)) → wr.grownBy w1 (sl[j]).ownBlock → Lists B w1 (sl.zip (marksL k (ls.take (j + 1)) ++ ls.drop (j + 1)) ++ R) ∧ GrownL w w1 (sl.zip ls)) := by
        intro w1 h1 h2
        refine ⟨?_, hg.one h2 (zip_get hsj hlt)⟩
        have := hL.turn (v' := sl[j]) (l' := marks ((k + total (ls.take j) : Nat) : Int) ls[j].length) h2 (by rw [marks_len]; exact h1) (fun b hb => .inl hb)
        rw [← List.cons_append, ← List.append_assoc, zip_join hs hM hlt, ← marksL_next hlt] at this
        exact this
      obtain ⟨a2, c2, hv2⟩ := own_slice hone
      have h63 : (k + total (ls.take (j + 1)) : Nat) ≤ 3000000 := by have := total_le (ls := ls) (k := j + 1); omega
      clear hL hone hat hg hout he2
      simp only at hv2
      generalize hsl : sl[j] = u at hcell HC HT hv2
      subst hv2
      generalize ls[j].length = n1 at *
      generalize k + total (ls.take j) = q0 at *
      generalize hq1 : k + total (ls.take (j + 1)) = q1 at *
      have HQ := Lib.hid hq1
      clear hsl hq1
      go_wp2_with fail
      refine HC.out.mono ?_
      rintro e w1 ⟨rfl, h1, h2⟩
      obtain ⟨h3, h4⟩ := HT.out w1 h1 h2
      have H3 := Lib.hid h3
      have H4 := Lib.hid h4
      clear h1 h2 h3 h4 HT HC
      go_wp2_with fail
      go_roundw
      case rel => exact ⟨j + 1, by omega, by rw [HQ.out], by go_num, H3.out, H4.out⟩
      case measure => simp [intOf]; omega
    · obtain rfl : j = ls.length := by omega
      rw [List.take_length, List.drop_length, List.append_nil] at hL
      rw [List.take_length]
      have HL := Lib.hid hL
      have HG := Lib.hid hg
      clear hL hg
      go_wp2_with fail
      go_ret
      exact ⟨rfl, HL.out, HG.out⟩

/-- Only blocks between two have turned. -/
structure OnlyIn (B C : Nat) (w w' : World) : Prop where
  below : Below B w w'
  above : ∀ i, C ≤ i → i < w.heap.size → w'.heap[i]? = w.heap[i]?
  kept : ∀ (i : Nat) (cs : Array Value) (e : Nat), e ≠ 3 → w.heap[i]? = some (Obj.cells cs e (0, 0)) → w'.heap[i]? = w.heap[i]?
theorem GraphO.only {B C D : Nat} {w w' : World} {v : Value} {ls : List (List Int)} {l : List Int} (h : GraphO D w v ls l) (hg : OnlyIn B C w w') (hD : C ≤ D) : GraphO D w' v ls l := by
  obtain ⟨nv, ov, sl, hv, h1, h2, h3⟩ := h
  have one : ∀ {e n : Nat} {x : Value} {xs : List Value}, w.ownsRow D e 1 x n xs → w'.ownsRow D e 1 x n xs := by
    intro e n x xs h
    refine ⟨h.1, ?_⟩
    rcases h.2 with h0 | ⟨g, cap, cur, hv, hB, hh, r⟩
    · exact .inl h0
    · exact .inr ⟨g, cap, cur, hv, hB, (hg.above g (by omega) (lt_of_block hh)).trans hh, r⟩
  exact ⟨nv, ov, sl, hv, h1, one h2, fun p hp => one (h3.1 p hp), h3.2⟩
theorem own_only {B C D e n : Nat} {w w' : World} {v : Value} {xs : List Value} (h : w.ownsRow D e 1 v n xs) (hg : OnlyIn B C w w') (hD : C ≤ D) : w'.ownsRow D e 1 v n xs := by
  refine ⟨h.1, ?_⟩
  rcases h.2 with h0 | ⟨g, cap, cur, hv, hB, hh, r⟩
  · exact .inl h0
  · exact .inr ⟨g, cap, cur, hv, hB, (hg.above g (by omega) (lt_of_block hh)).trans hh, r⟩
theorem Blk2.only {B C b t : Nat} {w w' : World} {x y : Value} (h : Blk2 w b t x y) (hg : OnlyIn B C w w') (hb : b < B ∨ C ≤ b) : Blk2 w' b t x y := by
  rcases hb with hb | hb
  · exact h.below hg.below hb
  · exact (hg.above b hb (lt_of_block h)).trans h

theorem Blk2.kept {B C b t : Nat} {w w' : World} {x y : Value} (h : Blk2 w b t x y) (hg : OnlyIn B C w w') (ht : t ≠ 3) : Blk2 w' b t x y := (hg.kept b _ t ht h).trans h
/-- How many numbers a graph has. -/
def totalG (ls : List (List Int)) (l : List Int) : Nat := total ls + l.length
theorem GrownL.more {w w1 : World} {L M : List (Value × List Int)} (h : GrownL w w1 L) (hs : ∀ p ∈ L, p ∈ M) : GrownL w w1 M :=
  ⟨h.os, h.tape, h.output, h.size, fun i hi hne => h.block i hi (fun p hp => hne p (hs p hp))⟩

set_option maxRecDepth 20000 in
set_option maxHeartbeats 4000000 in
theorem markGraph_any (ls : List (List Int)) (l : List Int) (k B : Nat) (v : Value) (w0 w : World) (h0 : GraphO B w0 v ls l) (hb0 : Below w0.heap.size w0 w) (hB : B ≤ w0.heap.size) (hl : ls.length + total ls + l.length ≤ 1500000) (hk : k ≤ 1000) :
    Calls Tryz.prog 93 #[v, .int .i64 (k : Int)] w fun e w' => e = .returned (.int .i64 ((k + totalG ls l : Nat) : Int)) ∧ GraphO B w' v (marksL k ls) (marks ((k + total ls : Nat) : Int) l.length) ∧ OnlyIn B w0.heap.size w w' := by
  obtain ⟨nv, ov, sl, rfl, hs, hn, hL⟩ := h0
  have hlt : ∀ p ∈ sl.zip ls ++ [(ov, l)], ∀ i, p.1.ownBlock = some i → B ≤ i ∧ i < w0.heap.size := fun p hp i hi => (hL.1 p hp).lt i hi
  have HLT := Lib.hid hlt
  have hnw := own_below hn hb0
  have hLw := hL.below hb0
  obtain ⟨an, cn, rfl⟩ := own_slice hn
  obtain ⟨ao, co, hov⟩ := own_slice (hL.1 (ov, l) (List.mem_append.2 (.inr (List.mem_singleton.2 rfl))))
  simp only at hov
  subst hov
  obtain ⟨wa, hwa⟩ : ∃ wa, wa = w.alloc (.cells #[.slice an ls.length cn, .slice ao l.length co] 26) := ⟨_, rfl⟩
  have P0 : Hid (Blk2 wa w.heap.size 26 (.slice an ls.length cn) (.slice ao l.length co)) := by rw [hwa]; exact Blk2.new
  have hAw : Below w.heap.size w wa := by rw [hwa]; exact (Below.refl w.heap.size w).alloc (Nat.le_refl _) _
  have HA := Lib.hid hAw
  have hsa : wa.heap.size = w.heap.size + 1 := by rw [hwa]; simp
  have hsw : w0.heap.size ≤ w.heap.size := hb0.size
  have HN := Lib.hid (own_below hnw hAw)
  have HL := Lib.hid (hLw.below hAw)
  have HWA := Lib.hid hwa
  have HC := Lib.hid (markIntSS_any ls [(.slice ao l.length co, l)] k B B _ sl wa hs HN.out HL.out (by omega) (by omega))
  have hpb : ∀ (L : List (Value × List Int)) (x y : World), GrownL x y L → (∀ p ∈ L, p ∈ sl.zip ls ++ [(.slice ao l.length co, l)]) → w.heap.size < x.heap.size → x.heap[w.heap.size]? = y.heap[w.heap.size]? := by
    intro L x y hg hm hx
    refine (hg.block w.heap.size hx (fun p hp hi => ?_)).symm
    have := (HLT.out p (hm p hp) _ hi).2
    omega
  have HPB := Lib.hid hpb
  clear hlt hnw hLw hn hL hAw hwa hpb hb0
  go_enter Tryz.func93, Tryz.ntmps93
  go_wp2_with fail
  rw [← HWA.out]
  refine HC.out.mono ?_
  rintro e w1 ⟨rfl, hL1, hg1⟩
  have hm1 : ∀ p ∈ sl.zip ls, p ∈ sl.zip ls ++ [(Value.slice ao l.length co, l)] := fun p hp => List.mem_append.2 (.inl hp)
  have P1 := Lib.hid (show Blk2 w1 w.heap.size 26 (.slice an ls.length cn) (.slice ao l.length co) from (HPB.out _ _ _ hg1 hm1 (by omega)).symm.trans P0.out)
  have hn1 := own_grownL HN.out (by decide) HL.out.left hg1
  have c1 := P1.out.cells.2
  have hone := hL1.1 (.slice ao l.length co, l) (List.mem_append.2 (.inr (List.mem_singleton.2 rfl)))
  have HC2 := Lib.hid (markIntS_l (l := l) (k := k + total ls) (i := ((k + total ls : Nat) : Int)) (r := ((k + totalG ls l : Nat) : Int)) rfl (by unfold totalG; omega) hone (by omega) (by omega))
  have HG1 := Lib.hid (hg1.more hm1)
  have HL1 := Lib.hid hL1
  have HN1 := Lib.hid hn1
  clear hL1 hg1 hn1 hone hm1 HC
  generalize hq : k + total ls = q at *
  have HQ := Lib.hid hq
  clear hq
  go_wp2_with fail
  refine HC2.out.mono ?_
  rintro e w2 ⟨rfl, ho2, hg2⟩
  have HF : Hid (GraphO B w2 (.agg #[.slice an ls.length cn, .slice ao l.length co]) (marksL k ls) (marks (q : Int) l.length) ∧ OnlyIn B w0.heap.size w w2) := by
    have hL2 := HL1.out.turn (L := sl.zip (marksL k ls)) (M := []) (v' := .slice ao l.length co) (l' := marks (q : Int) l.length) hg2 (by rw [marks_len]; exact ho2) (fun b hb => .inl hb)
    have hg := HG1.out.one hg2 (l := l) (List.mem_append.2 (.inr (List.mem_singleton.2 rfl)))
    have hml := marksL_len k ls
    refine ⟨⟨_, _, sl, rfl, by rw [hml]; exact hs, ?_, hL2⟩, ?_, fun i hi hiw => ?_, fun i cs e he hi => ?_⟩
    · rw [hml]
      exact own_apartI HN1.out hg2 (fun i hi hi' => own_typesI HN1.out (HL1.out.1 (.slice ao l.length co, l) (List.mem_append.2 (.inr (List.mem_singleton.2 rfl)))) (by decide) i hi' hi)
    · have := hg.below HL.out (by omega)
      exact HA.out.mono (by omega) |>.trans this
    · have h1 := hg.block i (by omega) (fun p hp hpi => by have := (HLT.out p hp i hpi).2; omega)
      exact h1.trans (HA.out.block i hiw)
    · have hiw := lt_of_block hi
      have hi' := (HA.out.block i hiw).trans hi
      have h1 := hg.block i (by omega) (fun p hp hpi => by
        rcases (HL.out.1 p hp).2 with ⟨hv, _⟩ | ⟨g, cap, cur, hv, _, hg', _⟩
        · rw [hv] at hpi; simp [Value.ownBlock] at hpi
        · rw [hv] at hpi
          simp only [Value.ownBlock, Option.some.injEq] at hpi
          subst hpi
          rw [hi'] at hg'
          simp at hg'
          exact he hg'.2)
      exact h1.trans (HA.out.block i hiw)
  clear ho2 hg2
  go_wp2_with fail
  go_ret
  exact ⟨rfl, by rw [HQ.out]; exact HF.out.1, HF.out.2⟩

end Go.Proofs.YtngldlconipnnaaGreatDoor

/- Walks: the laws' marks in plans. -/
namespace Go.Proofs.YtngldlconipnnaaGreatDoor
open Go.RowKit Pth

/-- Only blocks between two have turned, whatever they hold. -/
structure OnlyB (B C : Nat) (w w' : World) : Prop where
  below : Below B w w'
  above : ∀ i, C ≤ i → i < w.heap.size → w'.heap[i]? = w.heap[i]?
theorem OnlyB.trans {B C : Nat} {a b c : World} (h : OnlyB B C a b) (k : OnlyB B C b c) : OnlyB B C a c :=
  ⟨h.below.trans k.below, fun i hi hl => (k.above i hi (Nat.lt_of_lt_of_le hl h.below.size)).trans (h.above i hi hl)⟩
theorem OnlyB.of_below {B C : Nat} {w w' : World} (h : Below w.heap.size w w') (hB : B ≤ w.heap.size) : OnlyB B C w w' := ⟨h.mono hB, fun i _ hl => h.block i hl⟩
theorem OnlyB.of_only {B C : Nat} {w w' : World} (h : OnlyIn B C w w') : OnlyB B C w w' := ⟨h.below, h.above⟩
theorem OnlyB.of_grown {B C : Nat} {w w' : World} {r : Option Nat} (h : w.grownBy w' r) (hr : ∀ i, r = some i → B ≤ i ∧ i < C) (hB : B ≤ w.heap.size) : OnlyB B C w w' := by
  refine ⟨⟨h.os, h.tape, h.output, h.size, fun i hi => h.block i (by omega) (fun e => by have := (hr i e.symm).1; omega)⟩, fun i hi hl => h.block i hl (fun e => by have := (hr i e.symm).2; omega)⟩
theorem OnlyB.own {B C D e n z : Nat} {w w' : World} {v : Value} {xs : List Value} (hg : OnlyB B C w w') (h : w.ownsRow D e z v n xs) (hD : C ≤ D) : w'.ownsRow D e z v n xs := by
  refine ⟨h.1, ?_⟩
  rcases h.2 with h0 | ⟨g, cap, cur, hv, hB, hh, r⟩
  · exact .inl h0
  · exact .inr ⟨g, cap, cur, hv, hB, (hg.above g (by omega) (lt_of_block hh)).trans hh, r⟩
theorem OnlyB.blk4 {B C b t : Nat} {w w' : World} {x y z u : Value} (hg : OnlyB B C w w') (h : Blk4 w b t x y z u) (hb : C ≤ b) : Blk4 w' b t x y z u := (hg.above b hb (lt_of_block h)).trans h
theorem own_kept {B C D e n z : Nat} {w w' : World} {v : Value} {xs : List Value} (hg : OnlyIn B C w w') (he : e ≠ 3) (h : w.ownsRow D e z v n xs) : w'.ownsRow D e z v n xs := by
  refine ⟨h.1, ?_⟩
  rcases h.2 with h0 | ⟨g, cap, cur, hv, hB, hh, r⟩
  · exact .inl h0
  · exact .inr ⟨g, cap, cur, hv, hB, (hg.kept g _ e he hh).trans hh, r⟩

theorem BL_set (m : List Bool) (j : Nat) (b : Bool) : (BL m).set j (.bool b) = BL (m.set j b) := by simp [BL, List.map_set]

set_option maxRecDepth 20000 in
set_option maxHeartbeats 1000000 in
theorem markBoolS_any (l : List Bool) (k : Nat) (B : Nat) (v : Value) (w : World) (hown : w.ownsRow B 4 1 v l.length (BL l)) (hl : l.length ≤ 1100000) (hk : k ≤ 4000000) :
    Calls Tryz.prog 94 #[v, .int .i64 (k : Int)] w fun e w' => e = .returned (.int .i64 ((k + l.length : Nat) : Int)) ∧ w.grownBy w' v.ownBlock := by
  have HW := Lib.hid hown
  obtain ⟨a, cap, rfl⟩ := own_slice hown
  clear hown
  go_enter Tryz.func94, Tryz.ntmps94
  go_wp2_with fail
  go_loopw [1, 5] (fun q i wr => ∃ (j : Nat) (m : List Bool), j ≤ l.length ∧ m.length = l.length ∧ q = .int .i64 ((k + j : Nat) : Int) ∧ i = .int .i64 j ∧ wr.ownsRow B 4 1 (.slice a l.length cap) l.length (BL m) ∧ w.grownBy wr (Value.slice a l.length cap).ownBlock) (fun _ i _ => l.length - (intOf i).toNat)
  case atStart => exact ⟨0, l, Nat.zero_le _, rfl, rfl, rfl, HW.out, grown_refl _ _⟩
  case round =>
    clear HW
    obtain ⟨j, m, hj, hm, rfl, rfl, hown, hg⟩ := hrel
    have HM := Lib.hid hm
    by_cases hlt : j < l.length
    · obtain ⟨g, c2, hv⟩ : ∃ g c2, (Value.slice a l.length cap) = .slice (some ⟨g, 0, none⟩) l.length c2 := by
        rcases hown.2 with ⟨_, h0⟩ | ⟨g, c2, cur, hv, _⟩
        · omega
        · exact ⟨g, c2, hv⟩
      injection hv with hv1 hv2 hv3
      subst hv1
      have hc4 : l.length ≤ cap := by
        rcases hown.2 with ⟨_, h0⟩ | ⟨g, c2, cur, hv, _, _, h5, _⟩
        · omega
        · injection hv with _ _ hv3; omega
      have hfz := hown.frozenAt j
      have hcz : wr.cell? ⟨g, j, none⟩ = some (.bool (m[j]'(by omega))) := by
        rw [hown.cellAt j (by omega)]
        rw [List.getElem?_eq_getElem (by rw [BL_len]; omega), BL_get (by omega)]
      have HST := Lib.hid (fun b => hown.stored j (.bool b))
      have HG := Lib.hid hg
      generalize m[j]'(by omega) = y at hcz
      have HKJ := Lib.hid (show ((k + (j + 1) : Nat) : Int) = ((k + j : Nat) : Int) + 1 by omega)
      generalize hkj : k + j = kj at *
      have hkj2 : kj ≤ 5200000 := by omega
      clear hown hg hv2 hv3 hm
      clear hkj
      go_wp2_with fail
      go_roundw
      case rel => exact ⟨j + 1, m.set j ((kj : Int) % 3 == 0), by omega, by rw [List.length_set]; exact HM.out, by rw [HKJ.out], by go_num, by rw [← BL_set]; exact (HST.out _).1, grown_trans HG.out (HST.out _).2⟩
      case measure => simp [intOf]; omega
    · obtain rfl : j = l.length := by omega
      have HG := Lib.hid hg
      clear hown hg hm
      go_wp2_with fail
      go_ret
      exact ⟨rfl, HG.out⟩

theorem totalO3 {rs : List (List OpT)} {j : Nat} (hj : j < rs.length) (k : Nat) : ((k + 3 * totalO (rs.take (j + 1)) : Nat) : Int) = ((k + 3 * totalO (rs.take j) : Nat) : Int) + (rs[j].length : Int) * 3 := by
  rw [totalO_next hj]; omega

set_option maxRecDepth 20000 in
set_option maxHeartbeats 2000000 in
theorem markOpSS_any (rs : List (List OpT)) (k B C : Nat) (v : Value) (sl : List Value) (w : World) (hown : OwnOO B w v sl rs) (hC : ∀ p ∈ sl.zip rs, ∀ b, p.1.ownBlock = some b → b < C) (hB : B ≤ w.heap.size) (hl : rs.length + totalO rs ≤ 1100000) (hk : k + 3 * totalO rs ≤ 4000000) (hk1 : 1 ≤ k) :
    Calls Tryz.prog 95 #[v, .int .i64 (k : Int)] w fun e w' => e = .returned (.int .i64 ((k + 3 * totalO rs : Nat) : Int)) ∧ OnlyB B C w w' := by
  obtain ⟨hs, hrow, hL⟩ := hown
  have HW := Lib.hid hrow
  have HL0 := Lib.hid hL
  have HC := Lib.hid hC
  have HS := Lib.hid hs
  obtain ⟨a, cap, rfl⟩ := own_slice hrow
  clear hrow hL hC hs
  go_enter Tryz.func95, Tryz.ntmps95
  go_wp2_with fail
  go_loopw [1, 5] (fun q i wr => ∃ j : Nat, j ≤ rs.length ∧ q = .int .i64 ((k + 3 * totalO (rs.take j) : Nat) : Int) ∧ i = .int .i64 j ∧ Hid (wr.ownsRow B 98 1 (.slice a rs.length cap) rs.length sl) ∧ Hid (ListsO B wr ((sl.zip rs).drop j)) ∧ Hid (OnlyB B C w wr)) (fun _ i _ => rs.length - (intOf i).toNat)
  case atStart => exact ⟨0, Nat.zero_le _, by simp [totalO], rfl, HW, by simpa [Hid] using HL0.out, ⟨Below.refl _ _, fun _ _ _ => rfl⟩⟩
  case round =>
    clear HW HL0
    obtain ⟨j, hj, rfl, rfl, HN, HL, HG⟩ := hrel
    by_cases hlt : j < rs.length
    · have hjs : j < sl.length := by have := HS.out; omega
      have hz : j < (sl.zip rs).length := by rw [List.length_zip]; omega
      have hdr : (sl.zip rs).drop j = (sl[j], rs[j]) :: (sl.zip rs).drop (j + 1) := by rw [List.drop_eq_getElem_cons hz, List.getElem_zip]
      have hl1 := HL.out
      rw [hdr] at hl1
      obtain ⟨ho, hp⟩ := hl1
      rw [List.pairwise_cons] at hp
      have hone := ho (sl[j], rs[j]) (by simp)
      simp only at hone
      obtain ⟨g, c2, hv⟩ : ∃ g c2, (Value.slice a rs.length cap) = .slice (some ⟨g, 0, none⟩) rs.length c2 := by
        rcases HN.out.2 with ⟨_, h0⟩ | ⟨g, c2, cur, hv, _⟩
        · omega
        · exact ⟨g, c2, hv⟩
      injection hv with hv1 hv2 hv3
      subst hv1
      have hc4 : rs.length ≤ cap := by
        rcases HN.out.2 with ⟨_, h0⟩ | ⟨g, c2, cur, hv, _, _, h5, _⟩
        · omega
        · injection hv with _ _ hv3; omega
      have hcell : wr.cell? ⟨g, j, none⟩ = some sl[j] := by rw [HN.out.cellAt j (by omega), List.getElem?_eq_getElem hjs]
      obtain ⟨a2, c3, hsv⟩ := own_sliceG hone
      have hmem : (sl[j], rs[j]) ∈ sl.zip rs := zip_getO hjs hlt
      have hbw : B ≤ wr.heap.size := Nat.le_trans hB HG.out.below.size
      have ht1 := totalO_at hlt
      have ht2 := totalO_le (rs := rs) (k := j + 1)
      have ht3 := totalO_next hlt
      have HC1 := Lib.hid (markOpS_any rs[j] (k + 3 * totalO (rs.take j)) B sl[j] wr hone (by omega) (by omega) (by omega))
      have HT := Lib.hid (totalO3 hlt k)
      have HNX : Hid (∀ w1, wr.grownBy w1 (sl[j]).ownBlock → w1.ownsRow B 98 1 (.slice (some ⟨g, 0, none⟩) rs.length cap) rs.length sl ∧ ListsO B w1 ((sl.zip rs).drop (j + 1)) ∧ OnlyB B C w w1) := fun w1 hg => by
        refine ⟨own_apartG HN.out hg (own_typesG hone HN.out (by decide)), ⟨fun p hp' => ?_, hp.2⟩, HG.out.trans (OnlyB.of_grown hg (fun i hi => ⟨(hone.lt i hi).1, HC.out _ hmem i hi⟩) hbw)⟩
        exact own_apartG (ho p (by simp [hp'])) hg (fun b h1 h2 => hp.1 p hp' b h1 h2)
      rw [hsv] at hcell HC1 HNX
      clear hdr ho hp hone hmem ht1 ht2 ht3 hv2 hv3 HN HL HG hz
      generalize k + 3 * totalO (rs.take j) = kq at *
      generalize rs[j].length = nj at *
      go_wp2_with fail
      refine HC1.out.mono ?_
      rintro e w1 ⟨rfl, hg1⟩
      have HF := Lib.hid (HNX.out w1 hg1)
      clear hg1 HC1 HNX
      go_wp2_with fail
      go_roundw
      case rel => exact ⟨j + 1, by omega, by rw [HT.out], by go_num, HF.out.1, HF.out.2.1, HF.out.2.2⟩
      case measure => simp [intOf]; omega
    · have e1 : rs.take j = rs := List.take_of_length_le (by omega)
      rw [e1]
      clear HN HL
      go_wp2_with fail
      go_ret
      exact ⟨rfl, HG.out⟩

/-- How many marks a plan takes. -/
def markZ (ls : List (List Int)) (l : List Int) (bs : List Bool) (rs : List (List OpT)) : Nat := totalG ls l + bs.length + 3 * totalO rs
theorem OwnOO.kept {B C D : Nat} {w w' : World} {v : Value} {sl : List Value} {rs : List (List OpT)} (h : OwnOO B w v sl rs) (hg : OnlyIn D C w w') : OwnOO B w' v sl rs :=
  ⟨h.1, own_kept hg (by decide) h.2.1, fun p hp => own_kept hg (by decide) (h.2.2.1 p hp), h.2.2.2⟩
theorem OwnOO.grown {B B' e z n : Nat} {w w' : World} {v u : Value} {xs : List Value} {sl : List Value} {rs : List (List OpT)} (h : OwnOO B w v sl rs) (ho : w.ownsRow B' e z u n xs) (h1 : e ≠ 98) (h2 : e ≠ 189) (hg : w.grownBy w' u.ownBlock) : OwnOO B w' v sl rs :=
  ⟨h.1, own_apartG h.2.1 hg (own_typesG ho h.2.1 h1), h.2.2.outer ho h2 hg⟩

set_option maxRecDepth 20000 in
set_option maxHeartbeats 4000000 in
theorem markPlan_any (ls : List (List Int)) (l : List Int) (bs : List Bool) (rs : List (List OpT)) (B : Nat) (v : Value) (w0 w : World) (h0 : PlanO B w0 v ls l bs rs) (hb0 : Below w0.heap.size w0 w) (hB : B ≤ w0.heap.size) (hz : planZ ls l bs rs ≤ 1048576) :
    Calls Tryz.prog 33 #[v, .int .i64 1] w fun e w' => e = .returned (.int .i64 ((1 + markZ ls l bs rs : Nat) : Int)) ∧ OnlyB B w0.heap.size w w' := by
  obtain ⟨nv, ov, sv, rv, so, rfl, hg, hb, hr⟩ := h0
  unfold planZ at hz
  obtain ⟨an, cn, ao, co, he⟩ := hg.slices
  simp only [Value.agg.injEq, Array.mk.injEq, List.cons.injEq, and_true] at he
  obtain ⟨rfl, rfl⟩ := he
  obtain ⟨as0, cs, rfl⟩ := own_slice hb
  obtain ⟨ar, cr, rfl⟩ := own_slice hr.2.1
  obtain ⟨wa, hwa⟩ : ∃ wa, wa = w.alloc (.cells #[.slice an ls.length cn, .slice ao l.length co, .slice as0 bs.length cs, .slice ar rs.length cr] 30) := ⟨_, rfl⟩
  have P0 : Hid (Blk4 wa w.heap.size 30 (.slice an ls.length cn) (.slice ao l.length co) (.slice as0 bs.length cs) (.slice ar rs.length cr)) := by rw [hwa]; exact Blk4.new
  have hAw : Below w.heap.size w wa := by rw [hwa]; exact (Below.refl w.heap.size w).alloc (Nat.le_refl _) _
  have HA := Lib.hid hAw
  have H0A := Lib.hid (bth hb0 hAw (Nat.le_refl _))
  have hCw : w0.heap.size ≤ w.heap.size := hb0.size
  have HBO := Lib.hid (own_below hb H0A.out)
  have HRO := Lib.hid (hr.below H0A.out)
  have HRL := Lib.hid (fun p hp b h => ((hr.2.2.1 p hp).lt b h).2)
  have HBL := Lib.hid (fun b h => hb.lt b h)
  have HC := Lib.hid (markGraph_any ls l 1 B _ w0 wa hg H0A.out hB (by omega) (by omega))
  have hone : ((1 : Nat) : Int) = 1 := rfl
  rw [hone] at HC
  have htg : totalG ls l ≤ 1048576 := by unfold totalG; omega
  have HWA := Lib.hid hwa
  have HZ : Hid (1 + markZ ls l bs rs = 1 + totalG ls l + bs.length + 3 * totalO rs) := by show _ = _; unfold markZ; omega
  have HZ2 : Hid (1 + totalG ls l + bs.length + 3 * totalO rs ≤ 4000000 ∧ rs.length + totalO rs ≤ 1100000 ∧ bs.length ≤ 1100000) := ⟨by unfold totalG; omega, by omega, by omega⟩
  clear hwa hg hb hr hb0 hone hz
  go_enter Tryz.func33, Tryz.ntmps33
  go_wp2_with fail
  rw [← HWA.out]
  refine HC.out.mono ?_
  rintro e w1 ⟨rfl, _, hoi⟩
  have O1 := Lib.hid (OnlyB.of_only hoi)
  have P1 := Lib.hid (O1.out.blk4 P0.out hCw)
  have HB1 := Lib.hid (own_kept hoi (by decide) HBO.out)
  have HR1 := Lib.hid (HRO.out.kept hoi)
  have hs1 : w0.heap.size ≤ w1.heap.size := Nat.le_trans hCw (Nat.le_trans HA.out.size hoi.below.size)
  have HC1 := Lib.hid (markBoolS_any bs (1 + totalG ls l) B _ w1 HB1.out HZ2.out.2.2 (by omega))
  have c2 := P1.out.cells.2.2.1
  clear hoi HC
  go_wp2_with fail
  refine HC1.out.mono ?_
  rintro e w2 ⟨rfl, hg2⟩
  have O2 := Lib.hid (O1.out.trans (OnlyB.of_grown (B := B) (C := w0.heap.size) hg2 (fun i hi => HBL.out i hi) (Nat.le_trans hB hs1)))
  have P2 := Lib.hid ((OnlyB.of_grown (B := B) (C := w0.heap.size) hg2 (fun i hi => HBL.out i hi) (Nat.le_trans hB hs1)).blk4 P1.out hCw)
  have HR2 := Lib.hid (HR1.out.grown HB1.out (by decide) (by decide) hg2)
  have hs2 : w0.heap.size ≤ w2.heap.size := Nat.le_trans hs1 hg2.size
  have HC2 := Lib.hid (markOpSS_any rs (1 + totalG ls l + bs.length) B w0.heap.size _ so w2 HR2.out HRL.out (Nat.le_trans hB hs2) HZ2.out.2.1 HZ2.out.1 (by omega))
  have c3 := P2.out.cells.2.2.2
  clear hg2 HC1 c2
  go_wp2_with fail
  refine HC2.out.mono ?_
  rintro e w3 ⟨rfl, hg3⟩
  have O3 := Lib.hid ((OnlyB.of_below (B := B) (C := w0.heap.size) HA.out (Nat.le_trans hB hCw)).trans (O2.out.trans hg3))
  clear hg3 HC2 c3
  go_wp2_with fail
  go_ret
  exact ⟨by rw [HZ.out] <;> rfl, O3.out⟩
end Go.Proofs.YtngldlconipnnaaGreatDoor

/- Walks: the laws' helpers on the answers of chapters 7 and 8. -/
namespace Go.Proofs.YtngldlconipnnaaGreatDoor
open Go.RowKit Pth

/-- Results are told, and whether they stand. -/
def ResOk (R : List ResT) (ok : Bool) (w : World) (e : Ending) (w' : World) : Prop :=
  ∃ v, e = .returned (.tuple #[v, .bool ok]) ∧ w'.ownsRow w.heap.size 89 2 v R.length (RC R) ∧ Below w.heap.size w w'
/-- Results are told, a number, and whether they stand. -/
def ResNOk (R : List ResT) (n : Int) (ok : Bool) (w : World) (e : Ending) (w' : World) : Prop :=
  ∃ v, e = .returned (.tuple #[v, .int .i64 n, .bool ok]) ∧ w'.ownsRow w.heap.size 89 2 v R.length (RC R) ∧ Below w.heap.size w w'
/-- Numbers are told, and whether they stand. -/
def NumsOk (R : List Int) (ok : Bool) (w : World) (e : Ending) (w' : World) : Prop :=
  ∃ v, e = .returned (.tuple #[v, .bool ok]) ∧ w'.ownsRow w.heap.size 3 1 v R.length (I R) ∧ Below w.heap.size w w'
theorem marksR_at (k n j : Nat) (hj : j < (marksR k n).length) : (marksR k n)[j] = (markT (k + j * 2), ((k + j * 2 + 1 : Nat) : Int)) := by simp [marksR]
theorem heldRow_R {w : World} {B n : Nat} {v : Value} (h : w.ownsRow B 89 2 v n (RC (marksR 1 n))) : RowR w v (marksR 1 n) := RowR.of_own (by rw [marksR_len]; exact h)
theorem heldRow_I {w : World} {B n : Nat} {v : Value} (h : w.ownsRow B 3 1 v n (I (marks 1 n))) : RowV w v (I (marks 1 n)) := RowV.of_own h

set_option maxHeartbeats 1000000 in
theorem szStringS_le (l : List (List UInt8)) (left : Nat) (v : Value) (w : World) (hrow : RowV w v (S l)) (hx : ∀ x ∈ l, x.length ≤ maxLen) (hl : left ≤ 2000000) :
    Calls Tryz.prog 22 #[v, .int .i64 (left : Int)] w fun e w' => ∃ r : Int, e = .returned (.int .i64 r) ∧ r ≤ left ∧ (0 ≤ r → r + l.length ≤ left ∧ ∀ x ∈ l, x.length ≤ left) ∧ w = w' := by
  obtain ⟨a, cap, rfl, hc1, hc2, hat⟩ := hrow.texts
  clear hrow
  unfold maxLen at hc2 hx
  by_cases hlen : l.length ≤ left
  · have hlen1 : decide ((left : Int) - (l.length : Int) < 0) = false := by simp; omega
    go_enter Tryz.func22, Tryz.ntmps22
    go_wp2_with fail
    go_loop [1, 5] (fun q i => ∃ (k : Nat) (r : Int), k ≤ l.length ∧ 0 ≤ r ∧ r + l.length ≤ left ∧ q = .int .i64 r ∧ i = .int .i64 k ∧ Hid (∀ x ∈ l.take k, x.length ≤ left)) (fun _ i => l.length - (intOf i).toNat)
    case atStart => exact ⟨0, (left : Int) - (l.length : Int), Nat.zero_le _, by omega, by omega, rfl, rfl, by simp [Hid]⟩
    case round =>
      obtain ⟨k, r, hk, hr0, hr1, rfl, rfl, HO⟩ := hrel
      by_cases hlt : k < l.length
      · obtain ⟨g, o, rfl, hg, hcell⟩ := hat k hlt
        have hxl := hx l[k] (List.getElem_mem hlt)
        by_cases hy : ((l[k]).length : Int) ≤ r
        · have HS : Hid (∀ x ∈ l.take (k + 1), x.length ≤ left) := by
            intro x hxm
            rw [List.take_succ_eq_append_getElem hlt, List.mem_append, List.mem_singleton] at hxm
            rcases hxm with h | h
            · exact HO.out x h
            · rw [h]; omega
          have hy1 : decide (r - ((l[k]).length : Int) < 0) = false := by simp; omega
          generalize l[k] = x at hcell hxl hy hy1
          clear hat HO hx
          go_wp2_with fail
          go_round
          case rel => exact ⟨k + 1, r - (x.length : Int), by omega, by omega, by omega, rfl, by go_num, HS⟩
          case measure => simp [intOf]; omega
        · have hy1 : decide (r - ((l[k]).length : Int) < 0) = true := by simp; omega
          generalize l[k] = x at hcell hxl hy hy1
          clear hat HO hx
          go_wp2_with fail
          go_ret
          exact ⟨-1, rfl, by omega, fun h => by omega, rfl⟩
      · have HS : Hid (∀ x ∈ l, x.length ≤ left) := by have := HO.out; rw [List.take_of_length_le (by omega)] at this; exact this
        clear hat HO hx
        go_wp2_with fail
        go_ret
        exact ⟨r, rfl, by omega, fun _ => ⟨by omega, HS.out⟩, rfl⟩
  · have hlen1 : decide ((left : Int) - (l.length : Int) < 0) = true := by simp; omega
    clear hat hx
    go_enter Tryz.func22, Tryz.ntmps22
    go_wp2_with fail
    go_ret
    exact ⟨-1, rfl, by omega, fun h => by omega, rfl⟩


set_option maxHeartbeats 1000000 in
theorem markIntS_huge (l : List Int) (k : Nat) (B : Nat) (v : Value) (w : World) (hown : w.ownsRow B 3 1 v l.length (I l)) (hl : l.length ≤ 2000000) (hk : k ≤ 8000000) :
    Calls Tryz.prog 36 #[v, .int .i64 (k : Int)] w (Marked B v k l.length w) := by
  have HW := Lib.hid hown
  obtain ⟨a, cap, rfl⟩ := own_slice hown
  clear hown
  go_enter Tryz.func36, Tryz.ntmps36
  go_wp2_with fail
  go_loopw [1, 5] (fun q i wr => ∃ j : Nat, j ≤ l.length ∧ q = .int .i64 ((k : Int) + (j : Int)) ∧ i = .int .i64 j ∧ wr.ownsRow B 3 1 (.slice a l.length cap) l.length (I (marks k j) ++ (I l).drop j) ∧ w.grownBy wr (Value.slice a l.length cap).ownBlock) (fun _ i _ => l.length - (intOf i).toNat)
  case atStart => exact ⟨0, Nat.zero_le _, by simp, rfl, HW.out, grown_refl _ _⟩
  case round =>
    clear HW
    obtain ⟨j, hj, rfl, rfl, hown, hg⟩ := hrel
    by_cases hlt : j < l.length
    · obtain ⟨g, c2, hv⟩ : ∃ g c2, (Value.slice a l.length cap) = .slice (some ⟨g, 0, none⟩) l.length c2 := by
        rcases hown.2 with ⟨_, h0⟩ | ⟨g, c2, cur, hv, _⟩
        · omega
        · exact ⟨g, c2, hv⟩
      injection hv with hv1 hv2 hv3
      subst hv1
      have hfz := hown.frozenAt j
      have hcz : wr.cell? ⟨g, j, none⟩ = some (.int .i64 l[j]) := by rw [hown.cellAt j (by omega), mark_get k l j hlt]
      have hst := hown.stored j (.int .i64 ((k : Int) + (j : Int)))
      rw [mark_set k l j hlt] at hst
      have HN1 := Lib.hid hst.1
      have HG1 := Lib.hid (grown_trans hg hst.2)
      have hc4 : l.length ≤ cap := by
        rcases hown.2 with ⟨_, h0⟩ | ⟨g, c2, cur, hv, _, _, h5, _⟩
        · omega
        · injection hv with _ _ hv3; omega
      clear hown hg hst hv2 hv3
      generalize l[j] = x at hcz
      go_wp2_with fail
      go_roundw
      case rel => exact ⟨j + 1, by omega, by go_num, by go_num, HN1.out, HG1.out⟩
      case measure => simp [intOf]; omega
    · obtain rfl : j = l.length := by omega
      have e : (I l).drop l.length = [] := List.drop_of_length_le (by rw [I_len]; omega)
      rw [e, List.append_nil] at hown
      have HN := Lib.hid hown
      have HG := Lib.hid hg
      clear hown hg e
      go_wp2_with fail
      go_ret
      exact ⟨rfl, HN.out, HG.out⟩


set_option maxRecDepth 20000 in
set_option maxHeartbeats 1000000 in
theorem heldResultS_any (k n : Nat) (v : Value) (w : World) (hrow : RowR w v (marksR k n)) (hn : n ≤ 1100000) (hk : k ≤ 4000000) (hk1 : 1 ≤ k) :
    Calls Tryz.prog 37 #[v, .int .i64 (k : Int)] w fun e w' => e = .returned (.int .i64 ((k : Int) + (n : Int) * 2)) ∧ Below w.heap.size w w' := by
  obtain ⟨a, cap, rfl, hc1, hc2, hat⟩ := hrow.res
  rw [marksR_len] at hc1 ⊢
  clear hrow
  unfold maxLen at hc2
  go_enter Tryz.func37, Tryz.ntmps37
  go_wp2_with fail
  go_loopw [1, 5] (fun q i wr => ∃ j : Nat, j ≤ n ∧ q = .int .i64 ((k : Int) + (j : Int) * 2) ∧ i = .int .i64 j ∧ Below w.heap.size w wr) (fun _ i _ => n - (intOf i).toNat)
  case atStart => exact ⟨0, Nat.zero_le _, by simp, rfl, Below.refl _ _⟩
  case round =>
    obtain ⟨j, hj, rfl, rfl, hb⟩ := hrel
    by_cases hlt : j < n
    · obtain ⟨g, o, rfl, hg, hcell0, hcell1⟩ := hat j (by rw [marksR_len]; exact hlt)
      rw [marksR_at] at hcell0 hcell1
      have s0 : wr.cell? ⟨g, o + j * 2, none⟩ = some (.string ⟨(markT (k + j * 2)).toArray⟩) := by rw [hb.cell (p := ⟨g, o + j * 2, none⟩) hg]; exact hcell0
      have ec : ((k + j * 2 + 1 : Nat) : Int) = (k : Int) + (j : Int) * 2 + 1 := by omega
      have s1 : wr.cell? ⟨g, o + j * 2 + 1, none⟩ = some (.int .i64 ((k : Int) + (j : Int) * 2 + 1)) := by rw [hb.cell (p := ⟨g, o + j * 2 + 1, none⟩) hg, hcell1, ← ec]
      have hgw : g < wr.heap.size := by have := hb.size; omega
      have HC := Lib.hid (fun W => mark_r (k + j * 2) ((k : Int) + (j : Int) * 2) (by omega) (by omega) (by omega) W)
      have HB := Lib.hid hb
      have hj1 : (j : Int) < (n : Int) := by omega
      clear hcell0 hcell1 hat hb ec
      generalize markT (k + j * 2) = y at s0 HC
      have ks := And.intro s0 s1
      go_wp2_with fail
      go_region_held3 (fun w' => w'.cell? ⟨g, o + j * 2, none⟩ = some (.string ⟨y.toArray⟩) ∧ w'.cell? ⟨g, o + j * 2 + 1, none⟩ = some (.int .i64 ((k : Int) + (j : Int) * 2 + 1))) (first | exact ks | exact k0)
        (first | (go_at_call 96; refine (HC.out _).mono ?_; rintro e w5 ⟨rfl, hb5⟩; have k0 := And.intro ((hb5.cell (p := ⟨g, o + j * 2, none⟩) hgw).trans ks.1) ((hb5.cell (p := ⟨g, o + j * 2 + 1, none⟩) hgw).trans ks.2)))
      have s1 := k0.2
      have HB5 := Lib.hid ((Below.drew HB.out).trans (hb5.mono HB.out.size))
      clear hb5 k0 ks
      go_wp2_with fail
      go_roundw
      case rel => exact ⟨j + 1, by omega, by go_num, by go_num, HB5.out⟩
      case measure => simp [intOf]; omega
    · obtain rfl : j = n := by omega
      have HB := Lib.hid hb
      clear hat hb
      go_wp2_with fail
      go_ret
      exact ⟨rfl, HB.out⟩

end Go.Proofs.YtngldlconipnnaaGreatDoor

/- Walks: builds, of the reference and of the program. -/
namespace Go.Proofs.YtngldlconipnnaaGreatDoor
open Go.RowKit Pth

theorem RC_set2 (m : List ResT) (y : Nat) (hy : y < m.length) (r : ResT) : ((RC m).set (y * 2) (.string ⟨r.1.toArray⟩)).set (y * 2 + 1) (.int .i64 r.2) = RC (m.set y r) := by
  have e : m = m.take y ++ m[y] :: m.drop (y + 1) := by rw [← List.drop_eq_getElem_cons hy, List.take_append_drop]
  have hl : (m.take y).length = y := by rw [List.length_take]; omega
  have h := set_two (m.take y) y hl m[y] (m.drop (y + 1)) r
  have e2 : m.set y r = m.take y ++ r :: m.drop (y + 1) := by
    rw [List.set_eq_take_append_cons_drop, if_pos hy]
  rw [e2]
  conv => lhs; rw [e]
  rw [RC_append, h, RC_append, RC_append, List.append_assoc]; rfl
/-- A result that is stored in a row of the call's own. -/
theorem own_setR {w : World} {B g c n y : Nat} {m : List ResT} (h : w.ownsRow B 89 2 (.slice (some ⟨g, 0, none⟩) n c) n (RC m)) (hy : y < m.length) (r : ResT) :
    ((w.setCell ⟨g, y * 2, none⟩ (.string ⟨r.1.toArray⟩)).setCell ⟨g, y * 2 + 1, none⟩ (.int .i64 r.2)).ownsRow B 89 2 (.slice (some ⟨g, 0, none⟩) n c) n (RC (m.set y r)) ∧
    w.grownBy ((w.setCell ⟨g, y * 2, none⟩ (.string ⟨r.1.toArray⟩)).setCell ⟨g, y * 2 + 1, none⟩ (.int .i64 r.2)) (some g) := by
  have h1 := h.stored (y * 2) (.string ⟨r.1.toArray⟩)
  have h2 := h1.1.stored (y * 2 + 1) (.int .i64 r.2)
  rw [RC_set2 m y hy r] at h2
  exact ⟨h2.1, grown_trans h1.2 h2.2⟩
/-- The cells of a result in a row of the call's own. -/
theorem own_atR {w : World} {B g c n y : Nat} {m : List ResT} (h : w.ownsRow B 89 2 (.slice (some ⟨g, 0, none⟩) n c) n (RC m)) (hm : m.length = n) (hy : y < m.length) :
    w.cell? ⟨g, y * 2, none⟩ = some (.string ⟨m[y].1.toArray⟩) ∧ w.cell? ⟨g, y * 2 + 1, none⟩ = some (.int .i64 m[y].2) ∧ w.frozen? ⟨g, y * 2, none⟩ = false ∧ w.frozen? ⟨g, y * 2 + 1, none⟩ = false := by
  obtain ⟨q0, q1⟩ := RC_at hy
  exact ⟨by rw [h.cellAt (y * 2) (by omega), q0], by rw [h.cellAt (y * 2 + 1) (by omega), q1], h.frozenAt _, h.frozenAt _⟩
theorem RowR.of_ownL {w : World} {B n : Nat} {v : Value} {l : List ResT} (h : w.ownsRow B 89 2 v n (RC l)) (hl : l.length = n) : RowR w v l := RowR.of_own (by rw [hl]; exact h)
theorem build_short (ls : List (List Int)) (l : List Int) (bs : List Bool) (rs : List (List OpT)) (ts : List (List UInt8)) : (buildA ls l bs rs ts).length ≤ 1000000 := by
  unfold buildA
  split
  · rename_i h
    have h1 := (src_parts h).1
    have h2 := (plan_parts h1).2.1
    have h3 := (plan_parts h1).1.high
    unfold buildM
    rw [pass_len]
    simp
    omega
  · simp
theorem none_ownR (w : World) (B : Nat) : w.ownsRow B 89 2 (.slice none 0 0) ([] : List ResT).length (RC []) := ⟨rfl, .inl ⟨rfl, rfl⟩⟩

set_option maxRecDepth 20000 in
set_option maxHeartbeats 8000000 in
theorem implBuildAll_any (ls : List (List Int)) (l : List Int) (bs : List Bool) (rs : List (List OpT)) (ts : List (List UInt8)) (v x : Value) (w : World) (hp : PlanV w v ls l bs rs) (hts : RowV w x (S ts)) (hx : ∀ l ∈ rs, ∀ f ∈ l, f.2.2.length ≤ maxLen) (hxt0 : ∀ x ∈ ts, x.length ≤ maxLen) :
    Calls Tryz.prog 15 #[v, x] w (ResOk (buildA ls l bs rs ts) (srcA ls l bs rs ts) w) := by
  have HV := Lib.hid hp
  obtain ⟨nv, ov, sv, rv, rfl, h1, h2, h3, h4⟩ := hp
  obtain ⟨as0, cs, rfl, hs1, hs2, _⟩ := h3.boolsW
  obtain ⟨an, cn, rfl, hn1, hn2, _⟩ := h1.lists
  obtain ⟨ao, co, rfl, ho1, ho2, hato⟩ := h2.ints
  obtain ⟨ar, cr, rfl, hr1, hr2, _⟩ := h4.lists
  clear h1 h2 h3 h4
  have HT := Lib.hid hts
  obtain ⟨at0, ct, rfl, ht1, ht2, _⟩ := hts.texts
  clear hts
  unfold maxLen at hs2 hn2 ho2 hr2 ht2
  obtain ⟨wa, hwa⟩ : ∃ wa, wa = w.alloc (.cells #[.slice an ls.length cn, .slice ao l.length co, .slice as0 bs.length cs, .slice ar rs.length cr] 30) := ⟨_, rfl⟩
  have hsz : w.heap.size < wa.heap.size := by rw [hwa]; simp
  have P0 : Hid (Blk4 wa w.heap.size 30 (.slice an ls.length cn) (.slice ao l.length co) (.slice as0 bs.length cs) (.slice ar rs.length cr)) := by rw [hwa]; exact Blk4.new
  have HA : Hid (Below w.heap.size w wa) := by rw [hwa]; exact (Below.refl w.heap.size w).alloc (Nat.le_refl _) _
  have HWA : Hid (w.alloc (.cells #[.slice an ls.length cn, .slice ao l.length co, .slice as0 bs.length cs, .slice ar rs.length cr] 30) = wa) := by rw [hwa]; rfl
  clear hwa
  have HS := Lib.hid (implSrc_any ls l bs rs ts _ _ wa (HV.out.below HA.out) (HT.out.below HA.out) hx hxt0)
  obtain ⟨b, hb⟩ : ∃ b, srcA ls l bs rs ts = b := ⟨_, rfl⟩
  rcases b with _ | _
  · have HE : Hid (buildA ls l bs rs ts = []) := by show _ = _; unfold buildA; rw [hb]; rfl
    rw [HE.out]
    rw [hb] at HS ⊢
    obtain ⟨c0, c1, c2, c3⟩ := P0.out.cells
    clear hb HE hx hxt0 hato
    go_enter Tryz.func15, Tryz.ntmps15
    go_wp2_with fail
    rw [HWA.out]
    refine HS.out.mono ?_
    rintro e w1 ⟨rfl, hb1⟩
    have HW1 := Lib.hid (bth HA.out hb1 (Nat.le_refl _))
    clear hb1 c0 c1 c2 c3 HS
    go_wp2_with fail
    go_ret2
    exact ⟨_, rfl, none_ownR _ _, HW1.out⟩
  have HE : Hid (buildA ls l bs rs ts = buildM ls l bs rs ts) := by show _ = _; unfold buildA; rw [hb]; rfl
  rw [HE.out]
  have hsrc := hb
  rw [hb] at HS ⊢
  have hpl := (src_parts hsrc).1
  have htb := (src_parts hsrc).2.1
  have hbl := (plan_parts hpl).2.1
  have hG := (plan_parts hpl).1
  have hlo := hG.same
  have hhi := hG.high
  have hxt := src_len hsrc
  have HIN : Hid (∀ k (hk : k < l.length), 0 ≤ l[k] ∧ l[k] < (ls.length : Int)) := fun k hk => by have := hG.tasks _ (List.getElem_mem hk); omega
  obtain ⟨MK, hMK⟩ : ∃ MK : Nat → List ResT, MK = fun k => (passM (oneM ls bs rs ts) (fun _ _ => true) (l.take k) (List.replicate bs.length noRes, [])).1 := ⟨_, rfl⟩
  have HML : Hid (∀ k, (MK k).length = bs.length) := fun k => by rw [hMK]; simp only; rw [pass_len]; simp
  have HMS : Hid (∀ k, Sml (MK k)) := fun k => by rw [hMK]; exact pass_sml _ _ (fun _ _ => oneM_len hxt) _ _ (sml_none _)
  have HMN : Hid (∀ k (hk : k < l.length), MK (k + 1) = (MK k).set l[k].toNat (oneM ls bs rs ts (MK k) l[k].toNat)) := fun k hk => by rw [hMK]; exact build_next hk _
  have HM0 : Hid (MK 0 = List.replicate bs.length noRes) := by rw [hMK]; rfl
  have HMZ : Hid (MK l.length = buildM ls l bs rs ts) := by rw [hMK]; show _ = _; simp only [List.take_length]; rfl
  rw [← HMZ.out]
  have HATO := Lib.hid hato
  have HBL := Lib.hid hbl
  have HTB := Lib.hid htb
  have hbn : bs.length ≤ 10 := by omega
  have HC : Hid (∀ W M z (y : Nat), Below w.heap.size w W → RowR W z M → M.length = bs.length → Sml M → y < ls.length → Calls Tryz.prog 63 #[.agg #[.slice an ls.length cn, .slice ao l.length co, .slice as0 bs.length cs, .slice ar rs.length cr], .slice at0 ts.length ct, z, .int .i64 (y : Int)] W fun e w' => e = .returned (resV (oneM ls bs rs ts M y)) ∧ Below W.heap.size W w') := fun W M z y h1 h2 h3 h4 h5 => implOne_any ls l bs rs M ts y _ _ _ W (HV.out.below h1) h2 (HT.out.below h1) hpl h3 htb h5 h4 hxt
  obtain ⟨c0, c1, c2, c3⟩ := P0.out.cells
  clear hMK hpl hG hlo hhi hxt hsrc hbl htb hato hb HE hx hxt0
  go_enter Tryz.func15, Tryz.ntmps15
  go_wp2_with fail
  rw [HWA.out]
  refine HS.out.mono ?_
  rintro e w1 ⟨rfl, hb1⟩
  have KB1 := Lib.hid hb1
  have sz1 := hb1.size
  obtain ⟨w0, hmk0, hown0, hb0⟩ := make_rowR bs.length w1 (by omega)
  have hmk : (Instr.makeSlice 35 (.int .i64 (ts.length : Int)) (.int .i64 (ts.length : Int))).run Tryz.prog w1 = .ok (.slice (some ⟨w1.heap.size, 0, none⟩) bs.length bs.length) w0 := by rw [HTB.out]; exact hmk0
  have HN0 := Lib.hid (own_baseG hown0 sz1)
  have HB0 := Lib.hid (bth KB1.out hb0 (Nat.le_refl _))
  clear c0 c1 c2 c3 HS hown0 hb0 hb1 hmk0
  obtain ⟨c0, c1, c2, c3⟩ := (P0.out.below HB0.out hsz).cells
  go_wp2_with fail
  clear hmk c0 c1 c2 c3
  go_loopw [20] (fun i wr => ∃ k : Nat, k ≤ l.length ∧ i = .int .i64 k ∧ Hid (Below wa.heap.size wa wr) ∧ Hid (wr.ownsRow wa.heap.size 89 2 (.slice (some ⟨w1.heap.size, 0, none⟩) bs.length bs.length) bs.length (RC (MK k)))) (fun i _ => l.length - (intOf i).toNat)
  case atStart => exact ⟨0, Nat.zero_le _, rfl, HB0, by rw [HM0.out]; exact HN0⟩
  case round =>
    clear HN0 HB0
    obtain ⟨k, hk, rfl, HB, HN⟩ := hrel
    have HBW := Lib.hid (bth HA.out HB.out (Nat.le_refl _))
    by_cases hlt : k < l.length
    · obtain ⟨g, o, rfl, hg, hcell0⟩ := HATO.out k hlt
      have hcell := (HBW.out.cell (p := ⟨g, o + k, none⟩) hg).trans hcell0
      obtain ⟨hx0, hx1⟩ := HIN.out k hlt
      have hnext := HMN.out k hlt
      obtain ⟨y, hy⟩ : ∃ y : Nat, l[k] = y := ⟨(l[k]).toNat, by omega⟩
      have hyl : y < ls.length := by omega
      have hyb : y < bs.length := by have := HBL.out; omega
      rw [hy, Int.toNat_natCast] at hnext
      rw [hy] at hcell
      have hml := HML.out k
      have hms := HMS.out k
      have HNX := Lib.hid hnext
      clear hcell0 hx0 hx1 hy HATO HIN HMN hnext
      have HCK := Lib.hid (HC.out wr (MK k) _ y HBW.out (RowR.of_ownL HN.out hml) hml hms hyl)
      have hyz : (y : Int) < (bs.length : Int) := by omega
      obtain ⟨c0, c1, c2, c3⟩ := (P0.out.below HB.out hsz).cells
      clear HC
      generalize MK k = M at *
      generalize oneM ls bs rs ts M y = R at *
      obtain ⟨r1, r2⟩ := R
      have hgd : y < M.length := by omega
      unfold resV at HCK
      simp only at HCK
      go_wp2_with fail
      refine HCK.out.mono ?_
      rintro e w2 ⟨rfl, hb1⟩
      clear c0 c1 c2 c3 HCK hcell
      have HN1 := Lib.hid (own_belowG HN.out hb1)
      have HB1 := Lib.hid (bth HB.out hb1 (Nat.le_refl _))
      obtain ⟨d0, d1, f0, f1⟩ := own_atR HN1.out hml (by omega : y < M.length)
      have hst := own_setR HN1.out (by omega : y < M.length) (r1, r2)
      rw [← HNX.out] at hst
      have HN2 := Lib.hid hst.1
      have HB2 := Lib.hid (HB1.out.trans (only_below hst.2 sz1 HB1.out.size))
      clear hst hb1 HN HN1 HNX
      generalize M[y].1 = z1 at d0
      generalize M[y].2 = z2 at d1
      go_wp2_with fail
      go_roundw
      case rel => exact ⟨k + 1, by omega, by go_num, HB2, HN2⟩
      case measure => simp [intOf]; omega
    · obtain rfl : k = l.length := by omega
      clear HATO HIN HMN HC
      go_wp2_with fail
      go_ret2
      exact ⟨_, rfl, by rw [HML.out]; exact own_baseG HN.out HA.out.size, HBW.out⟩

end Go.Proofs.YtngldlconipnnaaGreatDoor

/- Walks: what is stale, of the reference. -/
namespace Go.Proofs.YtngldlconipnnaaGreatDoor
open Go.RowKit Pth

/-- Plans, results and bodies as said. -/
noncomputable def goodA8 (ls : List (List Int)) (l : List Int) (bs : List Bool) (rs : List (List OpT)) (m : List ResT) (ts : List (List UInt8)) : Bool := bothA ls l bs rs m && srcA ls l bs rs ts
theorem good8_parts {ls : List (List Int)} {l : List Int} {bs : List Bool} {rs : List (List OpT)} {m : List ResT} {ts : List (List UInt8)} (h : goodA8 ls l bs rs m ts = true) :
    planA ls l bs rs = true ∧ m.length = bs.length ∧ ts.length = bs.length ∧ Sml m ∧ (∀ y ∈ ts, y.length ≤ 40) ∧ srcA ls l bs rs ts = true ∧ bothA ls l bs rs m = true := by
  unfold goodA8 at h
  rw [Bool.and_eq_true] at h
  obtain ⟨h1, h2, h3⟩ := both_parts h.1
  exact ⟨h1, h3, (src_parts h.2).2.1, res_len h2, src_len h.2, h.2, h.1⟩
/-- Those ahead of one that are not what they would be. -/
def staleK (one : List ResT → Nat → ResT) (m : List ResT) (k : Nat) : List Int := ((List.range k).filter (fun j => decide (one m j ≠ m.getD j noRes))).map (fun j : Nat => (j : Int))
theorem staleK_all (one : List ResT → Nat → ResT) (m : List ResT) : staleK one m m.length = staleL one m := rfl
theorem staleK_len (one : List ResT → Nat → ResT) (m : List ResT) (k : Nat) : (staleK one m k).length ≤ k := by
  unfold staleK; rw [List.length_map]; exact Nat.le_trans (List.length_filter_le _ _) (by simp)
theorem staleK_yes {one : List ResT → Nat → ResT} {m : List ResT} {k : Nat} (hk : k < m.length) (h : one m k ≠ m[k]) : staleK one m (k + 1) = staleK one m k ++ [(k : Int)] := by
  unfold staleK
  have e : decide (one m k ≠ m.getD k noRes) = true := by rw [getD_at _ hk]; simpa using h
  rw [List.range_succ, List.filter_append, List.map_append, List.filter_cons, e]
  rfl
theorem staleK_no {one : List ResT → Nat → ResT} {m : List ResT} {k : Nat} (hk : k < m.length) (h : one m k = m[k]) : staleK one m (k + 1) = staleK one m k := by
  unfold staleK
  have e : decide (one m k ≠ m.getD k noRes) = false := by rw [getD_at _ hk]; simpa using h
  rw [List.range_succ, List.filter_append, List.map_append, List.filter_cons, e]
  simp
noncomputable def staleA (ls : List (List Int)) (l : List Int) (bs : List Bool) (rs : List (List OpT)) (m : List ResT) (ts : List (List UInt8)) : List Int :=
  if goodA8 ls l bs rs m ts then staleL (oneM ls bs rs ts) m else []
theorem stale_short (ls : List (List Int)) (l : List Int) (bs : List Bool) (rs : List (List OpT)) (m : List ResT) (ts : List (List UInt8)) : (staleA ls l bs rs m ts).length ≤ 1000000 := by
  unfold staleA
  split
  · rename_i h
    obtain ⟨h1, h2, _⟩ := good8_parts h
    have h3 := (plan_parts h1).2.1
    have h4 := (plan_parts h1).1.high
    have := staleK_len (oneM ls bs rs ts) m m.length
    rw [staleK_all] at this
    omega
  · simp

set_option maxRecDepth 20000 in
set_option maxHeartbeats 8000000 in
theorem specGood8_b {ls : List (List Int)} {l : List Int} {bs : List Bool} {rs : List (List OpT)} {m : List ResT} {ts : List (List UInt8)} {b : Bool} (h : goodA8 ls l bs rs m ts = b) (v u x : Value) (w : World) (hp : PlanV w v ls l bs rs) (hr : RowR w u m) (hts : RowV w x (S ts)) (hx : ∀ l ∈ rs, ∀ f ∈ l, f.2.2.length ≤ maxLen) (hxm : ∀ f ∈ m, f.1.length ≤ maxLen) (hxt : ∀ x ∈ ts, x.length ≤ maxLen) :
    Calls Tryz.prog 75 #[v, u, x] w (BoolPost b w) := by
  have HV := Lib.hid hp
  obtain ⟨nv, ov, sv, rv, rfl, h1, h2, h3, h4⟩ := hp
  obtain ⟨as0, cs, rfl, hs1, hs2, _⟩ := h3.boolsW
  obtain ⟨an, cn, rfl, hn1, hn2, _⟩ := h1.lists
  obtain ⟨ao, co, rfl, ho1, ho2, _⟩ := h2.ints
  obtain ⟨ar, cr, rfl, hr1, hr2, _⟩ := h4.lists
  clear h1 h2 h3 h4
  have HR := Lib.hid hr
  obtain ⟨am, cm, rfl, hm1, hm2, _⟩ := hr.res
  clear hr
  have HT := Lib.hid hts
  obtain ⟨at0, ct, rfl, ht1, ht2, _⟩ := hts.texts
  clear hts
  unfold maxLen at hs2 hn2 ho2 hr2 hm2 ht2
  obtain ⟨wa, hwa⟩ : ∃ wa, wa = w.alloc (.cells #[.slice an ls.length cn, .slice ao l.length co, .slice as0 bs.length cs, .slice ar rs.length cr] 30) := ⟨_, rfl⟩
  have hsz : w.heap.size < wa.heap.size := by rw [hwa]; simp
  have P0 : Hid (Blk4 wa w.heap.size 30 (.slice an ls.length cn) (.slice ao l.length co) (.slice as0 bs.length cs) (.slice ar rs.length cr)) := by rw [hwa]; exact Blk4.new
  have HA : Hid (Below w.heap.size w wa) := by rw [hwa]; exact (Below.refl w.heap.size w).alloc (Nat.le_refl _) _
  have HWA : Hid (w.alloc (.cells #[.slice an ls.length cn, .slice ao l.length co, .slice as0 bs.length cs, .slice ar rs.length cr] 30) = wa) := by rw [hwa]; rfl
  clear hwa
  obtain ⟨a, ha⟩ : ∃ a, bothA ls l bs rs m = a := ⟨_, rfl⟩
  obtain ⟨c, hc⟩ : ∃ c, srcA ls l bs rs ts = c := ⟨_, rfl⟩
  have HB : Hid (b = (a && c)) := by show _ = _; rw [← h]; unfold goodA8; rw [ha, hc]
  have HC := Lib.hid (specBoth_b ha _ _ wa (HV.out.below HA.out) (HR.out.below HA.out) hx hxm)
  have HS := Lib.hid (fun W (hb : Below w.heap.size w W) => specSrc_any ls l bs rs ts _ _ W (HV.out.below hb) (HT.out.below hb) hx hxt)
  rw [hc] at HS
  obtain ⟨c0, c1, c2, c3⟩ := P0.out.cells
  clear h ha hc hx hxm hxt
  go_enter Tryz.func75, Tryz.ntmps75
  go_wp2_with fail
  rw [HWA.out]
  refine HC.out.mono ?_
  rintro e w1 ⟨rfl, hb1⟩
  have HB1 := Lib.hid hb1
  have HW1 := Lib.hid (bth HA.out hb1 (Nat.le_refl _))
  clear hb1 c0 c1 c2 c3 HC
  rcases a with _ | _
  · go_wp2_with fail
    go_ret
    exact ⟨by rw [HB.out] <;> rfl, HW1.out⟩
  · obtain ⟨c0, c1, c2, c3⟩ := (P0.out.below HB1.out hsz).cells
    go_wp2_with fail
    refine (HS.out w1 HW1.out).mono ?_
    rintro e w2 ⟨rfl, hb2⟩
    have HW2 := Lib.hid (bth HW1.out hb2 (Nat.le_refl _))
    clear hb2 c0 c1 c2 c3
    go_wp2_with fail
    go_ret
    exact ⟨by rw [HB.out] <;> rfl, HW2.out⟩

set_option maxRecDepth 20000 in
set_option maxHeartbeats 8000000 in
theorem specStale_any (ls : List (List Int)) (l : List Int) (bs : List Bool) (rs : List (List OpT)) (m : List ResT) (ts : List (List UInt8)) (v u x : Value) (w : World) (hp : PlanV w v ls l bs rs) (hr : RowR w u m) (hts : RowV w x (S ts)) (hpl : planA ls l bs rs = true) (hmb : m.length = bs.length) (htb : ts.length = bs.length) (hxm : Sml m) (hxt : ∀ y ∈ ts, y.length ≤ 40) :
    Calls Tryz.prog 98 #[v, u, x] w (IntsPost w.heap.size (staleL (oneM ls bs rs ts) m) w) := by
  have hbl := (plan_parts hpl).2.1
  have hhi := (plan_parts hpl).1.high
  have HV := Lib.hid hp
  obtain ⟨nv, ov, sv, rv, rfl, h1, h2, h3, h4⟩ := hp
  obtain ⟨as0, cs, rfl, hs1, hs2, _⟩ := h3.boolsW
  obtain ⟨an, cn, rfl, hn1, hn2, _⟩ := h1.lists
  obtain ⟨ao, co, rfl, ho1, ho2, _⟩ := h2.ints
  obtain ⟨ar, cr, rfl, hr1, hr2, _⟩ := h4.lists
  clear h1 h2 h3 h4
  have HR := Lib.hid hr
  obtain ⟨am, cm, rfl, hm1, hm2, hatm⟩ := hr.res
  clear hr
  have HT := Lib.hid hts
  obtain ⟨at0, ct, rfl, ht1, ht2, _⟩ := hts.texts
  clear hts
  unfold maxLen at hs2 hn2 ho2 hr2 hm2 ht2
  obtain ⟨wa, hwa⟩ : ∃ wa, wa = w.alloc (.cells #[.slice an ls.length cn, .slice ao l.length co, .slice as0 bs.length cs, .slice ar rs.length cr] 30) := ⟨_, rfl⟩
  have hsz : w.heap.size < wa.heap.size := by rw [hwa]; simp
  have P0 : Hid (Blk4 wa w.heap.size 30 (.slice an ls.length cn) (.slice ao l.length co) (.slice as0 bs.length cs) (.slice ar rs.length cr)) := by rw [hwa]; exact Blk4.new
  have HA : Hid (Below w.heap.size w wa) := by rw [hwa]; exact (Below.refl w.heap.size w).alloc (Nat.le_refl _) _
  have HWA : Hid (w.alloc (.cells #[.slice an ls.length cn, .slice ao l.length co, .slice as0 bs.length cs, .slice ar rs.length cr] 30) = wa) := by rw [hwa]; rfl
  clear hwa
  have HATM := Lib.hid hatm
  have HO : Hid (∀ W (y : Nat), Below w.heap.size w W → y < m.length → Calls Tryz.prog 79 #[.agg #[.slice an ls.length cn, .slice ao l.length co, .slice as0 bs.length cs, .slice ar rs.length cr], .slice am m.length cm, .slice at0 ts.length ct, .int .i64 (y : Int)] W fun e w' => e = .returned (resV (oneM ls bs rs ts m y)) ∧ Below W.heap.size W w') := fun W y h1 h2 => specOne_any ls l bs rs m ts y _ _ _ W (HV.out.below h1) (HR.out.below h1) (HT.out.below h1) hpl hmb htb (by omega) hxm hxt
  have hm10 : m.length ≤ 10 := by omega
  have HEND := Lib.hid (staleK_all (oneM ls bs rs ts) m)
  rw [← HEND.out]
  obtain ⟨one, hone⟩ : ∃ one, one = oneM ls bs rs ts := ⟨_, rfl⟩
  rw [← hone] at HO HEND ⊢
  obtain ⟨c0, c1, c2, c3⟩ := P0.out.cells
  clear hatm hpl hmb htb hxm hxt hone hbl hhi
  go_enter Tryz.func98, Tryz.ntmps98
  go_wp2_with fail
  rw [HWA.out]
  clear c0 c1 c2 c3
  go_loopw [7, 11] (fun q i wr => ∃ k : Nat, k ≤ m.length ∧ i = .int .i64 k ∧ Hid (Below wa.heap.size wa wr) ∧ Hid (wr.ownsRow wa.heap.size 3 1 q (staleK one m k).length (I (staleK one m k)))) (fun _ i _ => m.length - (intOf i).toNat)
  case atStart => exact ⟨0, Nat.zero_le _, rfl, Below.refl _ _, none_own _ _ _⟩
  case round =>
    obtain ⟨k, hk, rfl, HB, HN⟩ := hrel
    have HBW := Lib.hid (bth HA.out HB.out (Nat.le_refl _))
    have hkl := staleK_len one m k
    by_cases hlt : k < m.length
    · obtain ⟨g2, o2, rfl, hg2, hm1', hm2'⟩ := HATM.out k hlt
      have s1 := (HBW.out.cell (p := ⟨g2, o2 + k * 2, none⟩) hg2).trans hm1'
      have s2 := (HBW.out.cell (p := ⟨g2, o2 + k * 2 + 1, none⟩) hg2).trans hm2'
      have hkz : (k : Int) < (m.length : Int) := by omega
      have hkb : (0 : Int) ≤ (k : Int) := by omega
      have hszr : wa.heap.size ≤ wr.heap.size := HB.out.size
      have hltp : w.heap.size < wr.heap.size := by omega
      have hltg : g2 < wr.heap.size := by omega
      have HCK := Lib.hid (fun W (h : Below w.heap.size w W) => HO.out W k h hlt)
      have HY := Lib.hid (fun h => staleK_yes (one := one) hlt h)
      have HNO := Lib.hid (fun h => staleK_no (one := one) hlt h)
      clear hm1' hm2' HATM HO
      generalize m[k] = q at *
      generalize one m k = R at *
      generalize staleK one m k = acc at *
      obtain ⟨q1, q2⟩ := q
      obtain ⟨r1, r2⟩ := R
      simp only at s1 s2
      unfold resV at HCK
      simp only at HCK
      have PD : Hid (Blk4 wr.drew w.heap.size 30 (.slice an ls.length cn) (.slice ao l.length co) (.slice as0 bs.length cs) (.slice ar rs.length cr)) := P0.out.below (Below.drew HB.out) hsz
      have SD : Hid (wr.drew.cell? ⟨g2, o2 + k * 2, none⟩ = some (.string ⟨q1.toArray⟩) ∧ wr.drew.cell? ⟨g2, o2 + k * 2 + 1, none⟩ = some (.int .i64 q2)) := ⟨s1, s2⟩
      have HBD := Lib.hid (Below.drew HBW.out)
      have HND : Hid (wr.drew.ownsRow wa.heap.size 3 1 _ acc.length (I acc)) := own_below HN.out (Below.drew (Below.refl _ _))
      have hIl : (I acc).length ≤ 1000000 := by rw [I_len]; omega
      have ks := And.intro PD.out.cells SD.out
      clear s1 s2
      by_cases he1 : r1 = q1
      · by_cases he2 : r2 = q2
        · subst he1 he2
          have HE := Lib.hid (HNO.out rfl)
          go_wp2_with fail
          go_region_held3 (fun w' => (w'.cell? ⟨w.heap.size, 0, none⟩ = some (.slice an ls.length cn) ∧ w'.cell? ⟨w.heap.size, 1, none⟩ = some (.slice ao l.length co) ∧ w'.cell? ⟨w.heap.size, 2, none⟩ = some (.slice as0 bs.length cs) ∧ w'.cell? ⟨w.heap.size, 3, none⟩ = some (.slice ar rs.length cr)) ∧ (w'.cell? ⟨g2, o2 + k * 2, none⟩ = some (.string ⟨r1.toArray⟩) ∧ w'.cell? ⟨g2, o2 + k * 2 + 1, none⟩ = some (.int .i64 r2))) (first | exact ks)
            (first
              | (go_at_call 79; refine (HCK.out _ (by exact HBD.out)).mono ?_; rintro e w8 ⟨rfl, hb8⟩
                 have ks := And.intro (PD.out.below hb8 hltp).cells (And.intro ((hb8.cell (p := ⟨g2, o2 + k * 2, none⟩) hltg).trans SD.out.1) ((hb8.cell (p := ⟨g2, o2 + k * 2 + 1, none⟩) hltg).trans SD.out.2))
                 have C8 := Lib.hid hb8
                 clear hb8))
          all_goals
            have HB8 := Lib.hid (Below.drew HB.out |>.trans (C8.out.mono hszr))
            have HN8 := Lib.hid (own_below HND.out C8.out)
            clear ks
            go_wp2_with fail
            go_roundw
            case rel => exact ⟨k + 1, by omega, by go_num, HB8, by rw [HE.out]; exact HN8.out⟩
            case measure => simp [intOf]; omega
        · subst he1
          have HE := Lib.hid (HY.out (by simp [he2]))
          go_wp2_with fail
          go_region_held3 (fun w' => (w'.cell? ⟨w.heap.size, 0, none⟩ = some (.slice an ls.length cn) ∧ w'.cell? ⟨w.heap.size, 1, none⟩ = some (.slice ao l.length co) ∧ w'.cell? ⟨w.heap.size, 2, none⟩ = some (.slice as0 bs.length cs) ∧ w'.cell? ⟨w.heap.size, 3, none⟩ = some (.slice ar rs.length cr)) ∧ (w'.cell? ⟨g2, o2 + k * 2, none⟩ = some (.string ⟨r1.toArray⟩) ∧ w'.cell? ⟨g2, o2 + k * 2 + 1, none⟩ = some (.int .i64 q2))) (first | exact ks)
            (first
              | (go_at_call 79; refine (HCK.out _ (by exact HBD.out)).mono ?_; rintro e w8 ⟨rfl, hb8⟩
                 have ks := And.intro (PD.out.below hb8 hltp).cells (And.intro ((hb8.cell (p := ⟨g2, o2 + k * 2, none⟩) hltg).trans SD.out.1) ((hb8.cell (p := ⟨g2, o2 + k * 2 + 1, none⟩) hltg).trans SD.out.2))
                 have C8 := Lib.hid hb8
                 clear hb8))
          all_goals
            have HB8 := Lib.hid (Below.drew HB.out |>.trans (C8.out.mono hszr))
            have HN8 := Lib.hid (own_below HND.out C8.out)
            have hs8 : wa.heap.size ≤ w8.heap.size := HB8.out.size
            clear ks
            go_wp2_with (at_builtin; refine wpAppOne elemI rfl _ _ rfl wa.heap.size _ (I acc) rfl (by rw [I_len]; exact HN8.out) _ rfl (by simp) rfl hIl hs8 ?_; intro v7 w7 hown7 hg7; have HN7 := Lib.hid (own_I2 hown7); have HB7 := Lib.hid (HB8.out.trans (below_own HN8.out hg7 hs8)); clear hown7 hg7)
            go_roundw
            case rel => exact ⟨k + 1, by omega, by go_num, HB7, by rw [HE.out]; exact HN7.out⟩
            case measure => simp [intOf]; omega
      · have HE := Lib.hid (HY.out (by simp [he1]))
        go_wp2_with fail
        go_region_held3 (fun w' => (w'.cell? ⟨w.heap.size, 0, none⟩ = some (.slice an ls.length cn) ∧ w'.cell? ⟨w.heap.size, 1, none⟩ = some (.slice ao l.length co) ∧ w'.cell? ⟨w.heap.size, 2, none⟩ = some (.slice as0 bs.length cs) ∧ w'.cell? ⟨w.heap.size, 3, none⟩ = some (.slice ar rs.length cr)) ∧ (w'.cell? ⟨g2, o2 + k * 2, none⟩ = some (.string ⟨q1.toArray⟩) ∧ w'.cell? ⟨g2, o2 + k * 2 + 1, none⟩ = some (.int .i64 q2))) (first | exact ks)
          (first
            | (go_at_call 79; refine (HCK.out _ (by exact HBD.out)).mono ?_; rintro e w8 ⟨rfl, hb8⟩
               have ks := And.intro (PD.out.below hb8 hltp).cells (And.intro ((hb8.cell (p := ⟨g2, o2 + k * 2, none⟩) hltg).trans SD.out.1) ((hb8.cell (p := ⟨g2, o2 + k * 2 + 1, none⟩) hltg).trans SD.out.2))
               have C8 := Lib.hid hb8
               clear hb8))
        all_goals
          have HB8 := Lib.hid (Below.drew HB.out |>.trans (C8.out.mono hszr))
          have HN8 := Lib.hid (own_below HND.out C8.out)
          have hs8 : wa.heap.size ≤ w8.heap.size := HB8.out.size
          clear ks
          go_wp2_with (at_builtin; refine wpAppOne elemI rfl _ _ rfl wa.heap.size _ (I acc) rfl (by rw [I_len]; exact HN8.out) _ rfl (by simp) rfl hIl hs8 ?_; intro v7 w7 hown7 hg7; have HN7 := Lib.hid (own_I2 hown7); have HB7 := Lib.hid (HB8.out.trans (below_own HN8.out hg7 hs8)); clear hown7 hg7)
          go_roundw
          case rel => exact ⟨k + 1, by omega, by go_num, HB7, by rw [HE.out]; exact HN7.out⟩
          case measure => simp [intOf]; omega
    · obtain rfl : k = m.length := by omega
      clear HATM HO
      go_wp2_with fail
      go_ret
      exact ⟨_, rfl, own_base HN.out HA.out.size, HBW.out⟩

end Go.Proofs.YtngldlconipnnaaGreatDoor

/- Walks: results on their way, of the program. -/
namespace Go.Proofs.YtngldlconipnnaaGreatDoor
open Go.RowKit Pth

/-- A block of seven cells. -/
def Blk7 (w : World) (b t : Nat) (x0 x1 x2 x3 x4 x5 x6 : Value) : Prop := w.heap[b]? = some (.cells #[x0, x1, x2, x3, x4, x5, x6] t (0, 0))
theorem Blk7.cells {w : World} {b t : Nat} {x0 x1 x2 x3 x4 x5 x6 : Value} (h : Blk7 w b t x0 x1 x2 x3 x4 x5 x6) : w.cell? ⟨b, 0, none⟩ = some x0 ∧ w.cell? ⟨b, 1, none⟩ = some x1 ∧ w.cell? ⟨b, 2, none⟩ = some x2 ∧ w.cell? ⟨b, 3, none⟩ = some x3 ∧ w.cell? ⟨b, 4, none⟩ = some x4 ∧ w.cell? ⟨b, 5, none⟩ = some x5 ∧ w.cell? ⟨b, 6, none⟩ = some x6 := by
  refine ⟨?_, ?_, ?_, ?_, ?_, ?_, ?_⟩ <;> rw [cell_of_row w b _ _ t (0, 0) h] <;> rfl
theorem Blk7.soft {w : World} {b t : Nat} {x0 x1 x2 x3 x4 x5 x6 : Value} (h : Blk7 w b t x0 x1 x2 x3 x4 x5 x6) (j : Nat) : w.frozen? ⟨b, j, none⟩ = false := frozen_of_row w b j _ t h
theorem Blk7.below {w w' : World} {B b t : Nat} {x0 x1 x2 x3 x4 x5 x6 : Value} (h : Blk7 w b t x0 x1 x2 x3 x4 x5 x6) (hb : Below B w w') (hlt : b < B) : Blk7 w' b t x0 x1 x2 x3 x4 x5 x6 := (hb.block b hlt).trans h
theorem Blk7.new {w : World} {t : Nat} {x0 x1 x2 x3 x4 x5 x6 : Value} : Blk7 (w.alloc (.cells #[x0, x1, x2, x3, x4, x5, x6] t)) w.heap.size t x0 x1 x2 x3 x4 x5 x6 := heap_alloc_new w _
theorem Blk7.old {w : World} {b t : Nat} {x0 x1 x2 x3 x4 x5 x6 : Value} (h : Blk7 w b t x0 x1 x2 x3 x4 x5 x6) (o : Obj) : Blk7 (w.alloc o) b t x0 x1 x2 x3 x4 x5 x6 := (Below.heap_alloc w o b (lt_of_block h)).trans h
theorem Blk7.other {w : World} {b t : Nat} {x0 x1 x2 x3 x4 x5 x6 : Value} (h : Blk7 w b t x0 x1 x2 x3 x4 x5 x6) {p : Addr} (hp : b ≠ p.block) (n : Value) : Blk7 (w.setCell p n) b t x0 x1 x2 x3 x4 x5 x6 := (Below.heap_setCell w p n b hp).trans h
theorem Blk7.set0 {w : World} {b t : Nat} {x0 x1 x2 x3 x4 x5 x6 : Value} (h : Blk7 w b t x0 x1 x2 x3 x4 x5 x6) (n : Value) : Blk7 (w.setCell ⟨b, 0, none⟩ n) b t n x1 x2 x3 x4 x5 x6 := heap_setCell_same w b 0 _ t n h
theorem Blk7.set1 {w : World} {b t : Nat} {x0 x1 x2 x3 x4 x5 x6 : Value} (h : Blk7 w b t x0 x1 x2 x3 x4 x5 x6) (n : Value) : Blk7 (w.setCell ⟨b, 1, none⟩ n) b t x0 n x2 x3 x4 x5 x6 := heap_setCell_same w b 1 _ t n h
theorem Blk7.set2 {w : World} {b t : Nat} {x0 x1 x2 x3 x4 x5 x6 : Value} (h : Blk7 w b t x0 x1 x2 x3 x4 x5 x6) (n : Value) : Blk7 (w.setCell ⟨b, 2, none⟩ n) b t x0 x1 n x3 x4 x5 x6 := heap_setCell_same w b 2 _ t n h
theorem Blk7.set3 {w : World} {b t : Nat} {x0 x1 x2 x3 x4 x5 x6 : Value} (h : Blk7 w b t x0 x1 x2 x3 x4 x5 x6) (n : Value) : Blk7 (w.setCell ⟨b, 3, none⟩ n) b t x0 x1 x2 n x4 x5 x6 := heap_setCell_same w b 3 _ t n h
theorem Blk7.set4 {w : World} {b t : Nat} {x0 x1 x2 x3 x4 x5 x6 : Value} (h : Blk7 w b t x0 x1 x2 x3 x4 x5 x6) (n : Value) : Blk7 (w.setCell ⟨b, 4, none⟩ n) b t x0 x1 x2 x3 n x5 x6 := heap_setCell_same w b 4 _ t n h
theorem Blk7.set5 {w : World} {b t : Nat} {x0 x1 x2 x3 x4 x5 x6 : Value} (h : Blk7 w b t x0 x1 x2 x3 x4 x5 x6) (n : Value) : Blk7 (w.setCell ⟨b, 5, none⟩ n) b t x0 x1 x2 x3 x4 n x6 := heap_setCell_same w b 5 _ t n h
theorem Blk7.set6 {w : World} {b t : Nat} {x0 x1 x2 x3 x4 x5 x6 : Value} (h : Blk7 w b t x0 x1 x2 x3 x4 x5 x6) (n : Value) : Blk7 (w.setCell ⟨b, 6, none⟩ n) b t x0 x1 x2 x3 x4 x5 n := heap_setCell_same w b 6 _ t n h
theorem load_rem {w : World} {b : Nat} {x0 x1 x2 x3 x4 x5 x6 : Value} (h : Blk7 w b 121 x0 x1 x2 x3 x4 x5 x6) : (loadVar 121 ⟨b, 0, none⟩).run Tryz.prog w = .ok (.agg #[x0, x1, x2, x3, x4, x5, x6]) w := by
  obtain ⟨c0, c1, c2, c3, c4, c5, c6⟩ := h.cells
  go_simp

/-- Results on their way. -/
def RemV (w : World) (v : Value) (ls : List (List Int)) (l : List Int) (bs : List Bool) (rs : List (List OpT)) (ts : List (List UInt8)) (m0 m : List ResT) : Prop :=
  ∃ nv ov sv rv x u y, v = .agg #[nv, ov, sv, rv, x, u, y] ∧ PlanV w (.agg #[nv, ov, sv, rv]) ls l bs rs ∧ RowV w x (S ts) ∧ RowR w u m0 ∧ RowR w y m
theorem RemV.below {w w' : World} {v : Value} {ls : List (List Int)} {l : List Int} {bs : List Bool} {rs : List (List OpT)} {ts : List (List UInt8)} {m0 m : List ResT} (h : RemV w v ls l bs rs ts m0 m) (hb : Below w.heap.size w w') : RemV w' v ls l bs rs ts m0 m := by
  obtain ⟨nv, ov, sv, rv, x, u, y, hv, h1, h2, h3, h4⟩ := h
  exact ⟨nv, ov, sv, rv, x, u, y, hv, h1.below hb, h2.below hb, h3.below hb, h4.below hb⟩

set_option maxRecDepth 20000 in
set_option maxHeartbeats 8000000 in
theorem fresh_any (ls : List (List Int)) (l : List Int) (bs : List Bool) (rs : List (List OpT)) (m0 m : List ResT) (ts : List (List UInt8)) (t : Nat) (v : Value) (w : World) (hrem : RemV w v ls l bs rs ts m0 m) (hpl : planA ls l bs rs = true) (hmb : m.length = bs.length) (htb : ts.length = bs.length) (ht : t < ls.length) (hxm : Sml m) (hxt : ∀ y ∈ ts, y.length ≤ 40) :
    Calls Tryz.prog 145 #[v, .int .i64 (t : Int)] w fun e w' => e = .returned (resV (oneM ls bs rs ts m t)) ∧ Below w.heap.size w w' := by
  obtain ⟨nv, ov, sv, rv, x, u, y, rfl, hp, hts, hr0, hr⟩ := hrem
  have HV := Lib.hid hp
  have HT := Lib.hid hts
  have HR0 := Lib.hid hr0
  have HR := Lib.hid hr
  obtain ⟨nv', ov', sv', rv', he, h1, h2, h3, h4⟩ := hp
  injection he with he
  simp only [Array.mk.injEq, List.cons.injEq, and_true] at he
  obtain ⟨rfl, rfl, rfl, rfl⟩ := he
  obtain ⟨as0, cs, rfl, hs1, hs2, _⟩ := h3.boolsW
  obtain ⟨an, cn, rfl, hn1, hn2, _⟩ := h1.lists
  obtain ⟨ao, co, rfl, ho1, ho2, _⟩ := h2.ints
  obtain ⟨ar, cr, rfl, hr1, hr2, _⟩ := h4.lists
  obtain ⟨at0, ct, rfl, ht1, ht2, _⟩ := hts.texts
  obtain ⟨am, cm, rfl, hm1, hm2, _⟩ := hr0.res
  obtain ⟨az, cz, rfl, hz1, hz2, _⟩ := hr.res
  clear h1 h2 h3 h4 hts hr0 hr
  unfold maxLen at hs2 hn2 ho2 hr2 ht2 hm2 hz2
  obtain ⟨wp, hwp⟩ : ∃ wp, wp = w.alloc (.cells #[.slice an ls.length cn, .slice ao l.length co, .slice as0 bs.length cs, .slice ar rs.length cr, .slice at0 ts.length ct, .slice am m0.length cm, .slice az m.length cz] 121) := ⟨_, rfl⟩
  obtain ⟨wa, hwa⟩ : ∃ wa, wa = wp.alloc (.cells #[.string ⟨#[]⟩, .int .i64 0] 89) := ⟨_, rfl⟩
  have ep : wp.heap.size = w.heap.size + 1 := by rw [hwp]; simp
  have ea : wa.heap.size = w.heap.size + 2 := by rw [hwa]; simp [ep]
  have P0 : Hid (Blk7 wa w.heap.size 121 (.slice an ls.length cn) (.slice ao l.length co) (.slice as0 bs.length cs) (.slice ar rs.length cr) (.slice at0 ts.length ct) (.slice am m0.length cm) (.slice az m.length cz)) := by rw [hwa, hwp]; exact Blk7.new.old _
  have R0 : Hid (Blk2 wa (w.heap.size + 1) 89 (.string ⟨#[]⟩) (.int .i64 0)) := by rw [hwa, ← ep]; exact Blk2.new
  have HA : Hid (Below w.heap.size w wa) := by rw [hwa, hwp]; exact ((Below.refl w.heap.size w).alloc (Nat.le_refl _) _).alloc (by simp) _
  have HWA : Hid ((w.alloc (.cells #[.slice an ls.length cn, .slice ao l.length co, .slice as0 bs.length cs, .slice ar rs.length cr, .slice at0 ts.length ct, .slice am m0.length cm, .slice az m.length cz] 121)).alloc (.cells #[.string ⟨#[]⟩, .int .i64 0] 89) = wa) := by rw [hwa, hwp]; rfl
  have hsz : w.heap.size < wa.heap.size := by omega
  have hsz1 : w.heap.size + 1 < wa.heap.size := by omega
  clear hwa hwp ep
  have HO := Lib.hid (implOne_any ls l bs rs m ts t _ _ _ wa (HV.out.below HA.out) (HR.out.below HA.out) (HT.out.below HA.out) hpl hmb htb ht hxm hxt)
  obtain ⟨c0, c1, c2, c3, c4, c5, c6⟩ := P0.out.cells
  clear hpl hmb htb hxm hxt
  generalize oneM ls bs rs ts m t = R at *
  obtain ⟨r1, r2⟩ := R
  unfold resV at HO ⊢
  simp only at HO ⊢
  go_enter Tryz.func145, Tryz.ntmps145
  go_wp2_with fail
  rw [HWA.out]
  refine HO.out.mono ?_
  rintro e w1 ⟨rfl, hb1⟩
  have HB1 := Lib.hid hb1
  clear hb1 c0 c1 c2 c3 c4 c5 c6 HO
  have hRB := R0.out.below HB1.out hsz1
  have HRB := Lib.hid hRB
  obtain ⟨r0', r1'⟩ := hRB.cells
  have z0 := hRB.soft 0
  have z1 := hRB.soft 1
  clear hRB
  go_wp2_with fail
  have hZ := (HRB.out.set0 (.string ⟨r1.toArray⟩)).set1 (.int .i64 r2)
  refine bodyPost_ret (results_cellR rfl rfl (load_res hZ.cells.1 hZ.cells.2)) rfl ?_
  exact ⟨rfl, ((bth HA.out HB1.out (Nat.le_refl _)).setCell (p := ⟨w.heap.size + 1, 0, none⟩) (by show _ ≤ _ + 1; omega) _).setCell (p := ⟨w.heap.size + 1, 1, none⟩) (by show _ ≤ _ + 1; omega) _⟩

set_option maxRecDepth 20000 in
set_option maxHeartbeats 8000000 in
theorem isStale_any (ls : List (List Int)) (l : List Int) (bs : List Bool) (rs : List (List OpT)) (m0 m : List ResT) (ts : List (List UInt8)) (t : Nat) (v : Value) (w : World) (hrem : RemV w v ls l bs rs ts m0 m) (hpl : planA ls l bs rs = true) (hmb : m.length = bs.length) (htb : ts.length = bs.length) (ht : t < ls.length) (hxm : Sml m) (hxt : ∀ y ∈ ts, y.length ≤ 40) :
    Calls Tryz.prog 99 #[v, .int .i64 (t : Int)] w fun e w' => e = .returned (.bool (staleP (oneM ls bs rs ts) m t)) ∧ Below w.heap.size w w' := by
  have HREM := Lib.hid hrem
  have hbl := (plan_parts hpl).2.1
  have htm : t < m.length := by omega
  obtain ⟨nv, ov, sv, rv, x, u, y, rfl, hp, hts, hr0, hr⟩ := hrem
  have HV := Lib.hid hp
  have HT := Lib.hid hts
  have HR0 := Lib.hid hr0
  have HR := Lib.hid hr
  obtain ⟨nv', ov', sv', rv', he, h1, h2, h3, h4⟩ := hp
  injection he with he
  simp only [Array.mk.injEq, List.cons.injEq, and_true] at he
  obtain ⟨rfl, rfl, rfl, rfl⟩ := he
  obtain ⟨as0, cs, rfl, hs1, hs2, _⟩ := h3.boolsW
  obtain ⟨an, cn, rfl, hn1, hn2, _⟩ := h1.lists
  obtain ⟨ao, co, rfl, ho1, ho2, _⟩ := h2.ints
  obtain ⟨ar, cr, rfl, hr1, hr2, _⟩ := h4.lists
  obtain ⟨at0, ct, rfl, ht1, ht2, _⟩ := hts.texts
  obtain ⟨am, cm, rfl, hm1, hm2, _⟩ := hr0.res
  obtain ⟨az, cz, rfl, hz1, hz2, hatm⟩ := hr.res
  clear h1 h2 h3 h4 hts hr0 hr
  unfold maxLen at hs2 hn2 ho2 hr2 ht2 hm2 hz2
  obtain ⟨gz, oz, rfl, hgz, hz0, hz1'⟩ := hatm t htm
  obtain ⟨wa, hwa⟩ : ∃ wa, wa = w.alloc (.cells #[.slice an ls.length cn, .slice ao l.length co, .slice as0 bs.length cs, .slice ar rs.length cr, .slice at0 ts.length ct, .slice am m0.length cm, .slice (some ⟨gz, oz, none⟩) m.length cz] 121) := ⟨_, rfl⟩
  have hsz : w.heap.size < wa.heap.size := by rw [hwa]; simp
  have P0 : Hid (Blk7 wa w.heap.size 121 (.slice an ls.length cn) (.slice ao l.length co) (.slice as0 bs.length cs) (.slice ar rs.length cr) (.slice at0 ts.length ct) (.slice am m0.length cm) (.slice (some ⟨gz, oz, none⟩) m.length cz)) := by rw [hwa]; exact Blk7.new
  have HA : Hid (Below w.heap.size w wa) := by rw [hwa]; exact (Below.refl w.heap.size w).alloc (Nat.le_refl _) _
  have HWA : Hid (w.alloc (.cells #[.slice an ls.length cn, .slice ao l.length co, .slice as0 bs.length cs, .slice ar rs.length cr, .slice at0 ts.length ct, .slice am m0.length cm, .slice (some ⟨gz, oz, none⟩) m.length cz] 121) = wa) := by rw [hwa]; rfl
  clear hwa
  have htz : (t : Int) < (m.length : Int) := by omega
  have HF := Lib.hid (fun W (h : Below w.heap.size w W) => fresh_any ls l bs rs m0 m ts t _ W (HREM.out.below h) hpl hmb htb ht hxm hxt)
  have hst : staleP (oneM ls bs rs ts) m t = decide (oneM ls bs rs ts m t ≠ m[t]) := by unfold staleP; rw [getD_at _ htm]
  rw [hst]
  have s1 := (HA.out.cell (p := ⟨gz, oz + t * 2, none⟩) hgz).trans hz0
  have s2 := (HA.out.cell (p := ⟨gz, oz + t * 2 + 1, none⟩) hgz).trans hz1'
  have hltp : w.heap.size < wa.heap.size := hsz
  have hltg : gz < wa.heap.size := by omega
  clear hatm hpl hmb htb hxm hxt hst hz0 hz1' hbl
  generalize m[t] = q at *
  generalize oneM ls bs rs ts m t = R at *
  obtain ⟨q1, q2⟩ := q
  obtain ⟨r1, r2⟩ := R
  simp only at s1 s2
  unfold resV at HF
  simp only at HF
  have PD : Hid (Blk7 wa.drew w.heap.size 121 (.slice an ls.length cn) (.slice ao l.length co) (.slice as0 bs.length cs) (.slice ar rs.length cr) (.slice at0 ts.length ct) (.slice am m0.length cm) (.slice (some ⟨gz, oz, none⟩) m.length cz)) := P0.out.below (Below.drew (Below.refl _ _)) hsz
  have SD : Hid (wa.drew.cell? ⟨gz, oz + t * 2, none⟩ = some (.string ⟨q1.toArray⟩) ∧ wa.drew.cell? ⟨gz, oz + t * 2 + 1, none⟩ = some (.int .i64 q2)) := ⟨s1, s2⟩
  have HAD := Lib.hid (Below.drew HA.out)
  have ks := And.intro PD.out.cells SD.out
  clear s1 s2
  by_cases he1 : r1 = q1
  · by_cases he2 : r2 = q2
    · subst he1 he2
      have HE : Hid (decide ((r1, r2) ≠ ((r1, r2) : ResT)) = false) := by show _ = _; simp
      go_enter Tryz.func99, Tryz.ntmps99
      go_upto_region 1 with fail
      rw [HWA.out]
      go_region_held3 (fun w' => (w'.cell? ⟨w.heap.size, 0, none⟩ = some (.slice an ls.length cn) ∧ w'.cell? ⟨w.heap.size, 1, none⟩ = some (.slice ao l.length co) ∧ w'.cell? ⟨w.heap.size, 2, none⟩ = some (.slice as0 bs.length cs) ∧ w'.cell? ⟨w.heap.size, 3, none⟩ = some (.slice ar rs.length cr) ∧ w'.cell? ⟨w.heap.size, 4, none⟩ = some (.slice at0 ts.length ct) ∧ w'.cell? ⟨w.heap.size, 5, none⟩ = some (.slice am m0.length cm) ∧ w'.cell? ⟨w.heap.size, 6, none⟩ = some (.slice (some ⟨gz, oz, none⟩) m.length cz)) ∧ (w'.cell? ⟨gz, oz + t * 2, none⟩ = some (.string ⟨r1.toArray⟩) ∧ w'.cell? ⟨gz, oz + t * 2 + 1, none⟩ = some (.int .i64 r2))) (first | exact ks)
        (first
          | (go_at_call 145; refine (HF.out _ (by exact HAD.out)).mono ?_; rintro e w8 ⟨rfl, hb8⟩
             have ks := And.intro (PD.out.below hb8 hltp).cells (And.intro ((hb8.cell (p := ⟨gz, oz + t * 2, none⟩) hltg).trans SD.out.1) ((hb8.cell (p := ⟨gz, oz + t * 2 + 1, none⟩) hltg).trans SD.out.2))
             have C8 := Lib.hid hb8
             clear hb8))
      all_goals
        have HB8 := Lib.hid (bth HAD.out C8.out (Nat.le_refl _))
        clear ks
        go_wp2_with fail
        go_ret
        exact ⟨by rw [HE.out] <;> rfl, HB8.out⟩
    · subst he1
      have HE : Hid (decide ((r1, r2) ≠ ((r1, q2) : ResT)) = true) := by show _ = _; simp [he2]
      have he2' : ¬ q2 = r2 := fun h => he2 h.symm
      go_enter Tryz.func99, Tryz.ntmps99
      go_upto_region 1 with fail
      rw [HWA.out]
      go_region_held3 (fun w' => (w'.cell? ⟨w.heap.size, 0, none⟩ = some (.slice an ls.length cn) ∧ w'.cell? ⟨w.heap.size, 1, none⟩ = some (.slice ao l.length co) ∧ w'.cell? ⟨w.heap.size, 2, none⟩ = some (.slice as0 bs.length cs) ∧ w'.cell? ⟨w.heap.size, 3, none⟩ = some (.slice ar rs.length cr) ∧ w'.cell? ⟨w.heap.size, 4, none⟩ = some (.slice at0 ts.length ct) ∧ w'.cell? ⟨w.heap.size, 5, none⟩ = some (.slice am m0.length cm) ∧ w'.cell? ⟨w.heap.size, 6, none⟩ = some (.slice (some ⟨gz, oz, none⟩) m.length cz)) ∧ (w'.cell? ⟨gz, oz + t * 2, none⟩ = some (.string ⟨r1.toArray⟩) ∧ w'.cell? ⟨gz, oz + t * 2 + 1, none⟩ = some (.int .i64 q2))) (first | exact ks)
        (first
          | (go_at_call 145; refine (HF.out _ (by exact HAD.out)).mono ?_; rintro e w8 ⟨rfl, hb8⟩
             have ks := And.intro (PD.out.below hb8 hltp).cells (And.intro ((hb8.cell (p := ⟨gz, oz + t * 2, none⟩) hltg).trans SD.out.1) ((hb8.cell (p := ⟨gz, oz + t * 2 + 1, none⟩) hltg).trans SD.out.2))
             have C8 := Lib.hid hb8
             clear hb8))
      all_goals
        have HB8 := Lib.hid (bth HAD.out C8.out (Nat.le_refl _))
        clear ks
        go_wp2_with fail
        go_ret
        exact ⟨by rw [HE.out] <;> rfl, HB8.out⟩
  · have HE : Hid (decide ((r1, r2) ≠ ((q1, q2) : ResT)) = true) := by show _ = _; simp [he1]
    have he1' : ¬ q1 = r1 := fun h => he1 h.symm
    go_enter Tryz.func99, Tryz.ntmps99
    go_upto_region 1 with fail
    rw [HWA.out]
    go_region_held3 (fun w' => (w'.cell? ⟨w.heap.size, 0, none⟩ = some (.slice an ls.length cn) ∧ w'.cell? ⟨w.heap.size, 1, none⟩ = some (.slice ao l.length co) ∧ w'.cell? ⟨w.heap.size, 2, none⟩ = some (.slice as0 bs.length cs) ∧ w'.cell? ⟨w.heap.size, 3, none⟩ = some (.slice ar rs.length cr) ∧ w'.cell? ⟨w.heap.size, 4, none⟩ = some (.slice at0 ts.length ct) ∧ w'.cell? ⟨w.heap.size, 5, none⟩ = some (.slice am m0.length cm) ∧ w'.cell? ⟨w.heap.size, 6, none⟩ = some (.slice (some ⟨gz, oz, none⟩) m.length cz)) ∧ (w'.cell? ⟨gz, oz + t * 2, none⟩ = some (.string ⟨q1.toArray⟩) ∧ w'.cell? ⟨gz, oz + t * 2 + 1, none⟩ = some (.int .i64 q2))) (first | exact ks)
      (first
        | (go_at_call 145; refine (HF.out _ (by exact HAD.out)).mono ?_; rintro e w8 ⟨rfl, hb8⟩
           have ks := And.intro (PD.out.below hb8 hltp).cells (And.intro ((hb8.cell (p := ⟨gz, oz + t * 2, none⟩) hltg).trans SD.out.1) ((hb8.cell (p := ⟨gz, oz + t * 2 + 1, none⟩) hltg).trans SD.out.2))
           have C8 := Lib.hid hb8
           clear hb8))
    all_goals
      have HB8 := Lib.hid (bth HAD.out C8.out (Nat.le_refl _))
      clear ks
      go_wp2_with fail
      go_ret
      exact ⟨by rw [HE.out] <;> rfl, HB8.out⟩

end Go.Proofs.YtngldlconipnnaaGreatDoor
