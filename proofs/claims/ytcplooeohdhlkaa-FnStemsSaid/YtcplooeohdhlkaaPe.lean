/- Walks: a number put to its place. -/
import Derived.Test.YtcplooeohdhlkaaPd
namespace Go.Proofs.Ytcplooeohdhlkaa
open Go.RowKit Pth

theorem put_start (l : List Int) (n : Int) : putL l n = l.take 0 ++ putL (l.drop 0) n := by simp
theorem put_less {l : List Int} {n : Int} {k : Nat} (hk : k < l.length) (h : putL l n = l.take k ++ putL (l.drop k) n) (hx : l[k] < n) : putL l n = l.take (k + 1) ++ putL (l.drop (k + 1)) n := by
  rw [h, List.drop_eq_getElem_cons hk, putL, if_pos hx, List.take_succ_eq_append_getElem hk, List.append_assoc, List.singleton_append]
theorem put_there {l : List Int} {n : Int} {k : Nat} (hk : k < l.length) (h : putL l n = l.take k ++ putL (l.drop k) n) (hx : l[k] = n) : putL l n = l := by
  rw [h, List.drop_eq_getElem_cons hk, putL, if_neg (by omega), if_pos hx, ← List.drop_eq_getElem_cons hk]; simp
theorem put_new {l : List Int} {n : Int} {k : Nat} (h : putL l n = l.take k ++ putL (l.drop k) n) (hx : ∀ hk : k < l.length, n < l[k]) : putL l n = (l.take k ++ [n]) ++ l.drop k := by
  rw [h]
  by_cases hk : k < l.length
  · have := hx hk
    rw [List.drop_eq_getElem_cons hk, putL, if_neg (by omega), if_neg (by omega)]; simp
  · rw [List.drop_of_length_le (by omega)]; simp [putL]
theorem put_len (l : List Int) (n : Int) : (putL l n).length ≤ l.length + 1 := by
  induction l with
  | nil => simp [putL]
  | cons x t ih =>
    unfold putL
    split
    · simp only [List.length_cons]; omega
    · split <;> simp

theorem put_first {w : World} {B e : Nat} {v : Value} {l : List Int} (h : w.ownsRow B e 1 v ([] ++ I l).length ([] ++ I l)) : w.ownsRow B e 1 v (I l).length (I l) := h
theorem put_second {w : World} {B e : Nat} {v : Value} {l : List Int} {n : Int} (h : w.ownsRow B e 1 v (I l ++ [Value.int .i64 n]).length (I l ++ [Value.int .i64 n])) : w.ownsRow B e 1 v (I (l ++ [n])).length (I (l ++ [n])) := by
  rw [I_append]; exact h
theorem put_third {w : World} {B e : Nat} {v : Value} {l m r : List Int} (h : w.ownsRow B e 1 v (I l ++ I m).length (I l ++ I m)) (hr : r = l ++ m) : w.ownsRow B e 1 v r.length (I r) := by
  rw [← I_append, I_len] at h; rw [hr]; exact h

/-- A slice of numbers cut from k on. -/
theorem run_cutI (a : Option Addr) (n c k : Nat) (hk : k ≤ n) (_hc : n ≤ c) (W : World) :
    (Instr.slice 27 (.slice a n c) (some (.int .i64 (k : Int))) none none).run Try.prog W = .ok (.slice (if c = k then a else a.map (·.add (k * 1))) (n - k) (c - k)) W := by
  have h1 : (k : Int) ≤ n := by omega
  by_cases h : c = k
  · go_simp
  · go_simp

theorem cutI {w : World} {a : Option Addr} {l : List Int} {cap k : Nat} (h : RowV w (.slice a l.length cap) (I l)) (hk : k ≤ l.length) (hc : l.length ≤ cap) :
    RowV w (.slice a k cap) (I (l.take k)) ∧ ∃ A1, (∀ W, (Instr.slice 27 (.slice a l.length cap) (some (.int .i64 (k : Int))) none none).run Try.prog W = .ok (.slice A1 (l.length - k) (cap - k)) W) ∧ RowV w (.slice A1 (l.length - k) (cap - k)) (I (l.drop k)) := by
  have r0 : RowV w (.slice a (I l).length cap) (I l) := by rw [I_len]; exact h
  have hF := r0.front k (by rw [I_len]; omega)
  have hD := r0.back k (by rw [I_len]; omega)
  rw [I_take] at hF
  rw [I_drop, I_len] at hD
  exact ⟨hF, _, run_cutI a l.length cap k hk hc, hD⟩

/-- A list of numbers is handed back, in memory of the call's own where it was so. -/
def IntsPost (B : Nat) (l : List Int) (w : World) (e : Ending) (w' : World) : Prop :=
  ∃ v, e = .returned v ∧ w'.ownsRow B 3 1 v l.length (I l) ∧ Below w.heap.size w w'

set_option maxHeartbeats 1000000 in
theorem l1Put_any (l : List Int) (n : Int) (B : Nat) (v : Value) (w : World) (hown : w.ownsRow B 3 1 v l.length (I l)) (hB : B ≤ w.heap.size) (hl : l.length ≤ 1000) :
    Calls Try.prog 81 #[v, .int .i64 n] w (IntsPost B (putL l n) w) := by
  have HR := Lib.hid (RowV.of_own hown)
  have HW := Lib.hid hown
  obtain ⟨a, cap, rfl, hc1, hc2, hat⟩ := HR.out.ints
  clear hown
  unfold maxLen at hc2
  go_enter Try.func81, Try.ntmps81
  go_wp2_with fail
  go_loop [5] (fun i => ∃ k : Nat, k ≤ l.length ∧ i = .int .i64 k ∧ Hid (putL l n = l.take k ++ putL (l.drop k) n)) (fun i => l.length - (intOf i).toNat)
  case atStart => exact ⟨0, Nat.zero_le _, rfl, put_start l n⟩
  case round =>
    obtain ⟨k, hk, rfl, HO⟩ := hrel
    by_cases hlt : k < l.length
    · obtain ⟨g, o, rfl, hg, hcell⟩ := hat k hlt
      have hlt1 : decide ((k : Int) < (l.length : Int)) = true := by simp; omega
      by_cases hx : l[k] < n
      · have HP := Lib.hid (put_less hlt HO.out hx)
        have hx1 : decide (l[k] < n) = true := by simpa using hx
        generalize l[k] = x at hcell hx hx1
        clear hat HO hx
        go_wp2_with fail
        go_round
        case rel => exact ⟨k + 1, by omega, by go_num, HP⟩
        case measure => simp [intOf]; omega
      · have hx1 : decide (l[k] < n) = false := by simpa using hx
        by_cases hy : l[k] = n
        · have HP := Lib.hid (put_there hlt HO.out hy)
          have hy1 : (l[k] == n) = true := by simpa using hy
          generalize l[k] = x at hcell hx hx1 hy hy1
          clear hat HO hx hy
          go_wp2_with fail
          go_ret
          exact ⟨_, rfl, by rw [HP.out]; exact HW.out, Below.refl _ _⟩
        · have HP := Lib.hid (put_new HO.out (fun _ => by omega))
          have hy1 : (l[k] == n) = false := by simpa using hy
          generalize l[k] = x at hcell hx hx1 hy hy1
          clear hat HO hx hy
          obtain ⟨hF, A1, cut1, hD⟩ := cutI HR.out hk hc1
          have HF := Lib.hid hF
          have HD := Lib.hid hD
          clear hF hD
          go_wp2_with (at_builtin; first
            | (refine wpAppRow elemI rfl _ _ rfl w.heap.size _ [] (I (l.take k)) _ rfl (World.ownsRow_lit w #[] 0 (Nat.le_refl _) (by unfold maxLen; omega) rfl) rfl (HF.out.alloc _) (I_one _) (by rw [I_len, List.length_take, List.length_nil]; omega) (by simp) ?_
               intro v1 w1 hown1 hg1
               have HN1 := Lib.hid (put_first hown1)
               have HB1 := Lib.hid (((Below.refl _ w).alloc (Nat.le_refl _) _).trans (below_own (World.ownsRow_lit w #[] 0 (Nat.le_refl _) (by unfold maxLen; omega) rfl) hg1 (by simp)))
               clear hown1 hg1)
            | (refine wpAppOne elemI rfl _ _ rfl w.heap.size _ (I (l.take k)) rfl HN1.out _ rfl rfl rfl (by rw [I_len, List.length_take]; omega) HB1.out.size ?_
               intro v2 w2 hown2 hg2
               have HN2 := Lib.hid (put_second hown2)
               have HB2 := Lib.hid (HB1.out.trans (below_own HN1.out hg2 HB1.out.size))
               clear hown2 hg2)
            | (refine wpAppRow elemI rfl _ _ rfl w.heap.size _ (I (l.take k ++ [n])) (I (l.drop k)) _ rfl HN2.out rfl (HD.out.below HB2.out) (I_one _) (by rw [I_len, I_len, List.length_append, List.length_take, List.length_drop, List.length_singleton]; omega) HB2.out.size ?_
               intro v3 w3 hown3 hg3
               have HN3 := Lib.hid (put_third hown3 HP.out)
               have HB3 := Lib.hid (HB2.out.trans (below_own HN2.out hg3 HB2.out.size))
               clear hown3 hg3))
          go_ret
          exact ⟨_, rfl, own_base HN3.out hB, HB3.out⟩
    · have HP := Lib.hid (put_new HO.out (fun h => absurd h hlt))
      have hlt1 : decide ((k : Int) < (l.length : Int)) = false := by simp; omega
      clear hat HO
      obtain ⟨hF, A1, cut1, hD⟩ := cutI HR.out hk hc1
      have HF := Lib.hid hF
      have HD := Lib.hid hD
      clear hF hD
      go_wp2_with (at_builtin; first
        | (refine wpAppRow elemI rfl _ _ rfl w.heap.size _ [] (I (l.take k)) _ rfl (World.ownsRow_lit w #[] 0 (Nat.le_refl _) (by unfold maxLen; omega) rfl) rfl (HF.out.alloc _) (I_one _) (by rw [I_len, List.length_take, List.length_nil]; omega) (by simp) ?_
           intro v1 w1 hown1 hg1
           have HN1 := Lib.hid (put_first hown1)
           have HB1 := Lib.hid (((Below.refl _ w).alloc (Nat.le_refl _) _).trans (below_own (World.ownsRow_lit w #[] 0 (Nat.le_refl _) (by unfold maxLen; omega) rfl) hg1 (by simp)))
           clear hown1 hg1)
        | (refine wpAppOne elemI rfl _ _ rfl w.heap.size _ (I (l.take k)) rfl HN1.out _ rfl rfl rfl (by rw [I_len, List.length_take]; omega) HB1.out.size ?_
           intro v2 w2 hown2 hg2
           have HN2 := Lib.hid (put_second hown2)
           have HB2 := Lib.hid (HB1.out.trans (below_own HN1.out hg2 HB1.out.size))
           clear hown2 hg2)
        | (refine wpAppRow elemI rfl _ _ rfl w.heap.size _ (I (l.take k ++ [n])) (I (l.drop k)) _ rfl HN2.out rfl (HD.out.below HB2.out) (I_one _) (by rw [I_len, I_len, List.length_append, List.length_take, List.length_drop, List.length_singleton]; omega) HB2.out.size ?_
           intro v3 w3 hown3 hg3
           have HN3 := Lib.hid (put_third hown3 HP.out)
           have HB3 := Lib.hid (HB2.out.trans (below_own HN2.out hg3 HB2.out.size))
           clear hown3 hg3))
      go_ret
      exact ⟨_, rfl, own_base HN3.out hB, HB3.out⟩

end Go.Proofs.Ytcplooeohdhlkaa
