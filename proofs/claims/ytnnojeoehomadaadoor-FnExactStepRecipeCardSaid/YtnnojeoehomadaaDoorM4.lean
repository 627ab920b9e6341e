/- Texts of one claim, joined in their order. -/
import Derived.Deep.RegionWith
import Derived.Deep.RegionHeld3
import Derived.Laws.OwnMore
import Derived.Test.YtnnojeoehomadaaDoorM3
import Derived.Test.YtnnojeoehomadaaDoorM2
import Derived.Test.YtnnojeoehomadaaDoorM1

/- Walks: letters made great. -/
namespace Go.Proofs.YtnnojeoehomadaaDoor
open Go.RowKit Pth

/-- The first k letters are great. -/
def upAt (l : List UInt8) (k : Nat) : Array UInt8 := (upT (l.take k) ++ l.drop k).toArray
theorem upAt_size (l : List UInt8) (k : Nat) : (upAt l k).size = l.length := by
  simp [upAt, upT]; omega
theorem upAt_zero (l : List UInt8) : upAt l 0 = l.toArray := by simp [upAt, upT]
theorem upAt_all (l : List UInt8) : (upAt l l.length).toList = upT l := by simp [upAt]
theorem upAt_get {l : List UInt8} {k : Nat} (h : k < l.length) : (upAt l k)[k]! = l[k] := by
  have hk : k < (upAt l k).size := by rw [upAt_size]; exact h
  rw [getElem!_pos (upAt l k) k hk]
  simp [upAt, upT, List.getElem_append_right, Nat.min_eq_left (Nat.le_of_lt h)]
theorem upAt_step {l : List UInt8} {k : Nat} (h : k < l.length) : upAt l (k + 1) = (upAt l k).setIfInBounds k (upB l[k]) := by
  apply Array.ext'
  have hlen : (upT (List.take k l)).length = k := by simp [upT]; omega
  simp only [upAt, Array.toList_setIfInBounds, List.set_append]
  rw [if_neg (by rw [hlen]; omega), hlen, Nat.sub_self, List.drop_eq_getElem_cons h]
  simp only [List.set_cons_zero]
  rw [List.take_add_one, List.getElem?_eq_getElem h]
  simp only [upT, List.map_append, Option.toList_some, List.map_cons, List.map_nil, List.append_assoc, List.cons_append, List.nil_append]
theorem upAt_same {l : List UInt8} {k : Nat} (h : k < l.length) (hu : upB l[k] = l[k]) : upAt l (k + 1) = upAt l k := by
  rw [upAt_step h, hu]
  apply Array.ext
  · simp
  · intro i h1 h2
    by_cases e : k = i
    · subst e
      have := upAt_get h
      rw [getElem!_pos (upAt l k) k h2] at this
      simp [this]
    · rw [Array.getElem_setIfInBounds]
      rw [if_neg e]

theorem up_letter {x : UInt8} (h1 : 97 ≤ x.toNat) (h2 : x.toNat ≤ 122) : ((upB x).toNat : Int) = (x.toNat : Int) - 32 := by
  rw [upB, if_pos ⟨h1, h2⟩, UInt8.toNat_sub_of_le _ _ (by rw [UInt8.le_iff_toNat_le]; show 32 ≤ x.toNat; omega)]
  show ((x.toNat - 32 : Nat) : Int) = _
  omega
theorem up_other {x : UInt8} (h : ¬ (97 ≤ x.toNat ∧ x.toNat ≤ 122)) : upB x = x := if_neg h

set_option maxRecDepth 20000 in
set_option maxHeartbeats 2000000 in
theorem upperS_any (l : List UInt8) (w : World) (hl : l.length < 50) : Calls Tryd.prog 49 #[.string ⟨l.toArray⟩] w (TextPost (upT l) w) := by
  obtain ⟨cap, tl, w1, K1, hc, hs, hb, hz⟩ := to_bytes l w
  have HB := Lib.hid hb
  have HS0 : Hid (SB w.heap.size tl (upAt l 0) w1) := by rw [upAt_zero]; exact hs
  clear hs hb
  go_enter Tryd.func49, Tryd.ntmps49
  go_wp2_with fail
  go_loopw [10] (fun p wr => ∃ i : Nat, i ≤ l.length ∧ p = .int .i64 i ∧ Hid (SB w.heap.size tl (upAt l i) wr) ∧ Hid (On w.heap.size w1 wr)) (fun p _ => l.length - (intOf p).toNat)
  case atStart => exact ⟨0, Nat.zero_le _, by go_num, HS0, On.refl _ _⟩
  case round =>
    clear HS0
    obtain ⟨i, hi, rfl, HS, HO⟩ := hrel
    by_cases hlt : i < l.length
    · have hltz : (i : Int) < (l.length : Int) := by omega
      have c1 := HS.out.cell (i := i) (by rw [upAt_size]; exact hlt)
      have f1 := HS.out.frozen i (by rw [upAt_size]; exact hlt)
      rw [upAt_get hlt] at c1
      have HU := Lib.hid (fun x (_ : x = l[i]) => HS.out.set (i := i) (by rw [upAt_size]; exact hlt) (upB x))
      have HE : Hid (∀ x, x = l[i] → upAt l (i + 1) = (upAt l i).setIfInBounds i (upB x)) := fun x e => by rw [e]; exact upAt_step hlt
      have HF : Hid (∀ x, x = l[i] → upB x = x → upAt l (i + 1) = upAt l i) := fun x e h => upAt_same hlt (by rw [← e]; exact h)
      obtain ⟨x, hx⟩ : ∃ x, x = l[i] := ⟨_, rfl⟩
      rw [← hx] at c1
      have HX := Lib.hid hx
      clear hx
      have hx8 : x.toNat < 256 := x.toNat_lt
      by_cases hA : 97 ≤ x.toNat
      · have hAz : (97 : Int) ≤ (x.toNat : Int) := by omega
        by_cases hB : x.toNat ≤ 122
        · have hBz : (x.toNat : Int) ≤ 122 := by omega
          have hU := HU.out x HX.out
          rw [up_letter hA hB] at hU
          have HU2 : Hid (SB w.heap.size tl (upAt l (i + 1)) (wr.setCell ⟨w.heap.size, i, none⟩ (.int .u8 ((x.toNat : Int) - 32)))) := by rw [HE.out x HX.out]; exact hU
          clear hU
          go_wp2_with fail
          go_roundw
          case rel => exact ⟨i + 1, by omega, by go_num, HU2.out, HO.out.set _ _⟩
          case measure => simp [intOf]; omega
        · have hBz : ¬ ((x.toNat : Int) ≤ 122) := by omega
          have HS2 : Hid (SB w.heap.size tl (upAt l (i + 1)) wr) := by rw [HF.out x HX.out (up_other (by omega))]; exact HS.out
          go_wp2_with fail
          go_roundw
          case rel => exact ⟨i + 1, by omega, by go_num, HS2, HO⟩
          case measure => simp [intOf]; omega
      · have hAz : ¬ ((97 : Int) ≤ (x.toNat : Int)) := by omega
        have HS2 : Hid (SB w.heap.size tl (upAt l (i + 1)) wr) := by rw [HF.out x HX.out (up_other (by omega))]; exact HS.out
        go_wp2_with fail
        go_roundw
        case rel => exact ⟨i + 1, by omega, by go_num, HS2, HO⟩
        case measure => simp [intOf]; omega
    · have hltz : ¬ ((i : Int) < (l.length : Int)) := by omega
      have K2 := of_bytes HS.out (n := l.length) (upAt_size _ _) cap
      rw [show i = l.length by omega, upAt_all] at K2
      go_wp2_with fail
      go_ret
      exact ⟨by simp, below_on HB.out HO.out⟩

set_option maxRecDepth 20000 in
set_option maxHeartbeats 2000000 in
theorem upper_any (l : List UInt8) (w : World) (hl : l.length < 50) : Calls Tryd.prog 55 #[.string ⟨l.toArray⟩] w (TextPost (upT l) w) := by
  obtain ⟨cap, tl, w1, K1, hc, hs, hb, hz⟩ := to_bytes l w
  have HB := Lib.hid hb
  have HS0 : Hid (SB w.heap.size tl (upAt l 0) w1) := by rw [upAt_zero]; exact hs
  clear hs hb
  go_enter Tryd.func55, Tryd.ntmps55
  go_wp2_with fail
  go_loopw [10] (fun p wr => ∃ i : Nat, i ≤ l.length ∧ p = .int .i64 i ∧ Hid (SB w.heap.size tl (upAt l i) wr) ∧ Hid (On w.heap.size w1 wr)) (fun p _ => l.length - (intOf p).toNat)
  case atStart => exact ⟨0, Nat.zero_le _, by go_num, HS0, On.refl _ _⟩
  case round =>
    clear HS0
    obtain ⟨i, hi, rfl, HS, HO⟩ := hrel
    by_cases hlt : i < l.length
    · have hltz : (i : Int) < (l.length : Int) := by omega
      have c1 := HS.out.cell (i := i) (by rw [upAt_size]; exact hlt)
      have f1 := HS.out.frozen i (by rw [upAt_size]; exact hlt)
      rw [upAt_get hlt] at c1
      have HU := Lib.hid (fun x (_ : x = l[i]) => HS.out.set (i := i) (by rw [upAt_size]; exact hlt) (upB x))
      have HE : Hid (∀ x, x = l[i] → upAt l (i + 1) = (upAt l i).setIfInBounds i (upB x)) := fun x e => by rw [e]; exact upAt_step hlt
      have HF : Hid (∀ x, x = l[i] → upB x = x → upAt l (i + 1) = upAt l i) := fun x e h => upAt_same hlt (by rw [← e]; exact h)
      obtain ⟨x, hx⟩ : ∃ x, x = l[i] := ⟨_, rfl⟩
      rw [← hx] at c1
      have HX := Lib.hid hx
      clear hx
      have hx8 : x.toNat < 256 := x.toNat_lt
      by_cases hA : 97 ≤ x.toNat
      · have hAz : (97 : Int) ≤ (x.toNat : Int) := by omega
        by_cases hB : x.toNat ≤ 122
        · have hBz : (x.toNat : Int) ≤ 122 := by omega
          have hU := HU.out x HX.out
          rw [up_letter hA hB] at hU
          have HU2 : Hid (SB w.heap.size tl (upAt l (i + 1)) (wr.setCell ⟨w.heap.size, i, none⟩ (.int .u8 ((x.toNat : Int) - 32)))) := by rw [HE.out x HX.out]; exact hU
          clear hU
          go_wp2_with fail
          go_roundw
          case rel => exact ⟨i + 1, by omega, by go_num, (by have := HU2.out; first | exact this | (rw [show (x.toNat : Int) - 32 = (x.toNat : Int) - 97 + 65 by omega] at this; exact this)), HO.out.set _ _⟩
          case measure => simp [intOf]; omega
        · have hBz : ¬ ((x.toNat : Int) ≤ 122) := by omega
          have HS2 : Hid (SB w.heap.size tl (upAt l (i + 1)) wr) := by rw [HF.out x HX.out (up_other (by omega))]; exact HS.out
          go_wp2_with fail
          go_roundw
          case rel => exact ⟨i + 1, by omega, by go_num, HS2, HO⟩
          case measure => simp [intOf]; omega
      · have hAz : ¬ ((97 : Int) ≤ (x.toNat : Int)) := by omega
        have HS2 : Hid (SB w.heap.size tl (upAt l (i + 1)) wr) := by rw [HF.out x HX.out (up_other (by omega))]; exact HS.out
        go_wp2_with fail
        go_roundw
        case rel => exact ⟨i + 1, by omega, by go_num, HS2, HO⟩
        case measure => simp [intOf]; omega
    · have hltz : ¬ ((i : Int) < (l.length : Int)) := by omega
      have K2 := of_bytes HS.out (n := l.length) (upAt_size _ _) cap
      rw [show i = l.length by omega, upAt_all] at K2
      go_wp2_with fail
      go_ret
      exact ⟨by simp, below_on HB.out HO.out⟩

end Go.Proofs.YtnnojeoehomadaaDoor

/- Walks: the reference's sort of a text's bytes. -/
namespace Go.Proofs.YtnnojeoehomadaaDoor
open Go.RowKit Pth

theorem ins_zero (n : Nat) (d : Array UInt8) : Sort.insOuter ltB 0 n 0 d = Sort.insertionSort ltB d 0 n := by
  by_cases h : 0 < n
  · rw [insOuter_go h, insInner_low (Nat.le_refl _)]; rfl
  · rw [insOuter_stop h]
    show d = Sort.insOuter ltB 0 n (0 + 1) d
    rw [insOuter_stop (by omega)]
theorem ins_sortT {l : List UInt8} {c : Array UInt8} (h : Sort.insOuter ltB 0 l.length 0 l.toArray = c) : c.toList = sortT l := by
  rw [ins_zero] at h
  obtain ⟨q1, q2⟩ := Sort.insertionSort_holds swo8 l.toArray 0 l.length (Nat.zero_le _) (by simp)
  rw [h] at q1 q2
  simpa using sorted_T (d := l.toArray) (n := l.length) (by simp) q1 q2

set_option maxRecDepth 20000 in
set_option maxHeartbeats 4000000 in
theorem sortS_any (l : List UInt8) (w : World) (hl : l.length < 50) : Calls Tryd.prog 50 #[.string ⟨l.toArray⟩] w (TextPost (sortT l) w) := by
  obtain ⟨cap, tl, w1, K1, hc, hs, hb, hz⟩ := to_bytes l w
  obtain ⟨n, hn⟩ : ∃ n, n = l.length := ⟨_, rfl⟩
  have HB := Lib.hid hb
  have HS := Lib.hid hs
  have HZ := Lib.hid (show l.toArray.size = n by simp [hn])
  obtain ⟨g, hg⟩ : ∃ g, g = w.heap.size := ⟨_, rfl⟩
  rw [← hg] at HS K1
  rw [← hn] at K1 hl
  have HN := Lib.hid hn
  have HG := Lib.hid hg
  clear hs hb hn hg
  go_enter Tryd.func50, Tryd.ntmps50
  go_wp2_with fail
  go_loopw [11] (fun q wr => ∃ (i : Nat) (d : Array UInt8), i ≤ n ∧ q = .int .i64 i ∧ Hid (SB g tl d wr) ∧ Hid (On g w1 wr) ∧ Hid (d.size = n) ∧ Hid (Sort.insOuter ltB 0 n 0 l.toArray = Sort.insOuter ltB 0 n i d)) (fun q _ => n - (intOf q).toNat)
  case atStart => exact ⟨0, l.toArray, Nat.zero_le _, by go_num, HS, On.refl _ _, HZ, rfl⟩
  case round =>
    clear HS HZ
    obtain ⟨i, d, hi, rfl, HS, HO, HZ, HE⟩ := hrel
    by_cases hlt : i < n
    · have HE1 := Lib.hid (HE.out.trans (insOuter_go hlt))
      have hltz : (i : Int) < (n : Int) := by omega
      clear HE
      go_wp2_with fail
      go_loopw [5] (fun q wq => ∃ (j : Nat) (c : Array UInt8), j ≤ i ∧ q = .int .i64 j ∧ Hid (SB g tl c wq) ∧ Hid (On g w1 wq) ∧ Hid (c.size = n) ∧ Hid (Sort.insInner ltB 0 i d = Sort.insInner ltB 0 j c)) (fun q _ => (intOf q).toNat)
      case atStart => exact ⟨i, d, Nat.le_refl _, rfl, HS, HO, HZ, rfl⟩
      case round =>
        clear HS HO HZ
        obtain ⟨j, c, hj, rfl, HS, HO, HZ, HF⟩ := hrel
        by_cases hja : 0 < j
        · obtain ⟨m, rfl⟩ : ∃ m, j = m + 1 := ⟨j - 1, by omega⟩
          have hg1 : decide ((0 : Int) < (m : Int) + 1) = true := decide_eq_true (by omega)
          have c1 := HS.out.cell (i := m + 1) (by rw [HZ.out]; omega)
          have c0 := HS.out.cell (i := m) (by rw [HZ.out]; omega)
          have hx1 : (m : Int) + 1 < (n : Int) := by omega
          have hx0 : (m : Int) < (n : Int) := by omega
          have hx2 : (0 : Int) ≤ (m : Int) + 1 := by omega
          have hn1 : ((m : Int) + 1).toNat = m + 1 := by omega
          have hw1 : IntKind.i64.wrap (m : Int) = (m : Int) := IntWalk.i64_in _ (by omega)
          by_cases hlb : ltB c[m + 1]! c[m]! = true
          · have HF1 := Lib.hid (HF.out.trans (insInner_go hja hlb))
            have HS1 := Lib.hid (HS.out.swap (i := m + 1) (j := m) (by rw [HZ.out]; omega) (by rw [HZ.out]; omega))
            have HZ1 : Hid ((Sort.swp c (m + 1) m).size = n) := (swp_sz _ _ _).trans HZ.out
            have f1 := HS.out.frozen (m + 1) (by rw [HZ.out]; omega)
            have f0 := HS.out.frozen m (by rw [HZ.out]; omega)
            have hq : (c[m + 1]!.toNat : Int) < (c[m]!.toNat : Int) := by simp only [ltB, decide_eq_true_eq] at hlb; omega
            generalize Sort.swp c (m + 1) m = c' at HS1 HF1 HZ1
            clear HF hlb
            generalize c[m + 1]! = x at c1 hq HS1
            generalize c[m]! = y at c0 hq HS1
            go_wp2_with fail
            go_quiet (fail)
            go_wp2_with fail
            go_roundw
            case rel => exact ⟨m, c', by omega, by go_num, HS1.out, (HO.out.drewN _).swap _ _ _ _, HZ1, HF1⟩
            case measure => simp [intOf]
          · have HF1 := Lib.hid (HF.out.trans (insInner_stop (by simpa using hlb)))
            have hq : ¬ ((c[m + 1]!.toNat : Int) < (c[m]!.toNat : Int)) := by simp only [ltB, decide_eq_true_eq] at hlb; omega
            clear HF hlb
            generalize c[m + 1]! = x at c1 hq
            generalize c[m]! = y at c0 hq
            go_wp2_with fail
            go_quiet (fail)
            go_wp2_with fail
            go_roundw
            case rel => exact ⟨i + 1, c, by omega, by go_num, HS.out.drewN _, HO.out.drewN _, HZ, by rw [HE1.out, HF1.out]; rfl⟩
            case measure => simp [intOf]; omega
        · have hg1 : decide ((0 : Int) < (j : Int)) = false := decide_eq_false (by omega)
          have HF1 := Lib.hid (HF.out.trans (insInner_low (by omega)))
          clear HF
          go_wp2_with fail
          go_quiet (fail)
          go_wp2_with fail
          go_roundw
          case rel => exact ⟨i + 1, c, by omega, by go_num, HS.out.drewN _, HO.out.drewN _, HZ, by rw [HE1.out, HF1.out]; rfl⟩
          case measure => simp [intOf]; omega
    · have hltz : ¬ ((i : Int) < (n : Int)) := by omega
      have HE1 := Lib.hid (HE.out.trans (insOuter_stop hlt))
      clear HE
      have K2 := of_bytes HS.out (n := n) HZ.out cap
      have hq : d.toList = sortT l := ins_sortT (by rw [← HN.out]; exact HE1.out)
      rw [hq] at K2
      clear hq
      go_wp2_with fail
      go_ret
      exact ⟨by simp, below_on HB.out (by rw [← HG.out]; exact HO.out)⟩

end Go.Proofs.YtnnojeoehomadaaDoor

/- Walks: numbers as text, the lesser of two, texts that are too long. -/
namespace Go.Proofs.YtnnojeoehomadaaDoor
open Go.RowKit Pth

theorem least_any (a b : Nat) (w : World) (ha : a ≤ 1000) (hb : b ≤ 1000) : Calls Tryd.prog 51 #[.int .i64 a, .int .i64 b] w fun e w' => e = .returned (.int .i64 ((min a b : Nat) : Int)) ∧ w' = w := by
  by_cases h : a < b
  · have hz : (a : Int) < (b : Int) := by omega
    go_enter Tryd.func51, Tryd.ntmps51
    go_wp2
    go_ret
    exact ⟨by rw [Nat.min_eq_left (Nat.le_of_lt h)]; rfl, rfl⟩
  · have hz : ¬ ((a : Int) < (b : Int)) := by omega
    go_enter Tryd.func51, Tryd.ntmps51
    go_wp2
    go_ret
    exact ⟨by rw [Nat.min_eq_right (by omega)]; rfl, rfl⟩
theorem long_any (l : List UInt8) (w : World) (hl : l.length ≤ maxLen) : Calls Tryd.prog 41 #[.string ⟨l.toArray⟩] w fun e w' => e = .returned (.bool (decide (40 < l.length))) ∧ w' = w := by
  go_enter Tryd.func41, Tryd.ntmps41
  go_wp2
  go_ret
  refine ⟨?_, rfl⟩
  congr 2
  simp [ByteArray.size]
  omega
theorem clone_text (l : List UInt8) (w : World) (hl : l.length ≤ 1000) : Calls Tryd.prog 43 #[.string ⟨l.toArray⟩] w (TextPost l w) := by
  have HC := Lib.hid (Tryd.stringslite_Clone ⟨l.toArray⟩ w (by simp [ByteArray.size]; omega))
  go_enter Tryd.func43, Tryd.ntmps43
  go_wp2_with fail
  refine HC.out.mono ?_
  rintro e w' ⟨rfl, hb⟩
  go_wp2_with fail
  go_ret
  exact ⟨rfl, hb⟩
theorem dig_num : ∀ n : Fin 100, Lib.decDigits n.val = numT n.val := by decide +kernel
theorem itoa_any (n : Nat) (w : World) (hn : n < 100) : Calls Tryd.prog 57 #[.int .i64 n] w fun e w' => e = .returned (.string ⟨(numT n).toArray⟩) ∧ w' = w := by
  rw [← dig_num ⟨n, hn⟩]
  exact Tryd.strconv_Itoa_small n hn w
theorem dig_to {n : Nat} (h : n < 10) : ((digB n).toNat : Int) = 48 + n := by
  simp only [digB, UInt8.toNat_ofNat']
  omega
set_option maxHeartbeats 1000000 in
theorem num_low (n : Nat) (N : Int) (hN : N = n) (w : World) (hn : n < 10) : Calls Tryd.prog 52 #[.int .i64 N] w (TextPost (numT n) w) := by
  have hz : N < 10 := by omega
  have h0 : 0 ≤ N := by omega
  have hc := run_one_byte (digB n) w
  rw [dig_to hn, ← hN] at hc
  have HT := Lib.hid (show numT n = [digB n] from if_pos hn)
  clear hN
  go_enter Tryd.func52, Tryd.ntmps52
  go_wp2_with fail
  go_ret
  exact ⟨by rw [HT.out]; rfl, (Below.refl _ _).alloc (Nat.le_refl _) _⟩

end Go.Proofs.YtnnojeoehomadaaDoor

/- Walks: numbers of two digits as text. -/
namespace Go.Proofs.YtnnojeoehomadaaDoor
open Go.RowKit Pth

theorem of_one (c : UInt8) (w : World) (g : Nat) (h : w.cell? ⟨g, 0, none⟩ = some (.int .u8 (c.toNat : Int))) : (convert 22 9 (.slice (some ⟨g, 0, none⟩) 1 1)).run Tryd.prog w = .ok (.string ⟨#[c]⟩) w :=
  run_convert_bytes_back _ 22 9 5 ⟨g, 0, none⟩ 1 [c] Tryd.underlying22 Tryd.underlying5 Tryd.underlying9 (fun j hj => by
    have hj0 : j = 0 := by simp at hj; omega
    subst hj0
    exact h)
theorem cell_up {w w' : World} {r : Nat} (hb0 : Below (w.alloc (.cells #[.int .u8 (48 + (r : Int))] 5)).drew.heap.size (w.alloc (.cells #[.int .u8 (48 + (r : Int))] 5)).drew w') (hr : r < 10) : (convert 22 9 (.slice (some ⟨w.heap.size, 0, none⟩) 1 1)).run Tryd.prog w' = .ok (.string ⟨#[digB r]⟩) w' ∧ Below w.heap.size w w' := by
  have hb : Below (w.alloc (.cells #[.int .u8 (48 + (r : Int))] 5)).heap.size (w.alloc (.cells #[.int .u8 (48 + (r : Int))] 5)) w' := ⟨hb0.os, hb0.tape, hb0.output, hb0.size, hb0.block⟩
  refine ⟨of_one _ _ _ ?_, ?_⟩
  · rw [hb.cell (by simp), dig_to hr]
    exact one_new w _ _ 0 _ rfl
  · exact ⟨hb.os, hb.tape, hb.output, Nat.le_trans (by simp) hb.size, fun k hk => (hb.block k (by simp; omega)).trans (Below.heap_alloc w _ k hk)⟩
theorem cell_up2 {W w' : World} {g r : Nat} (hb : Below W.heap.size W w') (hr : r < 10) (hk : W.cell? ⟨g, 0, none⟩ = some (.int .u8 (48 + (r : Int)))) (hg : g < W.heap.size) : (convert 22 9 (.slice (some ⟨g, 0, none⟩) 1 1)).run Tryd.prog w' = .ok (.string ⟨#[digB r]⟩) w' :=
  of_one _ _ _ (by rw [hb.cell hg, hk, dig_to hr])
set_option maxRecDepth 20000 in
set_option maxHeartbeats 4000000 in
theorem num_two (n : Nat) (w : World) (h1 : 10 ≤ n) (h2 : n < 100) : Calls Tryd.prog 52 #[.int .i64 n] w (TextPost (numT n) w) := by
  have HC : Hid (∀ W, Calls Tryd.prog 52 #[.int .i64 ((n / 10 : Nat) : Int)] W (TextPost [digB (n / 10)] W)) := fun W => by
    have := num_low (n / 10) _ rfl W (by omega)
    rwa [show numT (n / 10) = [digB (n / 10)] from if_pos (by omega)] at this
  have hz : ¬ ((n : Int) < 10) := by omega
  have ht : Int.tdiv (n : Int) 10 = ((n / 10 : Nat) : Int) := (Int.ofNat_tdiv n 10).symm
  have hm : Int.tmod (n : Int) 10 = ((n % 10 : Nat) : Int) := (Int.ofNat_tmod n 10).symm
  have hc := fun W => run_one_byte (digB (n % 10)) W
  have hd := fun (W : World) => of_one (digB (n % 10)) (W.alloc (.cells #[.int .u8 ((digB (n % 10)).toNat : Int)] 5)).drew W.heap.size (one_new W _ _ 0 _ rfl)
  rw [dig_to (show n % 10 < 10 by omega)] at hd
  rw [dig_to (show n % 10 < 10 by omega)] at hc
  have HT : Hid (numT n = [digB (n / 10), digB (n % 10)]) := by
    show numT n = _
    unfold numT; rw [if_neg (by omega)]
  have hq : n / 10 < 10 := by omega
  have hr : n % 10 < 10 := by omega
  have w1 : IntKind.i64.wrap ((n / 10 : Nat) : Int) = ((n / 10 : Nat) : Int) := IntWalk.i64_in _ (by omega)
  have w2 : IntKind.i64.wrap ((n % 10 : Nat) : Int) = ((n % 10 : Nat) : Int) := IntWalk.i64_in _ (by omega)
  have w3 : IntKind.i64.wrap (48 + ((n % 10 : Nat) : Int)) = 48 + ((n % 10 : Nat) : Int) := IntWalk.i64_in _ (by omega)
  have w4 : IntKind.u8.wrap (48 + ((n % 10 : Nat) : Int)) = 48 + ((n % 10 : Nat) : Int) := by
    rw [IntWalk.u8_in _ (by omega)]
  obtain ⟨q, hq'⟩ : ∃ q, q = n / 10 := ⟨_, rfl⟩
  obtain ⟨r, hr'⟩ : ∃ r, r = n % 10 := ⟨_, rfl⟩
  rw [← hq'] at ht HC HT hq w1
  rw [← hr'] at hm hc hd HT hr w2 w3 w4
  clear hq' hr'
  go_enter Tryd.func52, Tryd.ntmps52
  go_wp2_with fail
  go_region_with (go_at_call 52; refine (HC.out _).mono ?_; rintro e w' ⟨rfl, hb⟩; first | (obtain ⟨ka, kb⟩ := cell_up hb hr; clear hb) | (have kb := hb; clear hb))
  all_goals
    have hB : Below w.heap.size w w' := ⟨kb.os, kb.tape, kb.output, kb.size, kb.block⟩
    go_wp2_with fail
    go_ret
    refine ⟨by rw [HT.out]; rfl, ?_⟩
    first | exact hB | exact hB.alloc (by have := hB.size; omega) _ | exact ⟨hB.os, hB.tape, hB.output, hB.size, hB.block⟩

theorem num_any (n : Nat) (w : World) (h : n < 100) : Calls Tryd.prog 52 #[.int .i64 n] w (TextPost (numT n) w) := by
  by_cases h1 : n < 10
  · exact num_low n _ rfl w h1
  · exact num_two n w (by omega) h

end Go.Proofs.YtnnojeoehomadaaDoor

/- Walks: whether texts are short enough. -/
namespace Go.Proofs.YtnnojeoehomadaaDoor
open Go.RowKit Pth

theorem all_long {l : List (List UInt8)} {k : Nat} (h : k < l.length) (hx : 40 < l[k].length) : l.all (fun x => decide (x.length ≤ 40)) = false := by
  rw [List.all_eq_false]
  exact ⟨l[k], List.getElem_mem h, by simp; omega⟩
theorem take_next {l : List (List UInt8)} {k : Nat} (h : k < l.length) (ha : ∀ x ∈ l.take k, x.length ≤ 40) (hx : l[k].length ≤ 40) : ∀ x ∈ l.take (k + 1), x.length ≤ 40 := by
  intro x hm
  rw [List.take_succ_eq_append_getElem h, List.mem_append, List.mem_singleton] at hm
  rcases hm with h | h
  · exact ha x h
  · rw [h]; exact hx

set_option maxHeartbeats 1000000 in
theorem texts_any (l : List (List UInt8)) (v : Value) (w : World) (hrow : RowV w v (S l)) (hx : ∀ x ∈ l, x.length ≤ maxLen) :
    Calls Tryd.prog 28 #[v] w fun e w' => e = .returned (.bool (textsL l)) ∧ w = w' := by
  obtain ⟨a, cap, rfl, hc1, hc2, hat⟩ := hrow.texts
  clear hrow
  unfold maxLen at hc2 hx
  go_enter Tryd.func28, Tryd.ntmps28
  go_wp2_with fail
  go_loop [7] (fun i => ∃ k : Nat, k ≤ l.length ∧ i = .int .i64 k ∧ Hid (∀ x ∈ l.take k, x.length ≤ 40)) (fun i => l.length - (intOf i).toNat)
  case atStart => exact ⟨0, Nat.zero_le _, by go_num, by simp [Hid]⟩
  case round =>
    obtain ⟨k, hk, rfl, HO⟩ := hrel
    by_cases hlt : k < l.length
    · obtain ⟨g, o, rfl, hg, hcell⟩ := hat k hlt
      have hxl := hx l[k] (List.getElem_mem hlt)
      by_cases hy : (l[k]).length ≤ 40
      · have HS := Lib.hid (take_next hlt HO.out hy)
        generalize l[k] = x at hcell hxl hy
        have hyz : ¬ ((40 : Int) < (x.length : Int)) := by omega
        clear hat HO hx
        go_wp2_with fail
        go_round
        case rel => exact ⟨k + 1, by omega, by go_num, HS⟩
        case measure => simp [intOf]; omega
      · have HS := Lib.hid (all_long hlt (by omega))
        generalize l[k] = x at hcell hxl hy
        have hyz : ((40 : Int) < (x.length : Int)) := by omega
        clear hat HO hx
        go_wp2_with fail
        go_ret
        exact ⟨by rw [textsL, HS.out]; rfl, rfl⟩
    · have HS : Hid (l.all (fun x => decide (x.length ≤ 40)) = true) := by
        rw [Hid, List.all_eq_true]
        intro x hm
        have := HO.out x (by rw [List.take_of_length_le (by omega)]; exact hm)
        simpa using this
      have hltz : ¬ ((k : Int) < (l.length : Int)) := by omega
      clear hat HO hx
      go_wp2_with fail
      go_ret
      refine ⟨?_, rfl⟩
      rw [textsL, HS.out, Bool.true_and]
      show Ending.returned (.bool (decide ((l.length : Int) ≤ 10))) = _
      congr 2
      simp only [decide_eq_decide]
      omega

end Go.Proofs.YtnnojeoehomadaaDoor

/- Walks: one step of the reference, a kind each. -/
namespace Go.Proofs.YtnnojeoehomadaaDoor
open Go.RowKit Pth

/-- A text and whether it did not fail; only new memory. -/
def StepPost (t : Option (List UInt8)) (w : World) (e : Ending) (w' : World) : Prop := e = .returned (.tuple #[.string ⟨(txtO t).toArray⟩, .bool t.isSome]) ∧ Below w.heap.size w w'
theorem data_app (a b : List UInt8) : (⟨a.toArray⟩ : ByteArray) ++ ⟨b.toArray⟩ = ⟨(a ++ b).toArray⟩ := by
  apply ByteArray.ext; simp
theorem below_new {w w' : World} {o : Obj} (h : Below (w.alloc o).heap.size (w.alloc o) w') : Below w.heap.size w w' :=
  ⟨h.os, h.tape, h.output, Nat.le_trans (by simp) h.size, fun k hk => (h.block k (by simp; omega)).trans (Below.heap_alloc w _ k hk)⟩

set_option maxRecDepth 20000 in
set_option maxHeartbeats 2000000 in
theorem stepS_upper (ins : List (List UInt8)) (n : Int) (t : List UInt8) (v : Value) (acc : List UInt8) (w : World) (ha : acc.length ≤ 40) :
    Calls Tryd.prog 36 #[opV (3, n, t), v, .string ⟨acc.toArray⟩] w (StepPost (Pth.stepT (3, n, t) ins acc) w) := by
  have hl : (upT acc).length ≤ 40 := by rw [upT_len]; exact ha
  have HT := Lib.hid (show Pth.stepT (3, n, t) ins acc = some (upT acc) by simp [Pth.stepT, rawT, capT]; omega)
  have HC := Lib.hid (fun W => upperS_any acc W (by omega))
  obtain ⟨x, hx⟩ : ∃ x, x = upT acc := ⟨_, rfl⟩
  rw [← hx] at hl HT HC
  clear hx
  have hlz : ¬ ((40 : Int) < (x.length : Int)) := by omega
  unfold opV
  go_enter Tryd.func36, Tryd.ntmps36
  go_wp2_with fail
  refine (HC.out _).mono ?_
  rintro e w1 ⟨rfl, hb⟩
  have HB := Lib.hid (below_new hb)
  clear hb
  go_wp2_with fail
  go_ret2
  exact ⟨by rw [HT.out]; rfl, HB.out⟩

set_option maxRecDepth 20000 in
set_option maxHeartbeats 2000000 in
theorem stepS_sort (ins : List (List UInt8)) (n : Int) (t : List UInt8) (v : Value) (acc : List UInt8) (w : World) (ha : acc.length ≤ 40) :
    Calls Tryd.prog 36 #[opV (4, n, t), v, .string ⟨acc.toArray⟩] w (StepPost (Pth.stepT (4, n, t) ins acc) w) := by
  have hl : (sortT acc).length ≤ 40 := by rw [sortT_len]; exact ha
  have HT := Lib.hid (show Pth.stepT (4, n, t) ins acc = some (sortT acc) by simp [Pth.stepT, rawT, capT]; omega)
  have HC := Lib.hid (fun W => sortS_any acc W (by omega))
  obtain ⟨x, hx⟩ : ∃ x, x = sortT acc := ⟨_, rfl⟩
  rw [← hx] at hl HT HC
  clear hx
  have hlz : ¬ ((40 : Int) < (x.length : Int)) := by omega
  unfold opV
  go_enter Tryd.func36, Tryd.ntmps36
  go_wp2_with fail
  refine (HC.out _).mono ?_
  rintro e w1 ⟨rfl, hb⟩
  have HB := Lib.hid (below_new hb)
  clear hb
  go_wp2_with fail
  go_ret2
  exact ⟨by rw [HT.out]; rfl, HB.out⟩

set_option maxRecDepth 20000 in
set_option maxHeartbeats 2000000 in
theorem stepS_count (ins : List (List UInt8)) (n : Int) (t : List UInt8) (v : Value) (acc : List UInt8) (w : World) (ha : acc.length ≤ 40) :
    Calls Tryd.prog 36 #[opV (6, n, t), v, .string ⟨acc.toArray⟩] w (StepPost (Pth.stepT (6, n, t) ins acc) w) := by
  have hl : (numT acc.length).length ≤ 40 := Nat.le_trans (numT_len _) (by omega)
  have HT := Lib.hid (show Pth.stepT (6, n, t) ins acc = some (numT acc.length) by simp [Pth.stepT, rawT, capT]; omega)
  have HC := Lib.hid (fun W => num_any acc.length W (by omega))
  obtain ⟨x, hx⟩ : ∃ x, x = numT acc.length := ⟨_, rfl⟩
  rw [← hx] at hl HT HC
  clear hx
  have hlz : ¬ ((40 : Int) < (x.length : Int)) := by omega
  unfold opV
  go_enter Tryd.func36, Tryd.ntmps36
  go_wp2_with fail
  refine (HC.out _).mono ?_
  rintro e w1 ⟨rfl, hb⟩
  have HB := Lib.hid (below_new hb)
  clear hb
  go_wp2_with fail
  go_ret2
  exact ⟨by rw [HT.out]; rfl, HB.out⟩

set_option maxRecDepth 20000 in
set_option maxHeartbeats 2000000 in
theorem stepS_fail (ins : List (List UInt8)) (n : Int) (t : List UInt8) (v : Value) (acc : List UInt8) (w : World) :
    Calls Tryd.prog 36 #[opV (7, n, t), v, .string ⟨acc.toArray⟩] w (StepPost (Pth.stepT (7, n, t) ins acc) w) := by
  have HT := Lib.hid (show Pth.stepT (7, n, t) ins acc = none by simp [Pth.stepT, rawT])
  have HB := Lib.hid ((Below.refl w.heap.size w).alloc (Nat.le_refl _) (.cells #[.int .i64 7, .int .i64 n, .string ⟨t.toArray⟩] 30))
  unfold opV
  go_enter Tryd.func36, Tryd.ntmps36
  go_wp2_with fail
  go_ret2
  exact ⟨by rw [HT.out]; rfl, HB.out⟩

set_option maxRecDepth 20000 in
set_option maxHeartbeats 2000000 in
theorem stepS_text (ins : List (List UInt8)) (n : Int) (t : List UInt8) (v : Value) (acc : List UInt8) (w : World) (ha : acc.length ≤ 40) (ht : t.length ≤ 10) :
    Calls Tryd.prog 36 #[opV (2, n, t), v, .string ⟨acc.toArray⟩] w (StepPost (Pth.stepT (2, n, t) ins acc) w) := by
  have HB := Lib.hid ((Below.refl w.heap.size w).alloc (Nat.le_refl _) (.cells #[.int .i64 2, .int .i64 n, .string ⟨t.toArray⟩] 30))
  unfold opV
  by_cases hl : (acc ++ t).length ≤ 40
  · have HT := Lib.hid (show Pth.stepT (2, n, t) ins acc = some (acc ++ t) by have h := hl; simp [Pth.stepT, rawT, capT] at h ⊢; exact h)
    have hlz : ¬ ((40 : Int) < (acc.length : Int) + (t.length : Int)) := by simp at hl; omega
    go_enter Tryd.func36, Tryd.ntmps36
    go_wp2_with fail
    go_ret2
    exact ⟨by rw [HT.out]; show _ = Ending.returned (.tuple #[.string ⟨(acc ++ t).toArray⟩, .bool true]); rw [← data_app]; rfl, HB.out⟩
  · have HT := Lib.hid (show Pth.stepT (2, n, t) ins acc = none by have h := hl; simp [Pth.stepT, rawT, capT] at h ⊢; exact h)
    have hlz : ((40 : Int) < (acc.length : Int) + (t.length : Int)) := by simp at hl; omega
    go_enter Tryd.func36, Tryd.ntmps36
    go_wp2_with fail
    go_ret2
    exact ⟨by rw [HT.out]; simp [txtO], HB.out⟩

set_option maxRecDepth 20000 in
set_option maxHeartbeats 2000000 in
theorem stepS_cat (ins : List (List UInt8)) (n : Nat) (t : List UInt8) (v : Value) (acc : List UInt8) (w : World) (hrow : RowV w v (S ins)) (ha : acc.length ≤ 40) (hn : n < ins.length) (hx : ∀ x ∈ ins, x.length ≤ 40) (hi : ins.length ≤ 10) :
    Calls Tryd.prog 36 #[opV (1, n, t), v, .string ⟨acc.toArray⟩] w (StepPost (Pth.stepT (1, n, t) ins acc) w) := by
  obtain ⟨a, cap, rfl, hc1, hc2, hat⟩ := hrow.texts
  clear hrow
  obtain ⟨g, o, rfl, hg, hcell⟩ := hat n hn
  have hxl := hx ins[n] (List.getElem_mem hn)
  have HB := Lib.hid ((Below.refl w.heap.size w).alloc (Nat.le_refl _) (.cells #[.int .i64 1, .int .i64 (n : Int), .string ⟨t.toArray⟩] 30))
  have hcell2 : (w.alloc (.cells #[.int .i64 1, .int .i64 (n : Int), .string ⟨t.toArray⟩] 30)).cell? ⟨g, o + n, none⟩ = some (.string ⟨ins[n].toArray⟩) := by rw [World.cell?_alloc_lt _ _ _ hg]; exact hcell
  have HQ : Hid (∀ y, y = ins[n] → Pth.stepT (1, n, t) ins acc = capT (acc ++ y)) := fun y e => by
    rw [e]
    show capT (acc ++ (ins[(n : Int).toNat]?).getD []) = _
    simp [hn]
  obtain ⟨y, hy⟩ : ∃ y, y = ins[n] := ⟨_, rfl⟩
  have HT := Lib.hid (HQ.out y hy)
  rw [← hy] at hcell hxl hcell2
  have hnz : (n : Int) < (ins.length : Int) := by omega
  clear hat hx HQ hy hc1 hc2
  unfold opV
  by_cases hl : (acc ++ y).length ≤ 40
  · have HV := Lib.hid (HT.out.trans (if_pos hl))
    have hlz : ¬ ((40 : Int) < (acc.length : Int) + (y.length : Int)) := by simp at hl; omega
    go_enter Tryd.func36, Tryd.ntmps36
    go_wp2_with fail
    go_ret2
    exact ⟨by rw [HV.out]; show _ = Ending.returned (.tuple #[.string ⟨(acc ++ y).toArray⟩, .bool true]); rw [← data_app]; rfl, HB.out⟩
  · have HV := Lib.hid (HT.out.trans (if_neg hl))
    have hlz : ((40 : Int) < (acc.length : Int) + (y.length : Int)) := by simp at hl; omega
    go_enter Tryd.func36, Tryd.ntmps36
    go_wp2_with fail
    go_ret2
    exact ⟨by rw [HV.out]; rfl, HB.out⟩

end Go.Proofs.YtnnojeoehomadaaDoor

/- Walks: one step of the reference. -/
namespace Go.Proofs.YtnnojeoehomadaaDoor
open Go.RowKit Pth

theorem drop_min (acc : List UInt8) (n : Nat) : (⟨acc.toArray⟩ : ByteArray).extract (min acc.length n) acc.length = ⟨(acc.drop n).toArray⟩ := by
  apply ByteArray.ext
  simp only [ByteArray.data_extract]
  apply Array.ext'
  simp only [Array.toList_extract, List.extract_eq_take_drop]
  by_cases h : n ≤ acc.length
  · rw [Nat.min_eq_right h, List.take_of_length_le (by simp)]
  · rw [Nat.min_eq_left (by omega), show acc.drop n = [] from List.drop_eq_nil_of_le (by omega)]
    simp

set_option maxRecDepth 20000 in
set_option maxHeartbeats 2000000 in
theorem stepS_drop (ins : List (List UInt8)) (n : Nat) (t : List UInt8) (v : Value) (acc : List UInt8) (w : World) (ha : acc.length ≤ 40) (hn : n ≤ 40) :
    Calls Tryd.prog 36 #[opV (5, n, t), v, .string ⟨acc.toArray⟩] w (StepPost (Pth.stepT (5, n, t) ins acc) w) := by
  have HB := Lib.hid ((Below.refl w.heap.size w).alloc (Nat.le_refl _) (.cells #[.int .i64 5, .int .i64 (n : Int), .string ⟨t.toArray⟩] 30))
  have HC := Lib.hid (fun W => least_any acc.length n W (by omega) (by omega))
  have hd : (acc.drop n).length ≤ 40 := by simp; omega
  have HT := Lib.hid (show Pth.stepT (5, n, t) ins acc = some (acc.drop n) by
    show capT (acc.drop (n : Int).toNat) = _
    simp only [Int.toNat_natCast]
    exact if_pos hd)
  have HD := Lib.hid (drop_min acc n)
  obtain ⟨m, hm⟩ : ∃ m, m = min acc.length n := ⟨_, rfl⟩
  rw [← hm] at HC HD
  have hm1 : m ≤ acc.length := by omega
  have hm2 : ((acc.length : Int) - (m : Int)) ≤ 40 := by omega
  clear hm
  unfold opV
  go_enter Tryd.func36, Tryd.ntmps36
  go_wp2_with fail
  refine (HC.out _).mono ?_
  rintro e w1 ⟨rfl, rfl⟩
  go_wp2_with fail
  go_ret2
  exact ⟨by rw [HT.out]; show _ = Ending.returned (.tuple #[.string ⟨(acc.drop n).toArray⟩, .bool true]); rw [← HD.out]; rfl, HB.out⟩

theorem stepS_any (o : OpT) (ins : List (List UInt8)) (v : Value) (acc : List UInt8) (w : World) (hrow : RowV w v (S ins)) (hok : opOk ins.length o = true) (ht : textsL ins = true) (ha : acc.length ≤ 40) :
    Calls Tryd.prog 36 #[opV o, v, .string ⟨acc.toArray⟩] w (StepPost (Pth.stepT o ins acc) w) := by
  obtain ⟨k, n, t⟩ := o
  simp only [textsL, Bool.and_eq_true, List.all_eq_true, decide_eq_true_eq] at ht
  simp only [opOk] at hok
  split at hok
  · rename_i h; subst h
    simp only [Bool.and_eq_true, decide_eq_true_eq] at hok
    obtain ⟨m, rfl⟩ : ∃ m : Nat, n = m := ⟨n.toNat, by omega⟩
    exact stepS_cat ins m t v acc w hrow ha (by omega) ht.1 ht.2
  split at hok
  · rename_i h; subst h
    simp only [Bool.and_eq_true, decide_eq_true_eq] at hok
    exact stepS_text ins n t v acc w ha hok.2
  split at hok
  · rename_i h; subst h
    simp only [Bool.and_eq_true, decide_eq_true_eq] at hok
    obtain ⟨m, rfl⟩ : ∃ m : Nat, n = m := ⟨n.toNat, by omega⟩
    exact stepS_drop ins m t v acc w ha (by omega)
  split at hok
  · rename_i h
    rcases h with h | h | h | h <;> subst h
    · exact stepS_upper ins n t v acc w ha
    · exact stepS_sort ins n t v acc w ha
    · exact stepS_count ins n t v acc w ha
    · exact stepS_fail ins n t v acc w
  · cases hok

end Go.Proofs.YtnnojeoehomadaaDoor

/- Walks: a number between two, a number put to its place (as chapter 2 has them). -/
namespace Go.Proofs.YtnnojeoehomadaaDoor
open Go.RowKit Pth

set_option maxHeartbeats 400000 in
theorem l1In_any (n lo hi : Int) (w : World) :
    Calls Tryd.prog 44 #[.int .i64 n, .int .i64 lo, .int .i64 hi] w fun e w' => e = .returned (.bool (decide (lo ≤ n) && decide (n ≤ hi))) ∧ w = w' := by
  go_enter Tryd.func44, Tryd.ntmps44
  go_wp2
  all_goals
    go_ret
    exact ⟨ret_bool (by rw [Bool.eq_iff_iff]; simp <;> omega), rfl⟩


theorem put_start (l : List Int) (n : Int) : putL l n = l.take 0 ++ putL (l.drop 0) n := by simp
theorem put_less {l : List Int} {n : Int} {k : Nat} (hk : k < l.length) (h : putL l n = l.take k ++ putL (l.drop k) n) (hx : l[k] < n) : putL l n = l.take (k + 1) ++ putL (l.drop (k + 1)) n := by
  rw [h, List.drop_eq_getElem_cons hk, putL, if_pos hx, List.take_succ_eq_append_getElem hk, List.append_assoc, List.singleton_append]
theorem put_there {l : List Int} {n : Int} {k : Nat} (hk : k < l.length) (h : putL l n = l.take k ++ putL (l.drop k) n) (hx : l[k] = n) : putL l n = l := by
  rw [h, List.drop_eq_getElem_cons hk, putL, if_neg (by omega), if_pos hx, ← List.drop_eq_getElem_cons hk]; simp
theorem put_new {l : List Int} {n : Int} {k : Nat} (h : putL l n = l.take k ++ putL (l.drop k) n) (hx : ∀ hk : k < l.length, n < l[k]) : putL l n = (l.take k ++ [n]) ++ l.drop k := by
  rw [h]
  by_cases hk : k < l.length
  · have := hx hk
    rw [List.drop_eq_getElem_cons hk, putL, if_neg (by omega), if_neg (by omega)]; simp
  · rw [List.drop_of_length_le (by omega)]; simp [putL]
theorem put_len (l : List Int) (n : Int) : (putL l n).length ≤ l.length + 1 := by
  induction l with
  | nil => simp [putL]
  | cons x t ih =>
    unfold putL
    split
    · simp only [List.length_cons]; omega
    · split <;> simp

theorem put_first {w : World} {B e : Nat} {v : Value} {l : List Int} (h : w.ownsRow B e 1 v ([] ++ I l).length ([] ++ I l)) : w.ownsRow B e 1 v (I l).length (I l) := h
theorem put_second {w : World} {B e : Nat} {v : Value} {l : List Int} {n : Int} (h : w.ownsRow B e 1 v (I l ++ [Value.int .i64 n]).length (I l ++ [Value.int .i64 n])) : w.ownsRow B e 1 v (I (l ++ [n])).length (I (l ++ [n])) := by
  rw [I_append]; exact h
theorem put_third {w : World} {B e : Nat} {v : Value} {l m r : List Int} (h : w.ownsRow B e 1 v (I l ++ I m).length (I l ++ I m)) (hr : r = l ++ m) : w.ownsRow B e 1 v r.length (I r) := by
  rw [← I_append, I_len] at h; rw [hr]; exact h

/-- A slice of numbers cut from k on. -/
theorem run_cutI (a : Option Addr) (n c k : Nat) (hk : k ≤ n) (_hc : n ≤ c) (W : World) :
    (Instr.slice 66 (.slice a n c) (some (.int .i64 (k : Int))) none none).run Tryd.prog W = .ok (.slice (if c = k then a else a.map (·.add (k * 1))) (n - k) (c - k)) W := by
  have h1 : (k : Int) ≤ n := by omega
  by_cases h : c = k
  · go_simp
  · go_simp

theorem cutI {w : World} {a : Option Addr} {l : List Int} {cap k : Nat} (h : RowV w (.slice a l.length cap) (I l)) (hk : k ≤ l.length) (hc : l.length ≤ cap) :
    RowV w (.slice a k cap) (I (l.take k)) ∧ ∃ A1, (∀ W, (Instr.slice 66 (.slice a l.length cap) (some (.int .i64 (k : Int))) none none).run Tryd.prog W = .ok (.slice A1 (l.length - k) (cap - k)) W) ∧ RowV w (.slice A1 (l.length - k) (cap - k)) (I (l.drop k)) := by
  have r0 : RowV w (.slice a (I l).length cap) (I l) := by rw [I_len]; exact h
  have hF := r0.front k (by rw [I_len]; omega)
  have hD := r0.back k (by rw [I_len]; omega)
  rw [I_take] at hF
  rw [I_drop, I_len] at hD
  exact ⟨hF, _, run_cutI a l.length cap k hk hc, hD⟩

/-- A list of numbers is handed back, in memory of the call's own where it was so. -/
def IntsPost (B : Nat) (l : List Int) (w : World) (e : Ending) (w' : World) : Prop :=
  ∃ v, e = .returned v ∧ w'.ownsRow B 3 1 v l.length (I l) ∧ Below w.heap.size w w'

end Go.Proofs.YtnnojeoehomadaaDoor

/- Walks: digests of both programs; the reference's good recipes. -/
namespace Go.Proofs.YtnnojeoehomadaaDoor
open Go.RowKit Pth

/-- A number and whether it was told. -/
def IntPost (x : Int) (b : Bool) (w : World) (e : Ending) (w' : World) : Prop := e = .returned (.tuple #[.int .i64 x, .bool b]) ∧ w = w'
theorem bytes_at {s : ByteArray} {k : Nat} (hk : k < s.size) : s.data.toList[k]'(by simpa using hk) = s[k] := rfl

/-- A bool is handed back; what lay there lies there. -/
def BoolPost (b : Bool) (w : World) (e : Ending) (w' : World) : Prop := e = .returned (.bool b) ∧ Below w.heap.size w w'
theorem in_l {n lo hi : Int} {b : Bool} (h : (decide (lo ≤ n) && decide (n ≤ hi)) = b) (w : World) : Calls Tryd.prog 44 #[.int .i64 n, .int .i64 lo, .int .i64 hi] w fun e w' => e = .returned (.bool b) ∧ w = w' := by
  have := l1In_any n lo hi w; rwa [h] at this
theorem nil_b {t : List UInt8} {b : Bool} (h : decide (t = []) = b) : (t == []) = b := by
  subst h; cases t <;> rfl

set_option maxRecDepth 20000 in
set_option maxHeartbeats 2000000 in
theorem l4Op_any (o : OpT) (ins : Int) (w : World) (h0 : 0 ≤ ins) (h1 : ins ≤ 10) (hx : o.2.2.length ≤ maxLen) :
    Calls Tryd.prog 35 #[opV o, .int .i64 ins] w (BoolPost (opOk ins o) w) := by
  obtain ⟨k, n, t⟩ := o
  unfold opV
  simp only at hx ⊢
  unfold maxLen at hx
  have HB := Lib.hid ((Below.refl w.heap.size w).alloc (Nat.le_refl _) (.cells #[.int .i64 k, .int .i64 n, .string ⟨t.toArray⟩] 30))
  by_cases k1 : k = 1
  · subst k1
    obtain ⟨b1, hb1⟩ : ∃ b, (decide (0 ≤ n) && decide (n ≤ ins - 1)) = b := ⟨_, rfl⟩
    obtain ⟨b2, hb2⟩ : ∃ b, decide (t = []) = b := ⟨_, rfl⟩
    have HT : Hid (opOk ins (1, n, t) = (b1 && b2)) := by rw [opOk_cat, hb1, hb2]; rfl
    have HC := Lib.hid (fun W => in_l hb1 W)
    have hn := nil_b hb2
    clear hb1 hb2
    rcases b1 with _ | _
    · go_enter Tryd.func35, Tryd.ntmps35
      go_wp2_with fail
      refine (HC.out _).mono ?_
      rintro e w1 ⟨rfl, rfl⟩
      go_wp2_with fail
      go_ret
      exact ⟨ret_bool HT.out.symm, HB.out⟩
    · go_enter Tryd.func35, Tryd.ntmps35
      go_wp2_with fail
      refine (HC.out _).mono ?_
      rintro e w1 ⟨rfl, rfl⟩
      go_wp2_with fail
      go_ret
      exact ⟨ret_bool HT.out.symm, HB.out⟩
  have e1 : (k == 1) = false := by simpa using k1
  by_cases k2 : k = 2
  · subst k2
    obtain ⟨b1, hb1⟩ : ∃ b, decide (n = 0) = b := ⟨_, rfl⟩
    obtain ⟨b2, hb2⟩ : ∃ b, decide (t.length ≤ 10) = b := ⟨_, rfl⟩
    have HT : Hid (opOk ins (2, n, t) = (b1 && b2)) := by rw [opOk_text, hb1, hb2]; rfl
    have hn1 : (n == 0) = b1 := hb1
    have hn2 : decide ((t.length : Int) ≤ 10) = b2 := by rw [← hb2]; exact decide_eq_decide.2 (by omega)
    clear hb1 hb2 e1 k1
    rcases b1 with _ | _ <;> rcases b2 with _ | _ <;>
      (go_enter Tryd.func35, Tryd.ntmps35
       go_wp2_with fail
       go_ret
       exact ⟨ret_bool HT.out.symm, HB.out⟩)
  have e2 : (k == 2) = false := by simpa using k2
  by_cases k5 : k = 5
  · subst k5
    obtain ⟨b1, hb1⟩ : ∃ b, (decide (0 ≤ n) && decide (n ≤ 40)) = b := ⟨_, rfl⟩
    obtain ⟨b2, hb2⟩ : ∃ b, decide (t = []) = b := ⟨_, rfl⟩
    have HT : Hid (opOk ins (5, n, t) = (b1 && b2)) := by rw [opOk_drop, hb1, hb2]; rfl
    have HC := Lib.hid (fun W => in_l hb1 W)
    have hn := nil_b hb2
    clear hb1 hb2 e1 k1 e2 k2
    rcases b1 with _ | _
    · go_enter Tryd.func35, Tryd.ntmps35
      go_wp2_with fail
      refine (HC.out _).mono ?_
      rintro e w1 ⟨rfl, rfl⟩
      go_wp2_with fail
      go_ret
      exact ⟨ret_bool HT.out.symm, HB.out⟩
    · go_enter Tryd.func35, Tryd.ntmps35
      go_wp2_with fail
      refine (HC.out _).mono ?_
      rintro e w1 ⟨rfl, rfl⟩
      go_wp2_with fail
      go_ret
      exact ⟨ret_bool HT.out.symm, HB.out⟩
  have e5 : (k == 5) = false := by simpa using k5
  by_cases k3 : k = 3 ∨ k = 4 ∨ k = 6 ∨ k = 7
  · obtain ⟨b1, hb1⟩ : ∃ b, decide (n = 0) = b := ⟨_, rfl⟩
    obtain ⟨b2, hb2⟩ : ∃ b, decide (t = []) = b := ⟨_, rfl⟩
    have HT : Hid (opOk ins (k, n, t) = (b1 && b2)) := by rw [opOk_bare k3, hb1, hb2]; rfl
    have hn1 : (n == 0) = b1 := hb1
    have hn := nil_b hb2
    clear hb1 hb2 k1 k2 k5 e1 e2 e5
    rcases k3 with rfl | rfl | rfl | rfl <;> rcases b1 with _ | _ <;>
      (go_enter Tryd.func35, Tryd.ntmps35
       go_wp2_with fail
       go_ret
       exact ⟨ret_bool HT.out.symm, HB.out⟩)
  · have k3' : k ≠ 3 ∧ k ≠ 4 ∧ k ≠ 6 ∧ k ≠ 7 := by omega
    have HT := Lib.hid (opOk_none (ins := ins) (n := n) (t := t) k1 k2 k3'.1 k3'.2.1 k5 k3'.2.2.1 k3'.2.2.2)
    have e3 : (k == 3) = false := by simpa using k3'.1
    have e4 : (k == 4) = false := by simpa using k3'.2.1
    have e6 : (k == 6) = false := by simpa using k3'.2.2.1
    have e7 : (k == 7) = false := by simpa using k3'.2.2.2
    clear k1 k2 k5 k3 k3'
    go_enter Tryd.func35, Tryd.ntmps35
    go_wp2_with fail
    go_ret
    exact ⟨ret_bool HT.out.symm, HB.out⟩

end Go.Proofs.YtnnojeoehomadaaDoor

/- Walks: the reference's StepRecipe. -/
namespace Go.Proofs.YtnnojeoehomadaaDoor
open Go.RowKit Pth

/-- A text, whether it did not fail, whether it was told; only new memory. -/
def TellPost (ok : Bool) (t : Option (List UInt8)) (w : World) (e : Ending) (w' : World) : Prop := e = .returned (.tuple #[.string ⟨(txtO t).toArray⟩, .bool t.isSome, .bool ok]) ∧ Below w.heap.size w w'
theorem below_step {w w1 w2 : World} (h : Below w.heap.size w w1) (k : Below w1.heap.size w1 w2) : Below w.heap.size w w2 :=
  ⟨k.os.trans h.os, k.tape.trans h.tape, k.output.trans h.output, Nat.le_trans h.size k.size, fun i hi => (k.block i (Nat.lt_of_lt_of_le hi h.size)).trans (h.block i hi)⟩

theorem op_cells {w w1 : World} {k n : Int} {t : List UInt8} (hb : Below (w.alloc (.cells #[.int .i64 k, .int .i64 n, .string ⟨t.toArray⟩] 30)).heap.size (w.alloc (.cells #[.int .i64 k, .int .i64 n, .string ⟨t.toArray⟩] 30)) w1) :
    w1.cell? ⟨w.heap.size, 0, none⟩ = some (.int .i64 k) ∧ w1.cell? ⟨w.heap.size, 1, none⟩ = some (.int .i64 n) ∧ w1.cell? ⟨w.heap.size, 2, none⟩ = some (.string ⟨t.toArray⟩) := by
  have hh : (w.alloc (.cells #[.int .i64 k, .int .i64 n, .string ⟨t.toArray⟩] 30)).heap[w.heap.size]? = some (.cells #[.int .i64 k, .int .i64 n, .string ⟨t.toArray⟩] 30 (0, 0)) := Array.getElem?_push_size
  refine ⟨?_, ?_, ?_⟩ <;> (rw [hb.cell (by simp), Lib.cell_of_heap hh]; rfl)

set_option maxRecDepth 20000 in
set_option maxHeartbeats 2000000 in
theorem specStep_any (o : OpT) (ins : List (List UInt8)) (v : Value) (acc : List UInt8) (w : World) (hrow : RowV w v (S ins)) (hx : ∀ x ∈ ins, x.length ≤ maxLen) (ho : o.2.2.length ≤ maxLen) (hac : acc.length ≤ maxLen) :
    Calls Tryd.prog 21 #[opV o, v, .string ⟨acc.toArray⟩] w (TellPost (stepOk o ins acc) (stepA o ins acc) w) := by
  obtain ⟨k, n, t⟩ := o
  have HR := Lib.hid (hrow.alloc (.cells #[.int .i64 k, .int .i64 n, .string ⟨t.toArray⟩] 30))
  have HX := Lib.hid (texts_any ins v (w.alloc (.cells #[.int .i64 k, .int .i64 n, .string ⟨t.toArray⟩] 30)) HR.out hx)
  have HB := Lib.hid ((Below.refl w.heap.size w).alloc (Nat.le_refl _) (.cells #[.int .i64 k, .int .i64 n, .string ⟨t.toArray⟩] 30))
  have HI := Lib.hid (fun h0 h1 => l4Op_any (k, n, t) (ins.length : Int) (w.alloc (.cells #[.int .i64 k, .int .i64 n, .string ⟨t.toArray⟩] 30)) h0 h1 ho)
  unfold maxLen at hac
  obtain ⟨a, cap, rfl, hc1, hc2, hat⟩ := hrow.texts
  clear hrow hat hx ho
  unfold maxLen at hc2
  unfold opV
  rcases htx : textsL ins with _ | _
  · have HO := Lib.hid (show stepOk (k, n, t) ins acc = false by simp [stepOk, htx])
    rw [htx] at HX
    have HA := Lib.hid (show stepA (k, n, t) ins acc = none by rw [stepA, HO.out]; rfl)
    clear htx
    go_enter Tryd.func21, Tryd.ntmps21
    go_wp2_with (go_at_call 28; refine HX.out.mono ?_; rintro e w1 ⟨rfl, rfl⟩)
    go_ret3
    exact ⟨by rw [HO.out, HA.out]; rfl, HB.out⟩
  · have hin : ins.length ≤ 10 := by simp [textsL] at htx; exact htx.2
    have HC := Lib.hid (HI.out (by omega) (by omega))
    clear HI
    unfold opV at HC
    rw [htx] at HX
    rcases hop : opOk (ins.length : Int) (k, n, t) with _ | _
    · have HO := Lib.hid (show stepOk (k, n, t) ins acc = false by simp [stepOk, hop])
      rw [hop] at HC
      have HA := Lib.hid (show stepA (k, n, t) ins acc = none by rw [stepA, HO.out]; rfl)
      clear htx hop
      go_enter Tryd.func21, Tryd.ntmps21
      go_wp2_with (first | (go_at_call 28; refine HX.out.mono ?_; rintro e w1 ⟨rfl, rfl⟩) | (go_at_call 35; refine HC.out.mono ?_; rintro e w2 ⟨rfl, hb⟩))
      go_ret3
      exact ⟨by rw [HO.out, HA.out]; rfl, below_new hb⟩
    · rw [hop] at HC
      by_cases hl : acc.length ≤ 40
      · have HO := Lib.hid (show stepOk (k, n, t) ins acc = true by simp [stepOk, htx, hop, hl])
        have HA := Lib.hid (show stepA (k, n, t) ins acc = Pth.stepT (k, n, t) ins acc by rw [stepA, HO.out]; rfl)
        have HS := Lib.hid (fun (W : World) (hW : RowV W (.slice a ins.length cap) (S ins)) => stepS_any (k, n, t) ins _ acc W hW hop htx hl)
        unfold opV at HS
        have hlz : ¬ ((40 : Int) < (acc.length : Int)) := by omega
        clear htx hop
        go_enter Tryd.func21, Tryd.ntmps21
        go_wp2_with (first | (go_at_call 28; refine HX.out.mono ?_; rintro e w1 ⟨rfl, rfl⟩) | (go_at_call 35; refine HC.out.mono ?_; rintro e w2 ⟨rfl, hb⟩; obtain ⟨c0, c1, c2⟩ := op_cells hb) | fail)
        refine (HS.out _ (HR.out.below hb)).mono ?_
        rintro e w3 ⟨rfl, hb3⟩
        have HB3 := Lib.hid (below_step (below_new hb) hb3)
        clear hb hb3
        generalize Pth.stepT (k, n, t) ins acc = y at HA
        go_wp2_with fail
        go_ret3
        exact ⟨by rw [HO.out, HA.out]; rfl, HB3.out⟩
      · have HO := Lib.hid (show stepOk (k, n, t) ins acc = false by simp [stepOk]; intro _ _; omega)
        have HA := Lib.hid (show stepA (k, n, t) ins acc = none by rw [stepA, HO.out]; rfl)
        have hlz : ((40 : Int) < (acc.length : Int)) := by omega
        clear htx hop
        go_enter Tryd.func21, Tryd.ntmps21
        go_wp2_with (first | (go_at_call 28; refine HX.out.mono ?_; rintro e w1 ⟨rfl, rfl⟩) | (go_at_call 35; refine HC.out.mono ?_; rintro e w2 ⟨rfl, hb⟩))
        go_ret3
        exact ⟨by rw [HO.out, HA.out]; rfl, below_new hb⟩

end Go.Proofs.YtnnojeoehomadaaDoor

/- Walks: the reference's good recipes, what they read, their texts. -/
namespace Go.Proofs.YtnnojeoehomadaaDoor
open Go.RowKit Pth

theorem l4Op_b {o : OpT} {ins : Int} {b : Bool} (h : opOk ins o = b) (h0 : 0 ≤ ins) (h1 : ins ≤ 10) (hx : o.2.2.length ≤ maxLen) (w : World) : Calls Tryd.prog 35 #[opV o, .int .i64 ins] w (BoolPost b w) := by
  have := l4Op_any o ins w h0 h1 hx; rwa [h] at this

set_option maxRecDepth 20000 in
set_option maxHeartbeats 2000000 in
theorem specGood_any (r : List OpT) (ins : Int) (v : Value) (w : World) (hrow : RowO w v r) (hx : ∀ f ∈ r, f.2.2.length ≤ maxLen) :
    Calls Tryd.prog 29 #[v, .int .i64 ins] w (BoolPost (goodR r ins) w) := by
  obtain ⟨a, cap, rfl, hc1, hc2, hat⟩ := hrow.ops
  clear hrow
  unfold maxLen at hc2
  by_cases hi : 0 ≤ ins ∧ ins ≤ 10
  · have HC0 := Lib.hid (fun W => in_l (n := ins) (lo := 0) (hi := 10) (b := true) (by simp [hi.1, hi.2]) W)
    by_cases h8 : 8 < r.length
    · have HT := Lib.hid (goodR_long (ins := ins) h8)
      have hd : decide ((r.length : Int) > 8) = true := decide_eq_true (by omega)
      clear hat hx
      go_enter Tryd.func29, Tryd.ntmps29
      go_wp2_with fail
      refine (HC0.out _).mono ?_
      rintro e w1 ⟨rfl, rfl⟩
      go_wp2_with fail
      go_ret
      exact ⟨ret_bool HT.out.symm, Below.refl _ _⟩
    · have hd : decide ((r.length : Int) > 8) = false := decide_eq_false (by omega)
      obtain ⟨hi0, hi1⟩ := hi
      go_enter Tryd.func29, Tryd.ntmps29
      go_wp2_with fail
      refine (HC0.out _).mono ?_
      rintro e w1 ⟨rfl, rfl⟩
      go_wp2_with fail
      go_loopw [17] (fun i wr => ∃ k : Nat, k ≤ r.length ∧ i = .int .i64 k ∧ Hid (Below w.heap.size w wr) ∧ Hid ((r.take k).all (opOk ins) = true)) (fun i _ => r.length - (intOf i).toNat)
      case atStart => exact ⟨0, Nat.zero_le _, rfl, Below.refl _ _, by simp [Hid]⟩
      case round =>
        obtain ⟨k, hk, rfl, HB, HO⟩ := hrel
        have hbs := HB.out.size
        by_cases hlt : k < r.length
        · obtain ⟨g, o, rfl, hg, hcell1, hcell2, hcell3⟩ := hat k hlt
          have s1 := (HB.out.cell (p := ⟨g, o + k * 3, none⟩) hg).trans hcell1
          have s2 := (HB.out.cell (p := ⟨g, o + k * 3 + 1, none⟩) hg).trans hcell2
          have s3 := (HB.out.cell (p := ⟨g, o + k * 3 + 2, none⟩) hg).trans hcell3
          have HBA := Lib.hid (HB.out.alloc hbs (.cells #[.int .i64 r[k].1, .int .i64 r[k].2.1, .string ⟨r[k].2.2.toArray⟩] 30))
          have hxl := hx r[k] (List.getElem_mem hlt)
          obtain ⟨b, hbE⟩ : ∃ b, opOk ins r[k] = b := ⟨_, rfl⟩
          have HC := Lib.hid (fun W => l4Op_b hbE hi0 hi1 hxl W)
          have HS : Hid (if b then (r.take (k + 1)).all (opOk ins) = true else goodR r ins = false) := by
            unfold Hid
            rcases b with _ | _
            · exact goodR_bad hlt hbE
            · exact all_next hlt HO.out hbE
          clear hcell1 hcell2 hcell3 hat HO hx hxl hbE
          generalize r[k] = x at s1 s2 s3 HC HBA
          obtain ⟨x1, x2, x3⟩ := x
          unfold opV at HC
          simp only at s1 s2 s3 HC HBA
          go_wp2_with fail
          refine (HC.out _).mono ?_
          rintro e w1 ⟨rfl, hb1⟩
          have HB1 := Lib.hid (HBA.out.trans (hb1.mono HBA.out.size))
          clear hb1 HC
          rcases b with _ | _
          · go_wp2_with fail
            go_ret
            exact ⟨ret_bool (by have := HS.out; simpa using this.symm), HB1.out⟩
          · go_wp2_with fail
            go_roundw
            case rel => exact ⟨k + 1, by omega, by go_num, HB1, by have := HS.out; simpa [Hid] using this⟩
            case measure => simp [intOf]; omega
        · have HT := Lib.hid (goodR_end hi0 hi1 (by omega) (by omega : r.length ≤ k) HO.out)
          clear HO hat hx
          go_wp2_with fail
          go_ret
          exact ⟨ret_bool HT.out.symm, HB.out⟩
  · have HC0 := Lib.hid (fun W => in_l (n := ins) (lo := 0) (hi := 10) (b := false) (by
      rcases Int.lt_or_le ins 0 with h | h
      · simp; omega
      · simp; omega) W)
    have HT := Lib.hid (goodR_ins (r := r) hi)
    clear hat hx
    go_enter Tryd.func29, Tryd.ntmps29
    go_wp2_with fail
    refine (HC0.out _).mono ?_
    rintro e w1 ⟨rfl, rfl⟩
    go_wp2_with fail
    go_ret
    exact ⟨ret_bool HT.out.symm, Below.refl _ _⟩

theorem specGood_b {r : List OpT} {ins : Int} {b : Bool} (h : goodR r ins = b) (v : Value) (w : World) (hrow : RowO w v r) (hx : ∀ f ∈ r, f.2.2.length ≤ maxLen) : Calls Tryd.prog 29 #[v, .int .i64 ins] w (BoolPost b w) := by
  have := specGood_any r ins v w hrow hx; rwa [h] at this

/-- Numbers and whether they stand are handed back, the numbers in memory of the call's own. -/
def IntsOk (l : List Int) (ok : Bool) (w : World) (e : Ending) (w' : World) : Prop :=
  ∃ v, e = .returned (.tuple #[v, .bool ok]) ∧ w'.ownsRow w.heap.size 3 1 v l.length (I l) ∧ Below w.heap.size w w'
/-- A text and whether it stands. -/
def TextOk (t : List UInt8) (ok : Bool) (w : World) (e : Ending) (w' : World) : Prop := e = .returned (.tuple #[.string ⟨t.toArray⟩, .bool ok]) ∧ Below w.heap.size w w'
theorem none_own (w : World) (B e : Nat) : w.ownsRow B e 1 (.slice none 0 0) 0 [] := ⟨rfl, .inl ⟨rfl, rfl⟩⟩
theorem read1_cat {out : List Int} {o : OpT} (h : (o.1 == 1) = true) : read1 out o = putL out o.2.1 := by
  rw [read1, if_pos (by simpa using h)]
theorem read1_not {out : List Int} {o : OpT} (h : (o.1 == 1) = false) : read1 out o = out := by
  rw [read1, if_neg (by simpa using h)]
theorem fold_len (r : List OpT) (out : List Int) : (r.foldl read1 out).length ≤ out.length + r.length := by
  induction r generalizing out with
  | nil => simp
  | cons o t ih =>
    have h1 := ih (read1 out o)
    have h2 : (read1 out o).length ≤ out.length + 1 := by
      unfold read1
      split
      · exact put_len _ _
      · omega
    simp only [List.foldl_cons, List.length_cons] at h1 ⊢
    omega

end Go.Proofs.YtnnojeoehomadaaDoor

/- Walks: the reference's RunRecipe. -/
namespace Go.Proofs.YtnnojeoehomadaaDoor
open Go.RowKit Pth

theorem run_none {ins : List (List UInt8)} {r : List OpT} {k : Nat} {acc : List UInt8} {R : Option (List UInt8)} (h : R = Pth.runT ins (r.drop k) acc) (hk : k < r.length) (hs : Pth.stepT r[k] ins acc = none) : R = none := by
  rw [h, run_step hk, hs]; rfl
theorem run_some {ins : List (List UInt8)} {r : List OpT} {k : Nat} {acc y : List UInt8} {R : Option (List UInt8)} (h : R = Pth.runT ins (r.drop k) acc) (hk : k < r.length) (hs : Pth.stepT r[k] ins acc = some y) : R = Pth.runT ins (r.drop (k + 1)) y := by
  rw [h, run_step hk, hs]; rfl

/-- What is left to run behind a step. -/
def RunAt (R : Option (List UInt8)) (ins : List (List UInt8)) (r : List OpT) : Option (List UInt8) → Prop
  | none => R = none
  | some z => R = Pth.runT ins r z ∧ z.length ≤ 40

set_option maxRecDepth 20000 in
set_option maxHeartbeats 2000000 in
theorem runS_any (r : List OpT) (ins : List (List UInt8)) (v u : Value) (w : World) (hrow : RowO w v r) (hins : RowV w u (S ins)) (hok : r.all (opOk ins.length) = true) (ht : textsL ins = true) :
    Calls Tryd.prog 30 #[v, u] w (StepPost (Pth.runT ins r []) w) := by
  obtain ⟨a, cap, rfl, hc1, hc2, hat⟩ := hrow.ops
  have HI := Lib.hid hins
  have HK : Hid (∀ k (hk : k < r.length), opOk ins.length r[k] = true) := fun k hk => List.all_eq_true.1 hok _ (List.getElem_mem hk)
  have HX := Lib.hid ht
  clear hrow hins hok ht
  unfold maxLen at hc2
  obtain ⟨R, hR⟩ : ∃ R, R = Pth.runT ins r [] := ⟨_, rfl⟩
  rw [← hR]
  go_enter Tryd.func30, Tryd.ntmps30
  go_wp2_with fail
  go_loopw [6, 13] (fun s i wr => ∃ (k : Nat) (acc : List UInt8), k ≤ r.length ∧ acc.length ≤ 40 ∧ s = .string ⟨acc.toArray⟩ ∧ i = .int .i64 k ∧ Hid (Below w.heap.size w wr) ∧ Hid (R = Pth.runT ins (r.drop k) acc)) (fun _ i _ => r.length - (intOf i).toNat)
  case atStart => exact ⟨0, [], Nat.zero_le _, by simp, rfl, by go_num, Below.refl _ _, hR⟩
  case round =>
    clear hR
    obtain ⟨k, acc, hk, hacc, rfl, rfl, HB, HO⟩ := hrel
    have hbs := HB.out.size
    by_cases hlt : k < r.length
    · obtain ⟨g, o, rfl, hg, hcell1, hcell2, hcell3⟩ := hat k hlt
      have s1 := (HB.out.cell (p := ⟨g, o + k * 3, none⟩) hg).trans hcell1
      have s2 := (HB.out.cell (p := ⟨g, o + k * 3 + 1, none⟩) hg).trans hcell2
      have s3 := (HB.out.cell (p := ⟨g, o + k * 3 + 2, none⟩) hg).trans hcell3
      have HBA := Lib.hid (HB.out.alloc hbs (.cells #[.int .i64 r[k].1, .int .i64 r[k].2.1, .string ⟨r[k].2.2.toArray⟩] 30))
      have HC := Lib.hid (stepS_any r[k] ins u acc (wr.alloc (.cells #[.int .i64 r[k].1, .int .i64 r[k].2.1, .string ⟨r[k].2.2.toArray⟩] 30)) (HI.out.below HBA.out) (HK.out k hlt) HX.out hacc)
      obtain ⟨y, hy⟩ : ∃ y, Pth.stepT r[k] ins acc = y := ⟨_, rfl⟩
      have HS : Hid (RunAt R ins (r.drop (k + 1)) y) := by
        unfold Hid
        rcases y with _ | z
        · exact run_none HO.out hlt hy
        · exact ⟨run_some HO.out hlt hy, stepT_len hy⟩
      rw [hy] at HC
      clear hcell1 hcell2 hcell3 hat HO hy
      generalize r[k] = x at s1 s2 s3 HC HBA
      obtain ⟨x1, x2, x3⟩ := x
      unfold opV at HC
      simp only at s1 s2 s3 HC HBA
      rcases y with _ | z
      · have HV := Lib.hid (show R = none from HS.out)
        go_wp2_with fail
        refine HC.out.mono ?_
        rintro e w1 ⟨rfl, hb1⟩
        have HB1 := Lib.hid (HBA.out.trans (hb1.mono HBA.out.size))
        clear hb1 HC
        go_wp2_with fail
        go_ret2
        exact ⟨by rw [HV.out]; rfl, HB1.out⟩
      · have HV := Lib.hid (show R = Pth.runT ins (r.drop (k + 1)) z ∧ z.length ≤ 40 from HS.out)
        go_wp2_with fail
        refine HC.out.mono ?_
        rintro e w1 ⟨rfl, hb1⟩
        have HB1 := Lib.hid (HBA.out.trans (hb1.mono HBA.out.size))
        clear hb1 HC
        go_wp2_with fail
        go_roundw
        case rel => exact ⟨k + 1, z, by omega, HV.out.2, rfl, by go_num, HB1, HV.out.1⟩
        case measure => simp [intOf]; omega
    · have HV := Lib.hid (show R = some acc by rw [HO.out, List.drop_eq_nil_of_le (by omega)]; rfl)
      have hltz : ¬ ((k : Int) < (r.length : Int)) := by omega
      clear HO hat
      go_wp2_with fail
      go_ret2
      exact ⟨by rw [HV.out]; rfl, HB.out⟩

end Go.Proofs.YtnnojeoehomadaaDoor

/- Walks: the reference's RunRecipe, whole. -/
namespace Go.Proofs.YtnnojeoehomadaaDoor
open Go.RowKit Pth

theorem goodR_all {r : List OpT} {ins : Int} (h : goodR r ins = true) : r.all (opOk ins) = true := (goodR_iff.1 h).2.2.2

set_option maxRecDepth 20000 in
set_option maxHeartbeats 2000000 in
theorem specRun_any (r : List OpT) (ins : List (List UInt8)) (v u : Value) (w : World) (hrow : RowO w v r) (hins : RowV w u (S ins)) (hf : ∀ f ∈ r, f.2.2.length ≤ maxLen) (hx : ∀ x ∈ ins, x.length ≤ maxLen) :
    Calls Tryd.prog 8 #[v, u] w (TellPost (runOk r ins) (runA r ins) w) := by
  have HX := Lib.hid (texts_any ins u w hins hx)
  have HG := Lib.hid (specGood_any r (ins.length : Int) v w hrow hf)
  have HR := Lib.hid (fun (W : World) (hb : Below w.heap.size w W) h1 h2 => runS_any r ins v u W (hrow.below hb) (hins.below hb) h1 h2)
  obtain ⟨a, cap, rfl, hc1, hc2, hat⟩ := hins.texts
  clear hins hat hx hf hrow
  unfold maxLen at hc2
  rcases htx : textsL ins with _ | _
  · have HO := Lib.hid (show runOk r ins = false by simp [runOk, htx])
    have HA := Lib.hid (show runA r ins = none by rw [runA, HO.out]; rfl)
    rw [htx] at HX
    clear htx
    go_enter Tryd.func8, Tryd.ntmps8
    go_wp2_with (go_at_call 28; refine HX.out.mono ?_; rintro e w1 ⟨rfl, rfl⟩)
    go_ret3
    exact ⟨by rw [HO.out, HA.out]; rfl, Below.refl _ _⟩
  · rw [htx] at HX
    rcases hg : goodR r (ins.length : Int) with _ | _
    · have HO := Lib.hid (show runOk r ins = false by simp [runOk, hg])
      have HA := Lib.hid (show runA r ins = none by rw [runA, HO.out]; rfl)
      rw [hg] at HG
      clear htx hg
      go_enter Tryd.func8, Tryd.ntmps8
      go_wp2_with (first | (go_at_call 28; refine HX.out.mono ?_; rintro e w1 ⟨rfl, rfl⟩) | (go_at_call 29; refine HG.out.mono ?_; rintro e w2 ⟨rfl, hb⟩))
      go_ret3
      exact ⟨by rw [HO.out, HA.out]; rfl, hb⟩
    · have HO := Lib.hid (show runOk r ins = true by simp [runOk, htx, hg])
      have HA := Lib.hid (show runA r ins = Pth.runT ins r [] by rw [runA, HO.out]; rfl)
      have HS := Lib.hid (fun (W : World) (hb : Below w.heap.size w W) => HR.out W hb (goodR_all hg) htx)
      rw [hg] at HG
      clear htx hg HR
      go_enter Tryd.func8, Tryd.ntmps8
      go_wp2_with (first | (go_at_call 28; refine HX.out.mono ?_; rintro e w1 ⟨rfl, rfl⟩) | (go_at_call 29; refine HG.out.mono ?_; rintro e w2 ⟨rfl, hb⟩) | fail)
      refine (HS.out _ hb).mono ?_
      rintro e w3 ⟨rfl, hb3⟩
      have HB3 := Lib.hid (below_step hb hb3)
      clear hb hb3
      generalize Pth.runT ins r [] = y at HA
      go_wp2_with fail
      go_ret3
      exact ⟨by rw [HO.out, HA.out]; rfl, HB3.out⟩

end Go.Proofs.YtnnojeoehomadaaDoor

/- Walks: slices.ContainsFunc at texts that are too long. -/
namespace Go.Proofs.YtnnojeoehomadaaDoor
open Go.RowKit Pth

/-- Whether one is too long. -/
def longL (l : List (List UInt8)) : Bool := l.any (fun x => decide (40 < x.length))
theorem long_at {l : List (List UInt8)} {k : Nat} (h : k < l.length) (hx : 40 < l[k].length) : longL l = true := by
  rw [longL, List.any_eq_true]
  exact ⟨l[k], List.getElem_mem h, by simpa using hx⟩
theorem long_none {l : List (List UInt8)} (h : ∀ x ∈ l, x.length ≤ 40) : longL l = false := by
  rw [longL, List.any_eq_false]
  intro x hm
  have := h x hm
  simp; omega
/-- A place, or -1 where there is none. -/
def PlacePost (b : Bool) (w : World) (e : Ending) (w' : World) : Prop := ∃ i : Int, e = .returned (.int .i64 i) ∧ (0 ≤ i ↔ b = true) ∧ w' = w

set_option maxRecDepth 20000 in
set_option maxHeartbeats 1000000 in
theorem index_any (l : List (List UInt8)) (v : Value) (w : World) (hrow : RowV w v (S l)) (hx : ∀ x ∈ l, x.length ≤ maxLen) :
    Calls Tryd.prog 54 #[v, .func (.func 41) #[] #[]] w (PlacePost (longL l) w) := by
  obtain ⟨a, cap, rfl, hc1, hc2, hat⟩ := hrow.texts
  clear hrow
  have HL : Hid (∀ x ∈ l, ∀ W, Calls Tryd.prog 41 #[.string ⟨x.toArray⟩] W fun e w' => e = .returned (.bool (decide (40 < x.length))) ∧ w' = W) := fun x hm W => long_any x W (hx x hm)
  clear hx
  unfold maxLen at hc2
  go_enter Tryd.func54, Tryd.ntmps54
  go_wp2_with fail
  go_loop [8] (fun i => ∃ k : Nat, k ≤ l.length ∧ i = .int .i64 k ∧ Hid (∀ x ∈ l.take k, x.length ≤ 40)) (fun i => l.length - (intOf i).toNat)
  case atStart => exact ⟨0, Nat.zero_le _, by go_num, by simp [Hid]⟩
  case round =>
    obtain ⟨k, hk, rfl, HO⟩ := hrel
    by_cases hlt : k < l.length
    · obtain ⟨g, o, rfl, hg, hcell⟩ := hat k hlt
      have HC := Lib.hid (HL.out l[k] (List.getElem_mem hlt) w)
      have hltz : (k : Int) < (l.length : Int) := by omega
      by_cases hy : (l[k]).length ≤ 40
      · have HS := Lib.hid (take_next hlt HO.out hy)
        rw [show decide (40 < (l[k]).length) = false from decide_eq_false (by omega)] at HC
        generalize l[k] = x at hcell hy HC
        clear hat HO HL
        go_wp2_with (go_at_call 41; refine HC.out.mono ?_; rintro e w1 ⟨rfl, rfl⟩)
        go_round
        case rel => exact ⟨k + 1, by omega, by go_num, HS⟩
        case measure => simp [intOf]; omega
      · have HS := Lib.hid (long_at hlt (by omega))
        rw [show decide (40 < (l[k]).length) = true from decide_eq_true (by omega)] at HC
        generalize l[k] = x at hcell hy HC
        clear hat HO HL
        go_wp2_with (go_at_call 41; refine HC.out.mono ?_; rintro e w1 ⟨rfl, rfl⟩)
        go_ret
        exact ⟨(k : Int), rfl, by rw [HS.out]; simp, rfl⟩
    · have HS := Lib.hid (long_none (l := l) (fun x hm => HO.out x (by rw [List.take_of_length_le (by omega)]; exact hm)))
      have hltz : ¬ ((k : Int) < (l.length : Int)) := by omega
      clear hat HO HL
      go_wp2_with fail
      go_ret
      exact ⟨-1, rfl, by rw [HS.out]; simp, rfl⟩

set_option maxRecDepth 20000 in
set_option maxHeartbeats 1000000 in
theorem contains_any (l : List (List UInt8)) (v : Value) (w : World) (hrow : RowV w v (S l)) (hx : ∀ x ∈ l, x.length ≤ maxLen) :
    Calls Tryd.prog 40 #[v, .func (.func 41) #[] #[]] w fun e w' => e = .returned (.bool (longL l)) ∧ w' = w := by
  have HC := Lib.hid (index_any l v w hrow hx)
  clear hrow hx
  go_enter Tryd.func40, Tryd.ntmps40
  go_wp2_with fail
  refine HC.out.mono ?_
  rintro e w1 ⟨i, rfl, hi, rfl⟩
  have HI := Lib.hid hi
  clear hi HC
  go_wp2_with fail
  go_ret
  refine ⟨?_, rfl⟩
  show Ending.returned (.bool (decide (0 ≤ i))) = _
  congr 2
  rw [Bool.eq_iff_iff, decide_eq_true_eq]
  exact HI.out

end Go.Proofs.YtnnojeoehomadaaDoor

/- Walks: the laws' helpers on lists of texts, by themselves (no lists of numbers). -/
namespace Go.Proofs.YtnnojeoehomadaaDoor
open Go.RowKit Pth

/-- A new list of so many zeros. -/
theorem make_row {t e : TypeId} {z : Value} {bytes : Nat} (E : Elem t e z bytes) (hz : z.cells = #[z]) (n : Nat) (w : World) (hn : n ≤ 2000000) :
    ∃ w', (Instr.makeSlice t (.int .i64 (n : Int)) (.int .i64 (n : Int))).run Tryd.prog w = .ok (.slice (some ⟨w.heap.size, 0, none⟩) n n) w' ∧
      w'.ownsRow w.heap.size e 1 (.slice (some ⟨w.heap.size, 0, none⟩) n n) n (List.replicate n z) ∧ Below w.heap.size w w' := by
  obtain ⟨i0, hi, hz0, hz1, hz2⟩ := info_parts E.info
  obtain ⟨w', h1, h2, h3⟩ := run_makeSlice_full (P := Tryd.prog) w w.heap.size t e i0 z 1 E.under hi hz0 hz1 .i64 .i64 n (by omega) (by rw [hz2]; exact Nat.le_trans (Nat.mul_le_mul E.small hn) (by decide)) (by unfold maxLen; omega) (Nat.le_refl _)
  rw [hz, Nat.mul_one, toList_madeCells_one] at h2
  exact ⟨w', h1, h2, (Below.refl _ w).grown h3 (Nat.le_refl _) (fun k hk => by cases hk)⟩

theorem set_row (xs : List Value) (z : Value) (k : Nat) (hk : k < xs.length) : (xs.take k ++ List.replicate (xs.length - k) z).set k xs[k] = xs.take (k + 1) ++ List.replicate (xs.length - (k + 1)) z := by
  have e : xs.length - k = (xs.length - (k + 1)) + 1 := by omega
  rw [e, List.replicate_succ, List.set_append_right _ _ (by rw [List.length_take]; omega)]
  have e2 : k - (xs.take k).length = 0 := by rw [List.length_take]; omega
  rw [e2, List.set_cons_zero, List.take_succ_eq_append_getElem hk, List.append_assoc, List.singleton_append]

theorem get_row (xs : List Value) (z : Value) (k : Nat) (hk : k < xs.length) : (xs.take k ++ List.replicate (xs.length - k) z)[k]? = some z := by
  have hl : (xs.take k).length = k := by rw [List.length_take]; omega
  rw [List.getElem?_append_right (by omega), hl, Nat.sub_self, List.getElem?_replicate, if_pos (by omega)]

theorem only_below {w w' : World} {B g : Nat} (hg : w.grownBy w' (some g)) (h : B ≤ g) (hB : B ≤ w.heap.size) : Below B w w' :=
  (Below.refl B w).grown hg hB (fun k hk => by injection hk with hk; omega)

theorem same_next {α : Type} {a b : List α} {k : Nat} (h : a.take k = b.take k) (h1 : k < a.length) (h2 : k < b.length) (he : a[k] = b[k]) : a.take (k + 1) = b.take (k + 1) := by
  rw [List.take_succ_eq_append_getElem h1, List.take_succ_eq_append_getElem h2, h, he]

theorem same_not {α : Type} {a b : List α} {k : Nat} (h1 : k < a.length) (h2 : k < b.length) (he : ¬ a[k] = b[k]) : ¬ a = b := by
  rintro rfl; exact he rfl

theorem same_all {α : Type} {a b : List α} {k : Nat} (h : a.take k = b.take k) (h1 : a.length ≤ k) (h2 : b.length ≤ k) : a = b := by
  rw [List.take_of_length_le h1, List.take_of_length_le h2] at h; exact h

theorem grown_refl (w : World) (r : Option Nat) : w.grownBy w r := ⟨rfl, rfl, rfl, Nat.le_refl _, fun _ _ _ => rfl⟩

theorem grown_trans {a b c : World} {r : Option Nat} (h : a.grownBy b r) (k : b.grownBy c r) : a.grownBy c r :=
  ⟨k.os.trans h.os, k.tape.trans h.tape, k.output.trans h.output, Nat.le_trans h.size k.size, fun i hi hn => (k.block i (Nat.lt_of_lt_of_le hi h.size) hn).trans (h.block i hi hn)⟩

/-- The digits of a number, ahead of what is there. -/
def digs (k : Nat) (out : List UInt8) : List UInt8 := if h : k = 0 then out else digs (k / 10) (UInt8.ofNat (48 + k % 10) :: out)
termination_by k
decreasing_by omega

def markT (k : Nat) : List UInt8 := 109 :: digs k []

theorem digs_zero (out : List UInt8) : digs 0 out = out := by rw [digs]; simp

theorem digs_pos {k : Nat} (h : 0 < k) (out : List UInt8) : digs k out = digs (k / 10) (UInt8.ofNat (48 + k % 10) :: out) := by rw [digs]; simp; omega

theorem digit_int (k : Nat) : ((UInt8.ofNat (48 + k % 10)).toNat : Int) = 48 + (k : Int) % 10 := by
  have : (UInt8.ofNat (48 + k % 10)).toNat = 48 + k % 10 := by simp; omega
  rw [this]; omega

theorem cat_one (c : UInt8) (out : List UInt8) : (⟨#[c]⟩ : ByteArray) ++ ⟨out.toArray⟩ = ⟨(c :: out).toArray⟩ := by
  apply ByteArray.ext
  apply Array.ext'
  rw [ByteArray.data_append]
  simp

theorem S_get {l : List (List UInt8)} {k : Nat} (hk : k < l.length) : (S l)[k]'(by rw [S_len]; exact hk) = .string ⟨(l[k]).toArray⟩ := by simp [S]

/-- Texts in memory of the call's own. -/
def TextsPost (B : Nat) (l : List (List UInt8)) (w : World) (e : Ending) (w' : World) : Prop :=
  ∃ v, e = .returned v ∧ w'.ownsRow B 9 1 v l.length (S l) ∧ Below w.heap.size w w'

set_option maxHeartbeats 1000000 in
theorem toStringS_any (l : List (List UInt8)) (v : Value) (w : World) (hrow : RowV w v (S l)) (hl : l.length ≤ 2000000) :
    Calls Tryd.prog 17 #[v] w (TextsPost w.heap.size l w) := by
  obtain ⟨a, cap, rfl, hc1, hc2, hat⟩ := hrow.texts
  clear hrow
  unfold maxLen at hc2
  obtain ⟨w0, hmk, hown0, hb0⟩ := make_row elemS rfl l.length w hl
  have HN0 := Lib.hid hown0
  have HB0 := Lib.hid hb0
  clear hown0 hb0
  go_enter Tryd.func17, Tryd.ntmps17
  go_wp2_with fail
  clear hmk
  go_loopw [4] (fun i wr => ∃ k : Nat, k ≤ l.length ∧ i = .int .i64 k ∧ wr.ownsRow w.heap.size 9 1 (.slice (some ⟨w.heap.size, 0, none⟩) l.length l.length) l.length ((S l).take k ++ List.replicate ((S l).length - k) (.string ByteArray.empty)) ∧ Below w.heap.size w wr) (fun i _ => l.length - (intOf i).toNat)
  case atStart => exact ⟨0, Nat.zero_le _, rfl, by rw [S_len]; exact HN0.out, HB0.out⟩
  case round =>
    clear HN0 HB0
    obtain ⟨k, hk, rfl, hown, hb⟩ := hrel
    have hbs := hb.size
    by_cases hlt : k < l.length
    · obtain ⟨g, o, rfl, hg, hcell0⟩ := hat k hlt
      have hcell : wr.cell? ⟨g, o + k, none⟩ = some (.string ⟨(l[k]).toArray⟩) := by rw [hb.cell (p := ⟨g, o + k, none⟩) hg]; exact hcell0
      have hfz := hown.frozenAt k
      have hcz : wr.cell? ⟨w.heap.size, k, none⟩ = some (.string ByteArray.empty) := by rw [hown.cellAt k (by omega), get_row _ _ _ (by rw [S_len]; exact hlt)]
      have hst := hown.stored k (.string ⟨(l[k]).toArray⟩)
      have e := set_row (S l) (.string ByteArray.empty) k (by rw [S_len]; exact hlt)
      rw [S_get hlt] at e
      rw [e] at hst
      have HN1 := Lib.hid hst.1
      have HB1 := Lib.hid (hb.trans (only_below hst.2 (Nat.le_refl _) hbs))
      clear hcell0 hat hown hb hst e
      generalize l[k] = x at hcell HN1 HB1
      go_wp2_with fail
      go_roundw
      case rel => exact ⟨k + 1, by omega, by go_num, HN1.out, HB1.out⟩
      case measure => simp [intOf]; omega
    · have HN1 : Hid (wr.ownsRow w.heap.size 9 1 (.slice (some ⟨w.heap.size, 0, none⟩) l.length l.length) l.length (S l)) := by
        have e1 : (S l).take k = S l := List.take_of_length_le (by rw [S_len]; omega)
        have e2 : (S l).length - k = 0 := by rw [S_len]; omega
        rw [e1, e2, List.replicate_zero, List.append_nil] at hown
        exact hown
      have HB := Lib.hid hb
      clear hown hb hat
      go_wp2_with fail
      go_ret
      exact ⟨_, rfl, HN1.out, HB.out⟩

set_option maxHeartbeats 1000000 in
theorem eqStringS_any (l m : List (List UInt8)) (v u : Value) (w : World) (hr1 : RowV w v (S l)) (hr2 : RowV w u (S m)) (hl : l.length ≤ 2000000) :
    Calls Tryd.prog 19 #[v, u] w fun e w' => e = .returned (.bool (decide (l = m))) ∧ Below w.heap.size w w' := by
  obtain ⟨a, cap, rfl, hc1, hc2, hat⟩ := hr1.texts
  obtain ⟨a2, cap2, rfl, hc3, hc4, hat2⟩ := hr2.texts
  clear hr1 hr2
  unfold maxLen at hc2 hc4
  by_cases hlen : l.length = m.length
  · have hlen1 : ((l.length : Int) != (m.length : Int)) = false := by simp [hlen]
    go_enter Tryd.func19, Tryd.ntmps19
    go_wp2_with fail
    go_loopw [5] (fun i wr => ∃ k : Nat, k ≤ l.length ∧ i = .int .i64 k ∧ Hid (l.take k = m.take k) ∧ Below w.heap.size w wr) (fun i _ => l.length - (intOf i).toNat)
    case atStart => exact ⟨0, Nat.zero_le _, rfl, rfl, Below.refl _ _⟩
    case round =>
      obtain ⟨k, hk, rfl, HO, hb⟩ := hrel
      have HB := Lib.hid hb
      by_cases hlt : k < l.length
      · obtain ⟨g, o, rfl, hg, hcell0⟩ := hat k hlt
        obtain ⟨g2, o2, rfl, hg2, hcell02⟩ := hat2 k (by omega)
        have hcell : wr.cell? ⟨g, o + k, none⟩ = some (.string ⟨(l[k]).toArray⟩) := by rw [hb.cell (p := ⟨g, o + k, none⟩) hg]; exact hcell0
        have hcell2 : wr.cell? ⟨g2, o2 + k, none⟩ = some (.string ⟨(m[k]).toArray⟩) := by rw [hb.cell (p := ⟨g2, o2 + k, none⟩) hg2]; exact hcell02
        clear hcell0 hcell02 hat hat2 hb
        have hi1 : (k : Int) < (l.length : Int) := by omega
        have hi2 : (k : Int) < (m.length : Int) := by omega
        by_cases he : l[k] = m[k]
        · have HS := Lib.hid (same_next HO.out hlt (by omega) he)
          have he1 : (l[k] != m[k]) = false := by simp [he]
          have he2 : (l[k] == m[k]) = true := by simp [he]
          generalize l[k] = x at hcell he1 he he2
          generalize m[k] = y at hcell2 he1 he he2
          clear HO
          go_wp2_with fail
          go_quiet (fail)
          go_wp2_with fail
          go_roundw
          case rel => exact ⟨k + 1, by omega, by go_num, HS, below_drewN HB.out _⟩
          case measure => simp [intOf]; omega
        · have HS : Hid (decide (l = m) = false) := decide_eq_false (same_not hlt (by omega) he)
          have he1 : (l[k] != m[k]) = true := by simp [he]
          have he2 : (l[k] == m[k]) = false := by simp [he]
          generalize l[k] = x at hcell he1 he he2
          generalize m[k] = y at hcell2 he1 he he2
          clear HO
          go_wp2_with fail
          go_quiet (fail)
          go_wp2_with fail
          go_ret
          exact ⟨ret_bool HS.out.symm, below_drewN HB.out _⟩
      · have HS : Hid (decide (l = m) = true) := decide_eq_true (same_all HO.out (by omega) (by omega))
        clear HO hat hat2 hb
        go_wp2_with fail
        go_ret
        exact ⟨ret_bool HS.out.symm, HB.out⟩
  · have hlen1 : ((l.length : Int) != (m.length : Int)) = true := by simp; omega
    have HS : Hid (decide (l = m) = false) := decide_eq_false (fun h => hlen (by rw [h]))
    clear hat hat2
    go_enter Tryd.func19, Tryd.ntmps19
    go_wp2_with fail
    go_ret
    exact ⟨ret_bool HS.out.symm, Below.refl _ _⟩

set_option maxHeartbeats 1000000 in
theorem szStringS_any (l : List (List UInt8)) (left : Nat) (v : Value) (w : World) (hrow : RowV w v (S l)) (hx : ∀ x ∈ l, x.length ≤ maxLen) (hl : left ≤ 2000000) :
    Calls Tryd.prog 15 #[v, .int .i64 (left : Int)] w fun e w' => ∃ r : Int, e = .returned (.int .i64 r) ∧ (0 ≤ r → l.length ≤ left ∧ ∀ x ∈ l, x.length ≤ left) ∧ w = w' := by
  obtain ⟨a, cap, rfl, hc1, hc2, hat⟩ := hrow.texts
  clear hrow
  unfold maxLen at hc2 hx
  by_cases hlen : l.length ≤ left
  · have hlen1 : decide ((left : Int) - (l.length : Int) < 0) = false := by simp; omega
    go_enter Tryd.func15, Tryd.ntmps15
    go_wp2_with fail
    go_loop [1, 5] (fun q i => ∃ (k : Nat) (r : Int), k ≤ l.length ∧ 0 ≤ r ∧ r ≤ left ∧ q = .int .i64 r ∧ i = .int .i64 k ∧ Hid (∀ x ∈ l.take k, x.length ≤ left)) (fun _ i => l.length - (intOf i).toNat)
    case atStart => exact ⟨0, (left : Int) - (l.length : Int), Nat.zero_le _, by omega, by omega, rfl, rfl, by simp [Hid]⟩
    case round =>
      obtain ⟨k, r, hk, hr0, hr1, rfl, rfl, HO⟩ := hrel
      by_cases hlt : k < l.length
      · obtain ⟨g, o, rfl, hg, hcell⟩ := hat k hlt
        have hxl := hx l[k] (List.getElem_mem hlt)
        by_cases hy : ((l[k]).length : Int) ≤ r
        · have HS : Hid (∀ x ∈ l.take (k + 1), x.length ≤ left) := by
            intro x hxm
            rw [List.take_succ_eq_append_getElem hlt, List.mem_append, List.mem_singleton] at hxm
            rcases hxm with h | h
            · exact HO.out x h
            · rw [h]; omega
          have hy1 : decide (r - ((l[k]).length : Int) < 0) = false := by simp; omega
          generalize l[k] = x at hcell hxl hy hy1
          clear hat HO hx
          go_wp2_with fail
          go_round
          case rel => exact ⟨k + 1, r - (x.length : Int), by omega, by omega, by omega, rfl, by go_num, HS⟩
          case measure => simp [intOf]; omega
        · have hy1 : decide (r - ((l[k]).length : Int) < 0) = true := by simp; omega
          generalize l[k] = x at hcell hxl hy hy1
          clear hat HO hx
          go_wp2_with fail
          go_ret
          exact ⟨-1, rfl, fun h => by omega, rfl⟩
      · have HS : Hid (∀ x ∈ l, x.length ≤ left) := by have := HO.out; rw [List.take_of_length_le (by omega)] at this; exact this
        clear hat HO hx
        go_wp2_with fail
        go_ret
        exact ⟨r, rfl, fun _ => by first | exact ⟨hlen, HS.out⟩ | exact HS.out, rfl⟩
  · have hlen1 : decide ((left : Int) - (l.length : Int) < 0) = true := by simp; omega
    clear hat hx
    go_enter Tryd.func15, Tryd.ntmps15
    go_wp2_with fail
    go_ret
    exact ⟨-1, rfl, fun h => by omega, rfl⟩

/-- The texts that are marks, from k on. -/
def marksT (k : Nat) (n : Nat) : List (List UInt8) := (List.range n).map (fun (i : Nat) => markT (k + i))

theorem marksT_len (k n : Nat) : (marksT k n).length = n := by simp [marksT]

theorem marksT_snoc (k n : Nat) : marksT k (n + 1) = marksT k n ++ [markT (k + n)] := by simp [marksT, List.range_succ]

theorem marksT_at (k n j : Nat) (hj : j < (marksT k n).length) : (marksT k n)[j] = markT (k + j) := by simp [marksT]

theorem markT_set (k : Nat) (l : List (List UInt8)) (j : Nat) (hj : j < l.length) : (S (marksT k j) ++ (S l).drop j).set j (.string ⟨(markT (k + j)).toArray⟩) = S (marksT k (j + 1)) ++ (S l).drop (j + 1) := by
  have hl : (S (marksT k j)).length = j := by rw [S_len, marksT_len]
  rw [List.set_append_right _ _ (by omega), hl, Nat.sub_self, List.drop_eq_getElem_cons (by rw [S_len]; exact hj), List.set_cons_zero, marksT_snoc, S_append, List.append_assoc]
  rfl

theorem markT_get (k : Nat) (l : List (List UInt8)) (j : Nat) (hj : j < l.length) : (S (marksT k j) ++ (S l).drop j)[j]? = some (.string ⟨(l[j]).toArray⟩) := by
  have hl : (S (marksT k j)).length = j := by rw [S_len, marksT_len]
  rw [List.getElem?_append_right (by omega), hl, Nat.sub_self, List.getElem?_drop, Nat.add_zero, List.getElem?_eq_getElem (by rw [S_len]; exact hj), S_get hj]

/-- The list holds the marks, and nothing but its own block has turned. -/
def MarkedT (B : Nat) (v : Value) (k : Nat) (n : Nat) (w : World) (e : Ending) (w' : World) : Prop :=
  e = .returned (.int .i64 ((k : Int) + (n : Int))) ∧ w'.ownsRow B 9 1 v n (S (marksT k n)) ∧ w.grownBy w' v.ownBlock

theorem below_grown {w w' : World} {r : Option Nat} (h : Below w.heap.size w w') : w.grownBy w' r := ⟨h.os, h.tape, h.output, h.size, fun i hi _ => h.block i hi⟩

end Go.Proofs.YtnnojeoehomadaaDoor

/- Walks: the laws' helpers on lists of numbers (beside those on texts). -/
namespace Go.Proofs.YtnnojeoehomadaaDoor
open Go.RowKit Pth





theorem I_get {l : List Int} {k : Nat} (hk : k < l.length) : (I l)[k]'(by rw [I_len]; exact hk) = .int .i64 l[k] := by simp [I]

/-- The marks from k on. -/
def marks (k : Int) (n : Nat) : List Int := (List.range n).map (fun (i : Nat) => k + (i : Int))
theorem marks_len (k : Int) (n : Nat) : (marks k n).length = n := by simp [marks]
theorem marks_snoc (k : Int) (n : Nat) : marks k (n + 1) = marks k n ++ [k + (n : Int)] := by simp [marks, List.range_succ]
theorem marks_at (k : Int) (n j : Nat) (hj : j < (marks k n).length) : (marks k n)[j] = k + (j : Int) := by simp [marks]
theorem mark_set (k : Int) (l : List Int) (j : Nat) (hj : j < l.length) : (I (marks k j) ++ (I l).drop j).set j (.int .i64 (k + (j : Int))) = I (marks k (j + 1)) ++ (I l).drop (j + 1) := by
  have hl : (I (marks k j)).length = j := by rw [I_len, marks_len]
  rw [List.set_append_right _ _ (by omega), hl, Nat.sub_self, List.drop_eq_getElem_cons (by rw [I_len]; exact hj), List.set_cons_zero, marks_snoc, I_append, List.append_assoc]
  rfl
theorem mark_get (k : Int) (l : List Int) (j : Nat) (hj : j < l.length) : (I (marks k j) ++ (I l).drop j)[j]? = some (.int .i64 l[j]) := by
  have hl : (I (marks k j)).length = j := by rw [I_len, marks_len]
  rw [List.getElem?_append_right (by omega), hl, Nat.sub_self, List.getElem?_drop, Nat.add_zero, List.getElem?_eq_getElem (by rw [I_len]; exact hj), I_get hj]

/-- The list holds the marks, and nothing but its own block has turned. -/
def Marked (B : Nat) (v : Value) (k : Int) (n : Nat) (w : World) (e : Ending) (w' : World) : Prop :=
  e = .returned (.int .i64 (k + (n : Int))) ∧ w'.ownsRow B 3 1 v n (I (marks k n)) ∧ w.grownBy w' v.ownBlock


end Go.Proofs.YtnnojeoehomadaaDoor

/- Walks: the laws' helpers on ops. -/
namespace Go.Proofs.YtnnojeoehomadaaDoor
open Go.RowKit Pth

set_option maxHeartbeats 1000000 in
theorem szOp_any (o : OpT) (left : Nat) (w : World) (hx : o.2.2.length ≤ maxLen) (hl : left ≤ 2000000) :
    Calls Tryd.prog 20 #[opV o, .int .i64 (left : Int)] w fun e w' => ∃ r : Int, e = .returned (.int .i64 r) ∧ r ≤ left ∧ (0 ≤ r → o.2.2.length ≤ left) ∧ Below w.heap.size w w' := by
  obtain ⟨k, n, t⟩ := o
  unfold opV
  simp only at hx ⊢
  unfold maxLen at hx
  have HB := Lib.hid ((Below.refl w.heap.size w).alloc (Nat.le_refl _) (.cells #[.int .i64 k, .int .i64 n, .string ⟨t.toArray⟩] 46))
  by_cases h1 : t.length ≤ left
  · have d1 : decide ((left : Int) - (t.length : Int) < 0) = false := by simp; omega
    go_enter Tryd.func20, Tryd.ntmps20
    go_wp2_with fail
    go_ret
    exact ⟨_, rfl, by omega, fun _ => by omega, HB.out⟩
  · have d1 : decide ((left : Int) - (t.length : Int) < 0) = true := by simp; omega
    go_enter Tryd.func20, Tryd.ntmps20
    go_wp2_with fail
    go_ret
    exact ⟨-1, rfl, by omega, fun h => by omega, HB.out⟩

/-- Results that lie in a block. -/
theorem results_cell {fn : Func} {p : Tmp} {ty : TypeId} (h : fn.results = #[.cell p ty]) {tmps : Array Value} {w : World} {ad : Addr} {v : Value} (hp : tmps.getD p undef = .pointer (some ad)) (hl : (loadVar ty ad).run Tryd.prog w = .ok v w) :
    (results fn tmps).run Tryd.prog w = .ok v w := by
  have hp' : tmps[p]?.getD undef = .pointer (some ad) := by simpa using hp
  simp only [results, h]
  simp [Sem.run_bind, Result.andThen, hp', asAddr, hl]
theorem load_op {w : World} {b : Nat} {x y z : Value} (h0 : w.cell? ⟨b, 0, none⟩ = some x) (h1 : w.cell? ⟨b, 1, none⟩ = some y) (h2 : w.cell? ⟨b, 2, none⟩ = some z) : (loadVar 30 ⟨b, 0, none⟩).run Tryd.prog w = .ok (.agg #[x, y, z]) w := by
  go_simp

set_option maxHeartbeats 1000000 in
theorem toOp_any (o : OpT) (w : World) :
    Calls Tryd.prog 22 #[opV o] w fun e w' => e = .returned (opV o) ∧ Below w.heap.size w w' := by
  obtain ⟨k, n, t⟩ := o
  unfold opV
  simp only
  go_enter Tryd.func22, Tryd.ntmps22
  go_wp2_with fail
  refine bodyPost_ret (results_cell rfl rfl (load_op (x := .int .i64 k) (y := .int .i64 n) (z := .string ⟨t.toArray⟩) (by go_simp) (by go_simp) (by go_simp))) rfl ?_
  exact ⟨rfl, (((Below.refl w.heap.size w).alloc (Nat.le_refl _) _).alloc (by simp) _).alloc (by simp; omega) _⟩

theorem ret_dec {p : Prop} [Decidable p] {b : Bool} (h : decide p = b) : Ending.returned (.bool b) = Ending.returned (.bool (decide p)) := by rw [h]

set_option maxHeartbeats 1000000 in
theorem eqOp_b {o p : OpT} {b : Bool} (h : decide (o = p) = b) (w : World) :
    Calls Tryd.prog 34 #[opV o, opV p] w fun e w' => e = .returned (.bool b) ∧ Below w.heap.size w w' := by
  obtain ⟨k, n, t⟩ := o
  obtain ⟨k', n', t'⟩ := p
  have HT := Lib.hid h
  unfold opV
  simp only
  have HB := Lib.hid (((Below.refl w.heap.size w).alloc (Nat.le_refl _) (.cells #[.int .i64 k, .int .i64 n, .string ⟨t.toArray⟩] 30)).alloc (by simp) (.cells #[.int .i64 k', .int .i64 n', .string ⟨t'.toArray⟩] 30))
  clear h
  by_cases h1 : k = k'
  · have d1 : (k != k') = false := by simp [h1]
    by_cases h2 : n = n'
    · have d2 : (n != n') = false := by simp [h2]
      by_cases h3 : t = t'
      · have d3 : (!(t == t')) = false := by simp [h3]
        have HE : Hid (b = true) := by have := HT.out; rw [h1, h2, h3] at this; simpa [Hid] using this.symm
        clear h1 h2 h3 HT
        go_enter Tryd.func34, Tryd.ntmps34
        go_wp2_with fail
        go_ret
        exact ⟨by rw [HE.out] <;> rfl, HB.out⟩
      · have d3 : (!(t == t')) = true := by simp [h3]
        have HE : Hid (b = false) := by rw [← HT.out]; exact decide_eq_false (fun h => h3 (by injection h with _ h; injection h))
        clear h1 h2 h3 HT
        go_enter Tryd.func34, Tryd.ntmps34
        go_wp2_with fail
        go_ret
        exact ⟨by rw [HE.out] <;> rfl, HB.out⟩
    · have d2 : (n != n') = true := by simp [h2]
      have HE : Hid (b = false) := by rw [← HT.out]; exact decide_eq_false (fun h => h2 (by injection h with _ h; injection h))
      clear h1 h2 HT
      go_enter Tryd.func34, Tryd.ntmps34
      go_wp2_with fail
      go_ret
      exact ⟨by rw [HE.out] <;> rfl, HB.out⟩
  · have d1 : (k != k') = true := by simp [h1]
    have HE : Hid (b = false) := by rw [← HT.out]; exact decide_eq_false (fun h => h1 (by injection h))
    clear h1 HT
    go_enter Tryd.func34, Tryd.ntmps34
    go_wp2_with fail
    go_ret
    exact ⟨by rw [HE.out] <;> rfl, HB.out⟩

end Go.Proofs.YtnnojeoehomadaaDoor
