/- Texts of one claim, joined in their order. -/
import Derived.Deep.CutBlock
import Derived.Deep.CutRange
import Derived.Test.YtgolhfmmlanmlaaGreatDoorM11
import Derived.Test.YtgolhfmmlanmlaaGreatDoorM5

/- Walks: the library's heap sort at bytes. -/
namespace Go.Proofs.YtgolhfmmlanmlaaGreatDoor
open Go.RowKit Pth

/-- The greater child. -/
def kid (hi first r : Nat) (d : Array UInt8) : Nat := if 2 * r + 1 + 1 < hi && ltB d[first + (2 * r + 1)]! d[first + (2 * r + 1) + 1]! then 2 * r + 2 else 2 * r + 1
theorem sift_end {hi first r : Nat} {d : Array UInt8} (h : hi ≤ 2 * r + 1) : Sort.siftDown ltB hi first r d = d := by
  rw [Sort.siftDown, dif_pos h]
theorem sift_step {hi first r : Nat} {d : Array UInt8} (h : ¬ hi ≤ 2 * r + 1) : Sort.siftDown ltB hi first r d = if ltB d[first + r]! d[first + kid hi first r d]! then Sort.siftDown ltB hi first (kid hi first r d) (Sort.swp d (first + r) (first + kid hi first r d)) else d := by
  rw [Sort.siftDown, dif_neg h]
  unfold kid
  by_cases hc : (decide (2 * r + 1 + 1 < hi) && ltB d[first + (2 * r + 1)]! d[first + (2 * r + 1) + 1]!) = true
  · rw [if_pos hc, if_pos hc]
    have h2 : 2 * r + 2 < hi := by simp only [Bool.and_eq_true, decide_eq_true_eq] at hc; omega
    rw [dif_pos h2]
    rcases hl : ltB d[first + r]! d[first + (2 * r + 2)]! with _ | _ <;> simp
  · rw [if_neg hc, if_neg hc]
    rcases hl : ltB d[first + r]! d[first + (2 * r + 1)]! with _ | _ <;> simp
theorem kid_lt {hi first r : Nat} {d : Array UInt8} (h : ¬ hi ≤ 2 * r + 1) : kid hi first r d < hi ∧ r < kid hi first r d := by
  unfold kid
  split
  · rename_i hc
    simp only [Bool.and_eq_true, decide_eq_true_eq] at hc
    omega
  · omega

set_option maxRecDepth 20000 in
set_option maxHeartbeats 4000000 in
theorem sift8 (g : Nat) (tl : List Value) (d0 : Array UInt8) (n cap lo hi first : Nat) (w : World) (h : SB g tl d0 w) (hn : d0.size = n) (_hc : n ≤ cap) (hb : first + hi ≤ n) (hN : n ≤ 1000) (hlo : lo ≤ 1000) :
    Calls Tryz.prog 187 #[.slice (some ⟨g, 0, none⟩) n cap, .int .i64 lo, .int .i64 hi, .int .i64 first] w (SPost g tl (Sort.siftDown ltB hi first lo d0) w) := by
  have HS := Lib.hid h
  have HZ := Lib.hid hn
  clear h hn
  go_enter Tryz.func187, Tryz.ntmps187
  go_wp2_with fail
  go_loopw [8] (fun q wr => ∃ (r : Nat) (d : Array UInt8), r ≤ 1000 ∧ q = .int .i64 r ∧ Hid (SB g tl d wr) ∧ Hid (On g w wr) ∧ Hid (d.size = n) ∧ Hid (Sort.siftDown ltB hi first lo d0 = Sort.siftDown ltB hi first r d)) (fun q _ => 1000 - (intOf q).toNat)
  case atStart => exact ⟨lo, d0, hlo, rfl, HS, On.refl _ _, HZ, rfl⟩
  case round =>
    clear HS HZ
    obtain ⟨r, d, hr, rfl, HS, HO, HZ, HE⟩ := hrel
    by_cases hend : hi ≤ 2 * r + 1
    · have HE1 := Lib.hid (HE.out.trans (sift_end hend))
      have hd0 : decide (2 * (r : Int) + 1 ≥ (hi : Int)) = true := decide_eq_true (by omega)
      clear HE
      go_wp2_with fail
      go_end0
      exact ⟨rfl, by rw [HE1.out]; exact HS.out, HO.out⟩
    · have hd0 : decide (2 * (r : Int) + 1 ≥ (hi : Int)) = false := decide_eq_false (by omega)
      have HE1 := Lib.hid (HE.out.trans (sift_step hend))
      have hkl := kid_lt (first := first) (d := d) hend
      clear HE
      have p1 := HS.out.cell (i := first + (2 * r + 1)) (by rw [HZ.out]; omega)
      have a1 : (0 : Int) ≤ (first : Int) + (2 * (r : Int) + 1) := by omega
      have a2 : (first : Int) + (2 * (r : Int) + 1) < (n : Int) := by omega
      have a3 : IntKind.i64.wrap ((first : Int) + (2 * (r : Int) + 1)) = (first : Int) + (2 * (r : Int) + 1) := IntWalk.i64_in _ (by omega)
      have a4 : ((first : Int) + (2 * (r : Int) + 1)).toNat = first + (2 * r + 1) := by omega
      have a5 : IntKind.i64.wrap (2 * (r : Int) + 1 + 1) = 2 * (r : Int) + 1 + 1 := IntWalk.i64_in _ (by omega)
      by_cases h2 : 2 * r + 1 + 1 < hi
      · have g1 : decide (2 * (r : Int) + 1 + 1 < (hi : Int)) = true := decide_eq_true (by omega)
        have p2 := HS.out.cell (i := first + (2 * r + 1) + 1) (by rw [HZ.out]; omega)
        have b1 : (0 : Int) ≤ (first : Int) + (2 * (r : Int) + 1) + 1 := by omega
        have b2 : (first : Int) + (2 * (r : Int) + 1) + 1 < (n : Int) := by omega
        have b3 : IntKind.i64.wrap ((first : Int) + (2 * (r : Int) + 1) + 1) = (first : Int) + (2 * (r : Int) + 1) + 1 := IntWalk.i64_in _ (by omega)
        have b4 : ((first : Int) + (2 * (r : Int) + 1) + 1).toNat = first + (2 * r + 1) + 1 := by omega
        obtain ⟨l1, hl1⟩ : ∃ b, ltB d[first + (2 * r + 1)]! d[first + (2 * r + 1) + 1]! = b := ⟨_, rfl⟩
        have HL1 := Lib.hid (fun W => less_q hl1 W)
        have HKL : Hid (kid hi first r d = if l1 then 2 * r + 2 else 2 * r + 1) := by unfold kid Hid; rw [hl1, decide_eq_true h2]; rfl
        generalize d[first + (2 * r + 1)]! = x1 at p1 HL1
        generalize d[first + (2 * r + 1) + 1]! = x2 at p2 HL1
        clear hl1
        rcases l1 with _ | _
        · have HK : Hid (kid hi first r d = 2 * r + 1) := HKL.out
          clear HKL
          go_wp2_with fail
          go_quiet ((go_at_call 180; exact Calls.quiet_of_same (HL1.out _)))
          obtain ⟨w1, hw1⟩ : ∃ w1, w1 = wr.drewN nq := ⟨_, rfl⟩
          rw [← hw1]
          have HS1 : Hid (SB g tl d w1) := by rw [hw1]; exact HS.out.drewN _
          have HO1 : Hid (On g w w1) := by rw [hw1]; exact HO.out.drewN _
          clear hw1 HS HO
          rw [HK.out] at HE1 hkl
          have y1 := HS1.out.cell (i := first + r) (by rw [HZ.out]; omega)
          have y2 := HS1.out.cell (i := first + (2 * r + 1)) (by rw [HZ.out]; omega)
          have z1 := HS1.out.frozen (first + r) (by rw [HZ.out]; omega)
          have z2 := HS1.out.frozen (first + (2 * r + 1)) (by rw [HZ.out]; omega)
          have e1 : (0 : Int) ≤ (first : Int) + (r : Int) := by omega
          have e2 : (first : Int) + (r : Int) < (n : Int) := by omega
          have e3 : IntKind.i64.wrap ((first : Int) + (r : Int)) = (first : Int) + (r : Int) := IntWalk.i64_in _ (by omega)
          have e4 : ((first : Int) + (r : Int)).toNat = first + r := by omega
          have k1 : (0 : Int) ≤ (first : Int) + (2 * (r : Int) + 1) := by omega
          have k2 : (first : Int) + (2 * (r : Int) + 1) < (n : Int) := by omega
          have k3 : IntKind.i64.wrap ((first : Int) + (2 * (r : Int) + 1)) = (first : Int) + (2 * (r : Int) + 1) := IntWalk.i64_in _ (by omega)
          have k4 : ((first : Int) + (2 * (r : Int) + 1)).toNat = first + (2 * r + 1) := by omega
          obtain ⟨l2, hl2⟩ : ∃ b, ltB d[first + r]! d[first + (2 * r + 1)]! = b := ⟨_, rfl⟩
          have HL2 := Lib.hid (fun W => less_q hl2 W)
          have HSW := Lib.hid (HS1.out.swap (i := first + r) (j := first + (2 * r + 1)) (by rw [HZ.out]; omega) (by rw [HZ.out]; omega))
          have HZ1 : Hid ((Sort.swp d (first + r) (first + (2 * r + 1))).size = n) := (swp_sz _ _ _).trans HZ.out
          rw [hl2] at HE1
          generalize Sort.swp d (first + r) (first + (2 * r + 1)) = d' at HSW HZ1 HE1
          generalize d[first + r]! = v1 at y1 HL2 HSW
          generalize d[first + (2 * r + 1)]! = v2 at y2 HL2 HSW
          clear hl2
          rcases l2 with _ | _
          · go_wp2_with fail
            go_quiet ((go_at_call 180; exact Calls.quiet_of_same (HL2.out _)))
            go_wp2_with fail
            go_end0
            exact ⟨rfl, by rw [HE1.out]; exact HS1.out, HO1.out.drewN _⟩
          · go_wp2_with fail
            go_quiet ((go_at_call 180; exact Calls.quiet_of_same (HL2.out _)))
            go_wp2_with fail
            go_region
            go_wp2_with fail
            go_roundw
            case rel => exact ⟨2 * r + 1, d', by omega, by go_num, HSW.out, (HO1.out.drewN _).swap _ _ _ _, HZ1, by rw [HE1.out]; rfl⟩
            case measure => simp [intOf]; omega
        · have HK : Hid (kid hi first r d = 2 * r + 1 + 1) := HKL.out
          clear HKL
          go_wp2_with fail
          go_quiet ((go_at_call 180; exact Calls.quiet_of_same (HL1.out _)))
          obtain ⟨w1, hw1⟩ : ∃ w1, w1 = wr.drewN nq := ⟨_, rfl⟩
          rw [← hw1]
          have HS1 : Hid (SB g tl d w1) := by rw [hw1]; exact HS.out.drewN _
          have HO1 : Hid (On g w w1) := by rw [hw1]; exact HO.out.drewN _
          clear hw1 HS HO
          rw [HK.out] at HE1 hkl
          have y1 := HS1.out.cell (i := first + r) (by rw [HZ.out]; omega)
          have y2 := HS1.out.cell (i := first + (2 * r + 1 + 1)) (by rw [HZ.out]; omega)
          have z1 := HS1.out.frozen (first + r) (by rw [HZ.out]; omega)
          have z2 := HS1.out.frozen (first + (2 * r + 1 + 1)) (by rw [HZ.out]; omega)
          have e1 : (0 : Int) ≤ (first : Int) + (r : Int) := by omega
          have e2 : (first : Int) + (r : Int) < (n : Int) := by omega
          have e3 : IntKind.i64.wrap ((first : Int) + (r : Int)) = (first : Int) + (r : Int) := IntWalk.i64_in _ (by omega)
          have e4 : ((first : Int) + (r : Int)).toNat = first + r := by omega
          have k1 : (0 : Int) ≤ (first : Int) + (2 * (r : Int) + 1 + 1) := by omega
          have k2 : (first : Int) + (2 * (r : Int) + 1 + 1) < (n : Int) := by omega
          have k3 : IntKind.i64.wrap ((first : Int) + (2 * (r : Int) + 1 + 1)) = (first : Int) + (2 * (r : Int) + 1 + 1) := IntWalk.i64_in _ (by omega)
          have k4 : ((first : Int) + (2 * (r : Int) + 1 + 1)).toNat = first + (2 * r + 1 + 1) := by omega
          obtain ⟨l2, hl2⟩ : ∃ b, ltB d[first + r]! d[first + (2 * r + 1 + 1)]! = b := ⟨_, rfl⟩
          have HL2 := Lib.hid (fun W => less_q hl2 W)
          have HSW := Lib.hid (HS1.out.swap (i := first + r) (j := first + (2 * r + 1 + 1)) (by rw [HZ.out]; omega) (by rw [HZ.out]; omega))
          have HZ1 : Hid ((Sort.swp d (first + r) (first + (2 * r + 1 + 1))).size = n) := (swp_sz _ _ _).trans HZ.out
          rw [hl2] at HE1
          generalize Sort.swp d (first + r) (first + (2 * r + 1 + 1)) = d' at HSW HZ1 HE1
          generalize d[first + r]! = v1 at y1 HL2 HSW
          generalize d[first + (2 * r + 1 + 1)]! = v2 at y2 HL2 HSW
          clear hl2
          rcases l2 with _ | _
          · go_wp2_with fail
            go_quiet ((go_at_call 180; exact Calls.quiet_of_same (HL2.out _)))
            go_wp2_with fail
            go_end0
            exact ⟨rfl, by rw [HE1.out]; exact HS1.out, HO1.out.drewN _⟩
          · go_wp2_with fail
            go_quiet ((go_at_call 180; exact Calls.quiet_of_same (HL2.out _)))
            go_wp2_with fail
            go_region
            go_wp2_with fail
            go_roundw
            case rel => exact ⟨2 * r + 1 + 1, d', by omega, by go_num, HSW.out, (HO1.out.drewN _).swap _ _ _ _, HZ1, by rw [HE1.out]; rfl⟩
            case measure => simp [intOf]; omega
      · have g1 : decide (2 * (r : Int) + 1 + 1 < (hi : Int)) = false := decide_eq_false (by omega)
        have HK : Hid (kid hi first r d = 2 * r + 1) := by unfold kid Hid; rw [decide_eq_false h2]; rfl
        go_wp2_with fail
        go_quiet (fail)
        obtain ⟨w1, hw1⟩ : ∃ w1, w1 = wr.drewN nq := ⟨_, rfl⟩
        rw [← hw1]
        have HS1 : Hid (SB g tl d w1) := by rw [hw1]; exact HS.out.drewN _
        have HO1 : Hid (On g w w1) := by rw [hw1]; exact HO.out.drewN _
        clear hw1 HS HO
        rw [HK.out] at HE1 hkl
        have y1 := HS1.out.cell (i := first + r) (by rw [HZ.out]; omega)
        have y2 := HS1.out.cell (i := first + (2 * r + 1)) (by rw [HZ.out]; omega)
        have z1 := HS1.out.frozen (first + r) (by rw [HZ.out]; omega)
        have z2 := HS1.out.frozen (first + (2 * r + 1)) (by rw [HZ.out]; omega)
        have e1 : (0 : Int) ≤ (first : Int) + (r : Int) := by omega
        have e2 : (first : Int) + (r : Int) < (n : Int) := by omega
        have e3 : IntKind.i64.wrap ((first : Int) + (r : Int)) = (first : Int) + (r : Int) := IntWalk.i64_in _ (by omega)
        have e4 : ((first : Int) + (r : Int)).toNat = first + r := by omega
        have k1 : (0 : Int) ≤ (first : Int) + (2 * (r : Int) + 1) := by omega
        have k2 : (first : Int) + (2 * (r : Int) + 1) < (n : Int) := by omega
        have k3 : IntKind.i64.wrap ((first : Int) + (2 * (r : Int) + 1)) = (first : Int) + (2 * (r : Int) + 1) := IntWalk.i64_in _ (by omega)
        have k4 : ((first : Int) + (2 * (r : Int) + 1)).toNat = first + (2 * r + 1) := by omega
        obtain ⟨l2, hl2⟩ : ∃ b, ltB d[first + r]! d[first + (2 * r + 1)]! = b := ⟨_, rfl⟩
        have HL2 := Lib.hid (fun W => less_q hl2 W)
        have HSW := Lib.hid (HS1.out.swap (i := first + r) (j := first + (2 * r + 1)) (by rw [HZ.out]; omega) (by rw [HZ.out]; omega))
        have HZ1 : Hid ((Sort.swp d (first + r) (first + (2 * r + 1))).size = n) := (swp_sz _ _ _).trans HZ.out
        rw [hl2] at HE1
        generalize Sort.swp d (first + r) (first + (2 * r + 1)) = d' at HSW HZ1 HE1
        generalize d[first + r]! = v1 at y1 HL2 HSW
        generalize d[first + (2 * r + 1)]! = v2 at y2 HL2 HSW
        clear hl2
        rcases l2 with _ | _
        · go_wp2_with fail
          go_quiet ((go_at_call 180; exact Calls.quiet_of_same (HL2.out _)))
          go_wp2_with fail
          go_end0
          exact ⟨rfl, by rw [HE1.out]; exact HS1.out, HO1.out.drewN _⟩
        · go_wp2_with fail
          go_quiet ((go_at_call 180; exact Calls.quiet_of_same (HL2.out _)))
          go_wp2_with fail
          go_region
          go_wp2_with fail
          go_roundw
          case rel => exact ⟨2 * r + 1, d', by omega, by go_num, HSW.out, (HO1.out.drewN _).swap _ _ _ _, HZ1, by rw [HE1.out]; rfl⟩
          case measure => simp [intOf]; omega

end Go.Proofs.YtgolhfmmlanmlaaGreatDoor

/- Walks: the library's heap sort at bytes: built and taken apart. -/
namespace Go.Proofs.YtgolhfmmlanmlaaGreatDoor
open Go.RowKit Pth

theorem sift_size (hi first : Nat) : ∀ (m r : Nat) (d : Array UInt8), hi - r ≤ m → (Sort.siftDown ltB hi first r d).size = d.size := by
  intro m
  induction m with
  | zero =>
    intro r d h
    rw [sift_end (by omega)]
  | succ m ih =>
    intro r d h
    by_cases hend : hi ≤ 2 * r + 1
    · rw [sift_end hend]
    · rw [sift_step hend]
      have hk := kid_lt (first := first) (d := d) hend
      split
      · rw [ih _ _ (by omega), swp_sz]
      · rfl
theorem sift_sz (hi first r : Nat) (d : Array UInt8) : (Sort.siftDown ltB hi first r d).size = d.size := sift_size hi first _ r d (Nat.le_refl _)
theorem sift8i (g : Nat) (tl : List Value) (d0 : Array UInt8) (n cap lo hi first : Nat) (LO HI FI : Int) (h1 : LO = lo) (h2 : HI = hi) (h3 : FI = first) (w : World) (h : SB g tl d0 w) (hn : d0.size = n) (hc : n ≤ cap) (hb : first + hi ≤ n) (hN : n ≤ 1000) (hlo : lo ≤ 1000) :
    Calls Tryz.prog 187 #[.slice (some ⟨g, 0, none⟩) n cap, .int .i64 LO, .int .i64 HI, .int .i64 FI] w (SPost g tl (Sort.siftDown ltB hi first lo d0) w) := by
  subst h1 h2 h3
  exact sift8 g tl d0 n cap lo hi first w h hn hc hb hN hlo
theorem build_go (hi first k : Nat) (d : Array UInt8) : Sort.heapBuild ltB hi first (k + 1) d = Sort.heapBuild ltB hi first k (Sort.siftDown ltB hi first k d) := rfl
theorem pop_go (first k : Nat) (d : Array UInt8) : Sort.heapPop ltB first (k + 1) d = Sort.heapPop ltB first k (Sort.siftDown ltB k first 0 (Sort.swp d first (first + k))) := rfl

set_option maxRecDepth 20000 in
set_option maxHeartbeats 4000000 in
theorem heap8 (g : Nat) (tl : List Value) (d0 : Array UInt8) (n cap a b : Nat) (w : World) (h : SB g tl d0 w) (hn : d0.size = n) (hc : n ≤ cap) (hb : b ≤ n) (hN : n ≤ 1000) (hpos : a < b) :
    Calls Tryz.prog 175 #[.slice (some ⟨g, 0, none⟩) n cap, .int .i64 a, .int .i64 b] w (SPost g tl (Sort.heapSort ltB d0 a b) w) := by
  obtain ⟨hi, hhi⟩ : ∃ hi, hi = b - a := ⟨_, rfl⟩
  have HT : Hid (Sort.heapSort ltB d0 a b = Sort.heapPop ltB a hi (Sort.heapBuild ltB hi a ((hi - 1) / 2 + 1) d0)) := by subst hhi; rfl
  have HI1 : (b : Int) ≤ (a : Int) + (hi : Int) := by omega
  have HI2 : (a : Int) + (hi : Int) ≤ (b : Int) := by omega
  have HS := Lib.hid h
  have HZ := Lib.hid hn
  clear h hn hhi
  go_enter Tryz.func175, Tryz.ntmps175
  go_wp2_with fail
  go_loopw [9] (fun q wr => ∃ (k : Nat) (d : Array UInt8), k ≤ (hi - 1) / 2 + 1 ∧ q = .int .i64 ((k : Int) - 1) ∧ Hid (SB g tl d wr) ∧ Hid (On g w wr) ∧ Hid (d.size = n) ∧ Hid (Sort.heapBuild ltB hi a ((hi - 1) / 2 + 1) d0 = Sort.heapBuild ltB hi a k d)) (fun q _ => (intOf q + 1).toNat)
  case atStart => exact ⟨(hi - 1) / 2 + 1, d0, Nat.le_refl _, by congr 1; omega, HS, On.refl _ _, HZ, rfl⟩
  case round =>
    clear HS HZ
    obtain ⟨k, d, hk, rfl, HS, HO, HZ, HE⟩ := hrel
    rcases k with _ | k
    · have HE1 : Hid (Sort.heapBuild ltB hi a ((hi - 1) / 2 + 1) d0 = d) := HE.out
      clear HE
      go_wp2_with fail
      go_loopw [10] (fun q wq => ∃ (m : Nat) (c : Array UInt8), m ≤ hi ∧ q = .int .i64 ((m : Int) - 1) ∧ Hid (SB g tl c wq) ∧ Hid (On g w wq) ∧ Hid (c.size = n) ∧ Hid (Sort.heapPop ltB a hi d = Sort.heapPop ltB a m c)) (fun q _ => (intOf q + 1).toNat)
      case atStart => exact ⟨hi, d, Nat.le_refl _, by congr 1; omega, HS, HO, HZ, rfl⟩
      case round =>
        clear HS HO HZ
        obtain ⟨m, c, hm, rfl, HS, HO, HZ, HF⟩ := hrel
        rcases m with _ | m
        · have HF1 : Hid (Sort.heapPop ltB a hi d = c) := HF.out
          clear HF
          go_wp2_with fail
          go_end0
          exact ⟨rfl, by rw [HT.out, HE1.out, HF1.out]; exact HS.out, HO.out⟩
        · have HF1 := Lib.hid (HF.out.trans (pop_go a m c))
          have y1 := HS.out.cell (i := a) (by rw [HZ.out]; omega)
          have y2 := HS.out.cell (i := a + m) (by rw [HZ.out]; omega)
          have y3 := (HS.out.set (i := a) (by rw [HZ.out]; omega) c[a + m]!).cell (i := a + m) (by simp [HZ.out]; omega)
          have z1 := HS.out.frozen a (by rw [HZ.out]; omega)
          have z2 := HS.out.frozen (a + m) (by rw [HZ.out]; omega)
          have e2 : (a : Int) < (n : Int) := by omega
          have k1 : (0 : Int) ≤ (a : Int) + (m : Int) := by omega
          have k2 : (a : Int) + (m : Int) < (n : Int) := by omega
          have k3 : IntKind.i64.wrap ((a : Int) + (m : Int)) = (a : Int) + (m : Int) := IntWalk.i64_in _ (by omega)
          have k4 : ((a : Int) + (m : Int)).toNat = a + m := by omega
          have HSW := Lib.hid (HS.out.swap (i := a) (j := a + m) (by rw [HZ.out]; omega) (by rw [HZ.out]; omega))
          have HZ1 : Hid ((Sort.swp c a (a + m)).size = n) := (swp_sz _ _ _).trans HZ.out
          have HOW := Lib.hid (HO.out.swap a (a + m) (.int .u8 (c[a + m]!.toNat : Int)) (.int .u8 (c[a]!.toNat : Int)))
          generalize Sort.swp c a (a + m) = c' at HSW HZ1 HF1
          clear HF HS HO HZ
          generalize (c.setIfInBounds a c[a + m]!)[a + m]! = v3 at y3
          generalize c[a]! = v1 at y1 HSW HOW
          generalize c[a + m]! = v2 at y2 HSW HOW y3
          have HC := Lib.hid (fun (W : World) (hs : SB g tl c' W) => sift8i g tl c' n cap 0 m a 0 (m : Int) a rfl rfl rfl W hs HZ1.out hc (by omega) hN (by omega))
          have HZ2 : Hid ((Sort.siftDown ltB m a 0 c').size = n) := (sift_sz _ _ _ _).trans HZ1.out
          generalize Sort.siftDown ltB m a 0 c' = c2 at HC HZ2 HF1
          go_wp2_with fail
          go_region
          go_wp2_with fail
          refine (HC.out _ (by exact HSW.out)).mono ?_
          rintro e w3 ⟨rfl, hs3, ho3⟩
          have HS3 := Lib.hid hs3
          have HO3 := Lib.hid ((HOW.out.drewN 1).trans ho3)
          clear hs3 ho3 HC HSW HOW
          go_wp2_with fail
          go_roundw
          case rel => ((repeat apply Exists.intro); exact ⟨⟨m, c2, by omega, by go_num, HS3, HO3, HZ2, HF1⟩, rfl⟩)
          case measure => simp [intOf]
    · have HE1 := Lib.hid (HE.out.trans (build_go hi a k d))
      have HC := Lib.hid (sift8i g tl d n cap k hi a (k : Int) ((b : Int) - (a : Int)) a rfl (by omega) rfl wr HS.out HZ.out hc (by omega) hN (by omega))
      have HZ1 : Hid ((Sort.siftDown ltB hi a k d).size = n) := (sift_sz _ _ _ _).trans HZ.out
      clear HE
      generalize Sort.siftDown ltB hi a k d = d' at HC HZ1 HE1
      go_wp2_with fail
      with_reducible refine HC.out.mono ?_
      rintro e w1 ⟨rfl, hs1, ho1⟩
      have HS1 := Lib.hid hs1
      have HO1 := Lib.hid (HO.out.trans ho1)
      clear hs1 ho1 HC HS HO HZ
      go_wp2_with fail
      go_roundw
      case rel => exact ⟨k, d', by omega, by go_num, HS1, HO1, HZ1, HE1⟩
      case measure => simp [intOf]

end Go.Proofs.YtgolhfmmlanmlaaGreatDoor

/- Walks: the library's sort at bytes: turned about; in order already; the pivot. -/
namespace Go.Proofs.YtgolhfmmlanmlaaGreatDoor
open Go.RowKit Pth

theorem rev_go {i j : Nat} {d : Array UInt8} (h : i < j) : Sort.reverseLoop i j d = Sort.reverseLoop (i + 1) (j - 1) (Sort.swp d i j) := by
  rw [Sort.reverseLoop, if_pos h]
theorem rev_stop {i j : Nat} {d : Array UInt8} (h : ¬ i < j) : Sort.reverseLoop i j d = d := by
  rw [Sort.reverseLoop, if_neg h]

set_option maxRecDepth 20000 in
set_option maxHeartbeats 4000000 in
theorem reverse8 (g : Nat) (tl : List Value) (d0 : Array UInt8) (n cap a b : Nat) (w : World) (h : SB g tl d0 w) (hn : d0.size = n) (_hc : n ≤ cap) (hb : b ≤ n) (hN : n ≤ 1000) (hpos : a < b) :
    Calls Tryz.prog 178 #[.slice (some ⟨g, 0, none⟩) n cap, .int .i64 a, .int .i64 b] w (SPost g tl (Sort.reverseRange d0 a b) w) := by
  have HT : Hid (Sort.reverseRange d0 a b = Sort.reverseLoop a (b - 1) d0) := rfl
  have HS := Lib.hid h
  have HZ := Lib.hid hn
  clear h hn
  go_enter Tryz.func178, Tryz.ntmps178
  go_wp2_with fail
  go_loopw [6, 7] (fun p q wr => ∃ (i j : Nat) (d : Array UInt8), i ≤ 1000 ∧ j < b ∧ p = .int .i64 i ∧ q = .int .i64 j ∧ Hid (SB g tl d wr) ∧ Hid (On g w wr) ∧ Hid (d.size = n) ∧ Hid (Sort.reverseLoop a (b - 1) d0 = Sort.reverseLoop i j d)) (fun p _ _ => 1000 - (intOf p).toNat)
  case atStart => exact ⟨a, b - 1, d0, by omega, by omega, rfl, by congr 1; omega, HS, On.refl _ _, HZ, rfl⟩
  case round =>
    clear HS HZ
    obtain ⟨i, j, d, hi, hj, rfl, rfl, HS, HO, HZ, HE⟩ := hrel
    by_cases hlt : i < j
    · have HE1 := Lib.hid (HE.out.trans (rev_go hlt))
      have y1 := HS.out.cell (i := i) (by rw [HZ.out]; omega)
      have y2 := HS.out.cell (i := j) (by rw [HZ.out]; omega)
      have z1 := HS.out.frozen i (by rw [HZ.out]; omega)
      have z2 := HS.out.frozen j (by rw [HZ.out]; omega)
      have e1 : (i : Int) < (n : Int) := by omega
      have e2 : (j : Int) < (n : Int) := by omega
      have HSW := Lib.hid (HS.out.swap (i := i) (j := j) (by rw [HZ.out]; omega) (by rw [HZ.out]; omega))
      have HZ1 : Hid ((Sort.swp d i j).size = n) := (swp_sz _ _ _).trans HZ.out
      generalize Sort.swp d i j = d' at HSW HZ1 HE1
      clear HE HS HZ
      generalize d[i]! = v1 at y1 HSW
      generalize d[j]! = v2 at y2 HSW
      go_wp2_with fail
      go_region
      go_wp2_with fail
      go_roundw
      case rel => exact ⟨i + 1, j - 1, d', by omega, by omega, by go_num, by congr 1; omega, HSW.out, (HO.out.drewN 1).swap _ _ _ _, HZ1, HE1⟩
      case measure => simp [intOf]; omega
    · have HE1 := Lib.hid (HE.out.trans (rev_stop hlt))
      clear HE
      go_wp2_with fail
      go_end0
      exact ⟨rfl, by rw [HT.out, HE1.out]; exact HS.out, HO.out⟩

/-- In order from a on, up to i. -/
def Ord8 (d : Array UInt8) (a i : Nat) : Prop := ∀ k, a < k → k < i → ltB d[k]! d[k - 1]! = false
theorem ord_sorted {d : Array UInt8} {a b : Nat} (h : Ord8 d a b) : Sort.SortedIn ltB a b d := by
  intro i j hi hij hj
  induction j with
  | zero => omega
  | succ j ih =>
    have h1 := h (j + 1) (by omega) hj
    rw [Nat.add_sub_cancel] at h1
    by_cases e : i = j
    · subst e; exact h1
    · have h2 := ih (by omega) (by omega)
      exact swo8.ntrans _ _ _ h1 h2

/-- Whether it is in order already; the block is as it was. -/
def PartPost (g : Nat) (tl : List Value) (d : Array UInt8) (a b : Nat) (w : World) (e : Ending) (w' : World) : Prop :=
  ∃ r : Bool, e = .returned (.bool r) ∧ (r = true → Sort.SortedIn ltB a b d) ∧ SB g tl d w' ∧ On g w w'

set_option maxRecDepth 20000 in
set_option maxHeartbeats 4000000 in
theorem partial8 (g : Nat) (tl : List Value) (d : Array UInt8) (n cap a b : Nat) (w : World) (h : SB g tl d w) (hn : d.size = n) (_hc : n ≤ cap) (hb : b ≤ n) (hN : n ≤ 1000) (hpos : a < b) (hlen : b - a < 50) :
    Calls Tryz.prog 179 #[.slice (some ⟨g, 0, none⟩) n cap, .int .i64 a, .int .i64 b] w (PartPost g tl d a b w) := by
  have HS := Lib.hid h
  have HZ := Lib.hid hn
  have hl50 : decide ((b : Int) - (a : Int) < 50) = true := decide_eq_true (by omega)
  clear h hn
  go_enter Tryz.func179, Tryz.ntmps179
  go_wp2_with fail
  go_loopw [7, 8] (fun p q wr => p = .int .i64 ((a : Int) + 1) ∧ q = .int .i64 0 ∧ w = wr) (fun _ _ _ => 0)
  case atStart => exact ⟨rfl, rfl, rfl⟩
  case round =>
    obtain ⟨rfl, rfl, rfl⟩ := hrel
    go_wp2_with fail
    go_loopw [7] (fun p wr => ∃ i : Nat, a + 1 ≤ i ∧ i ≤ b ∧ p = .int .i64 i ∧ Hid (SB g tl d wr) ∧ Hid (On g w wr) ∧ Hid (Ord8 d a i)) (fun p _ => b - (intOf p).toNat)
    case atStart => exact ⟨a + 1, Nat.le_refl _, by omega, by go_num, HS, On.refl _ _, fun k h1 h2 => by omega⟩
    case round =>
      clear HS
      obtain ⟨i, hi0, hi1, rfl, HS, HO, HE⟩ := hrel
      by_cases hlt : i < b
      · obtain ⟨m, rfl⟩ : ∃ m, i = m + 1 := ⟨i - 1, by omega⟩
        have hg1 : decide ((m : Int) + 1 < (b : Int)) = true := decide_eq_true (by omega)
        have c1 := HS.out.cell (i := m + 1) (by rw [HZ.out]; omega)
        have c0 := HS.out.cell (i := m) (by rw [HZ.out]; omega)
        obtain ⟨lb, hlb⟩ : ∃ lb, ltB d[m + 1]! d[m]! = lb := ⟨_, rfl⟩
        have HL := Lib.hid (fun W => less_q hlb W)
        have hx1 : (m : Int) + 1 < (n : Int) := by omega
        have hx0 : (m : Int) < (n : Int) := by omega
        have hx2 : (0 : Int) ≤ (m : Int) + 1 := by omega
        have hn1 : ((m : Int) + 1).toNat = m + 1 := by omega
        have hw1 : IntKind.i64.wrap (m : Int) = (m : Int) := IntWalk.i64_in _ (by omega)
        rcases lb with _ | _
        · have HE1 : Hid (Ord8 d a (m + 1 + 1)) := by
            intro k h1 h2
            by_cases e : k = m + 1
            · subst e; exact hlb
            · exact HE.out k h1 (by omega)
          clear HE hlb
          generalize d[m + 1]! = x at c1 HL
          generalize d[m]! = y at c0 HL
          go_wp2_with fail
          go_quiet ((go_at_call 180; exact Calls.quiet_of_same (HL.out _)))
          go_wp2_with fail
          go_roundw
          case rel => exact ⟨m + 1 + 1, by omega, by omega, by go_num, HS.out.drewN _, HO.out.drewN _, HE1⟩
          case measure => simp [intOf]; omega
        · have hne : ((m : Int) + 1 == (b : Int)) = false := by simp; omega
          clear HE hlb
          generalize d[m + 1]! = x at c1 HL
          generalize d[m]! = y at c0 HL
          go_wp2_with fail
          go_quiet ((go_at_call 180; exact Calls.quiet_of_same (HL.out _)))
          go_wp2_with fail
          go_ret
          exact ⟨false, rfl, (fun h => by cases h), HS.out.drewN _, HO.out.drewN _⟩
      · have HSO := Lib.hid (ord_sorted (show Ord8 d a b by have := HE.out; rwa [show i = b by omega] at this))
        have hg1 : decide ((i : Int) < (b : Int)) = false := decide_eq_false (by omega)
        have heq : ((i : Int) == (b : Int)) = true := by simp; omega
        clear HE
        go_wp2_with fail
        go_quiet (fail)
        go_wp2_with fail
        go_ret
        exact ⟨true, rfl, fun _ => HSO.out, HS.out.drewN _, HO.out.drewN _⟩

end Go.Proofs.YtgolhfmmlanmlaaGreatDoor

/- Walks: the library's sort at bytes: the pivot. -/
namespace Go.Proofs.YtgolhfmmlanmlaaGreatDoor
open Go.RowKit Pth

/-- A counter in a block of its own. -/
def CntB (s v : Nat) (w : World) : Prop := w.heap[s]? = some (.cells #[.int .i64 (v : Int)] 3 (0, 0))
theorem CntB.cell {s v : Nat} {w : World} (h : CntB s v w) : w.cell? ⟨s, 0, none⟩ = some (.int .i64 (v : Int)) := by unfold CntB at h; rw [Lib.cell_of_heap h]; rfl
theorem CntB.frozen {s v : Nat} {w : World} (h : CntB s v w) : w.frozen? ⟨s, 0, none⟩ = false := Lib.frozen_of_heap h 0
theorem CntB.set {s v : Nat} {w : World} (h : CntB s v w) (u : Nat) : CntB s u (w.setCell ⟨s, 0, none⟩ (.int .i64 (u : Int))) := by
  unfold CntB at h ⊢
  rw [block_set8 h]; rfl
theorem SB.on {g s : Nat} {tl : List Value} {d : Array UInt8} {w w' : World} (h : SB g tl d w) (ho : On s w w') (hne : g ≠ s) : SB g tl d w' := (ho.block g (lt_of_block h) (by simpa using hne)).trans h

/-- Two places in order; the counter goes up by one at most. -/
def Ord2Post (g s : Nat) (tl : List Value) (d : Array UInt8) (a b v : Nat) (w : World) (e : Ending) (w' : World) : Prop :=
  ∃ x y v' : Nat, ((x = a ∧ y = b) ∨ (x = b ∧ y = a)) ∧ v' ≤ v + 1 ∧ e = .returned (.tuple #[.int .i64 x, .int .i64 y]) ∧ CntB s v' w' ∧ SB g tl d w' ∧ On s w w'

set_option maxRecDepth 20000 in
set_option maxHeartbeats 2000000 in
theorem order2_8 (g s : Nat) (tl : List Value) (d : Array UInt8) (n cap a b v : Nat) (w : World) (h : SB g tl d w) (hk : CntB s v w) (hgs : g ≠ s) (hn : d.size = n) (_hc : n ≤ cap) (ha : a < n) (hb : b < n) (_hN : n ≤ 1000) (hv : v ≤ 1000) :
    Calls Tryz.prog 195 #[.slice (some ⟨g, 0, none⟩) n cap, .int .i64 a, .int .i64 b, .pointer (some ⟨s, 0, none⟩)] w (Ord2Post g s tl d a b v w) := by
  have HS := Lib.hid h
  have HK := Lib.hid hk
  have c1 := HS.out.cell (i := b) (by omega)
  have c0 := HS.out.cell (i := a) (by omega)
  have ck := HK.out.cell
  have cf := HK.out.frozen
  obtain ⟨lb, hlb⟩ : ∃ lb, ltB d[b]! d[a]! = lb := ⟨_, rfl⟩
  have HL := Lib.hid (fun W => less_q hlb W)
  have hx1 : (b : Int) < (n : Int) := by omega
  have hx0 : (a : Int) < (n : Int) := by omega
  clear h hk hn hlb
  generalize d[b]! = x at c1 HL
  generalize d[a]! = y at c0 HL
  rcases lb with _ | _
  · go_enter Tryz.func195, Tryz.ntmps195
    go_wp2_with fail
    go_quiet ((go_at_call 180; exact Calls.quiet_of_same (HL.out _)))
    go_wp2_with fail
    go_ret2
    exact ⟨a, b, v, .inl ⟨rfl, rfl⟩, by omega, rfl, HK.out, HS.out.drewN _, (On.refl _ _).drewN _⟩
  · have HK1 := Lib.hid (HK.out.set (v + 1))
    go_enter Tryz.func195, Tryz.ntmps195
    go_wp2_with fail
    go_quiet ((go_at_call 180; exact Calls.quiet_of_same (HL.out _)))
    go_wp2_with fail
    go_ret2
    exact ⟨b, a, v + 1, .inr ⟨rfl, rfl⟩, by omega, rfl, HK1.out, HS.out.on (((On.refl s w).drewN _).set 0 _) hgs, ((On.refl s w).drewN _).set 0 _⟩

/-- One of three places. -/
def MedPost (g s : Nat) (tl : List Value) (d : Array UInt8) (a b c v : Nat) (w : World) (e : Ending) (w' : World) : Prop :=
  ∃ x v' : Nat, (x = a ∨ x = b ∨ x = c) ∧ v' ≤ v + 3 ∧ e = .returned (.int .i64 x) ∧ CntB s v' w' ∧ SB g tl d w' ∧ On s w w'

set_option maxRecDepth 20000 in
set_option maxHeartbeats 2000000 in
theorem median8 (g s : Nat) (tl : List Value) (d : Array UInt8) (n cap a b c v : Nat) (w : World) (h : SB g tl d w) (hk : CntB s v w) (hgs : g ≠ s) (hn : d.size = n) (hc : n ≤ cap) (ha : a < n) (hb : b < n) (hcc : c < n) (hN : n ≤ 1000) (hv : v ≤ 900) :
    Calls Tryz.prog 189 #[.slice (some ⟨g, 0, none⟩) n cap, .int .i64 a, .int .i64 b, .int .i64 c, .pointer (some ⟨s, 0, none⟩)] w (MedPost g s tl d a b c v w) := by
  have HN := Lib.hid hn
  have HC1 := Lib.hid (order2_8 g s tl d n cap a b v w h hk hgs hn hc ha hb hN (by omega))
  clear h hk hn
  go_enter Tryz.func189, Tryz.ntmps189
  go_wp2_with fail
  refine HC1.out.mono ?_
  rintro e w1 ⟨x1, y1, v1, hxy1, hv1, rfl, hk1, hs1, ho1⟩
  have HC2 := Lib.hid (order2_8 g s tl d n cap y1 c v1 w1 hs1 hk1 hgs HN.out hc (by omega) hcc hN (by omega))
  have HO1 := Lib.hid ho1
  clear hk1 hs1 ho1 HC1
  go_wp2_with fail
  refine HC2.out.mono ?_
  rintro e w2 ⟨x2, y2, v2, hxy2, hv2, rfl, hk2, hs2, ho2⟩
  have HC3 := Lib.hid (order2_8 g s tl d n cap x1 x2 v2 w2 hs2 hk2 hgs HN.out hc (by omega) (by omega) hN (by omega))
  have HO2 := Lib.hid (HO1.out.trans ho2)
  clear hk2 hs2 ho2 HC2 HO1
  go_wp2_with fail
  refine HC3.out.mono ?_
  rintro e w3 ⟨x3, y3, v3, hxy3, hv3, rfl, hk3, hs3, ho3⟩
  have HK3 := Lib.hid hk3
  have HS3 := Lib.hid hs3
  have HO3 := Lib.hid (HO2.out.trans ho3)
  clear hk3 hs3 ho3 HC3 HO2
  go_wp2_with fail
  go_ret
  exact ⟨y3, v3, by omega, by omega, rfl, HK3.out, HS3.out, HO3.out⟩

/-- A place between a and b, and a hint; the block is as it was. -/
def PivPost (g : Nat) (tl : List Value) (d : Array UInt8) (a b : Nat) (w : World) (e : Ending) (w' : World) : Prop :=
  ∃ p q : Nat, a ≤ p ∧ p < b ∧ q ≤ 2 ∧ e = .returned (.tuple #[.int .i64 p, .int .i64 q]) ∧ SB g tl d w' ∧ On g w w'
theorem on_new {g s : Nat} {w w1 w2 : World} (h : On g w w1) (k : On s w1 w2) (hs : w.heap.size ≤ s) : On g w w2 :=
  ⟨k.os.trans h.os, k.tape.trans h.tape, k.output.trans h.output, Nat.le_trans h.size k.size, fun i hi hn => (k.block i (Nat.lt_of_lt_of_le hi h.size) (by simp; omega)).trans (h.block i hi hn)⟩

set_option maxRecDepth 20000 in
set_option maxHeartbeats 2000000 in
theorem pivot8 (g : Nat) (tl : List Value) (d : Array UInt8) (n cap a b : Nat) (w : World) (h : SB g tl d w) (hn : d.size = n) (hc : n ≤ cap) (hb : b ≤ n) (hN : n ≤ 1000) (hpos : a + 8 ≤ b) (hlen : b - a < 50) :
    Calls Tryz.prog 177 #[.slice (some ⟨g, 0, none⟩) n cap, .int .i64 a, .int .i64 b] w (PivPost g tl d a b w) := by
  have hgl := lt_of_block h
  obtain ⟨l, hl⟩ : ∃ l, l = b - a := ⟨_, rfl⟩
  have hbl : (b : Int) - (a : Int) ≤ (l : Int) := by omega
  have hbl2 : (l : Int) ≤ (b : Int) - (a : Int) := by omega
  have hd8 : decide ((b : Int) - (a : Int) ≥ 8) = true := decide_eq_true (by omega)
  have hd50 : decide ((b : Int) - (a : Int) ≥ 50) = false := decide_eq_false (by omega)
  obtain ⟨wa, hwa⟩ : ∃ wa, wa = w.alloc (.cells #[.int .i64 0] 3) := ⟨_, rfl⟩
  have HSA : Hid (SB g tl d wa) := by rw [hwa]; exact h.alloc _
  have HKA : Hid (CntB w.heap.size 0 wa) := by rw [hwa]; exact heap_alloc_new w _
  have HOA : Hid (On g w wa) := by rw [hwa]; exact (On.refl _ _).alloc _
  have HC := Lib.hid (median8 g w.heap.size tl d n cap (a + l / 4 * 1) (a + l / 4 * 2) (a + l / 4 * 3) 0 wa HSA.out HKA.out (by omega) hn hc (by omega) (by omega) (by omega) hN (by omega))
  have i1 : (((a + l / 4 * 1 : Nat)) : Int) = (a : Int) + ((b : Int) - (a : Int)) / 4 := by omega
  have i2 : (((a + l / 4 * 2 : Nat)) : Int) = (a : Int) + ((b : Int) - (a : Int)) / 4 * 2 := by omega
  have i3 : (((a + l / 4 * 3 : Nat)) : Int) = (a : Int) + ((b : Int) - (a : Int)) / 4 * 3 := by omega
  rw [i1, i2, i3] at HC
  have HWA := Lib.hid hwa
  clear h hn hl hwa i1 i2 i3
  go_enter Tryz.func177, Tryz.ntmps177
  go_wp2_with fail
  rw [← HWA.out]
  with_reducible refine HC.out.mono ?_
  rintro e w1 ⟨x, v1, hx, hv1, rfl, hk1, hs1, ho1⟩
  have ck := hk1.cell
  have HS1 := Lib.hid hs1
  have HO1 := Lib.hid (on_new HOA.out ho1 (Nat.le_refl _))
  clear hk1 hs1 ho1 HC HWA HSA HKA HOA
  by_cases h0 : v1 = 0
  · subst h0
    go_wp2_with fail
    go_ret2
    exact ⟨x, 1, by omega, by omega, by omega, rfl, HS1.out, HO1.out⟩
  · have q0 : ((v1 : Int) == 0) = false := by simp; omega
    have q1 : ((v1 : Int) == 12) = false := by simp; omega
    go_wp2_with fail
    go_ret2
    exact ⟨x, 0, by omega, by omega, by omega, rfl, HS1.out, HO1.out⟩

end Go.Proofs.YtgolhfmmlanmlaaGreatDoor

/- Walks: the library's sort at bytes: powers of two, random numbers. -/
namespace Go.Proofs.YtgolhfmmlanmlaaGreatDoor
open Go.RowKit Pth

theorem pow_small : ∀ l : Fin 50, IntKind.u64.wrap (2 ^ min (Lib.bitLen l.val) 64) = ((2 ^ Lib.bitLen l.val : Nat) : Int) ∧ 2 ^ Lib.bitLen l.val ≤ 2 * l.val + 1 ∧ 1 ≤ 2 ^ Lib.bitLen l.val := by decide
theorem pow_facts {l : Nat} (h : l < 50) : IntKind.u64.wrap (2 ^ min (Lib.bitLen l) 64) = ((2 ^ Lib.bitLen l : Nat) : Int) ∧ 2 ^ Lib.bitLen l ≤ 2 * l + 1 ∧ 1 ≤ 2 ^ Lib.bitLen l := pow_small ⟨l, h⟩
theorem pow_even : ∀ l : Fin 50, 1 ≤ l.val → 2 ^ Lib.bitLen l.val ≤ 2 * l.val := by decide
/-- A power of two that is no more than twice as much. -/
def PowPost (l : Nat) (w : World) (e : Ending) (w' : World) : Prop := ∃ m : Nat, 1 ≤ m ∧ m ≤ 2 * l ∧ e = .returned (.int .u64 (m : Int)) ∧ w = w'

set_option maxHeartbeats 1000000 in
theorem pow2_8 (l : Nat) (L : Int) (hL : L = l) (w : World) (h1 : 8 ≤ l) (h2 : l < 50) : Calls Tryz.prog 160 #[.int .i64 L] w (PowPost l w) := by
  subst hL
  have HC := Lib.hid (Tryz.bits_Len (l : Int) w (by omega) (by omega))
  have HP := Lib.hid (pow_facts h2)
  have HE := Lib.hid (pow_even ⟨l, h2⟩ (by show 1 ≤ l; omega))
  go_enter Tryz.func160, Tryz.ntmps160
  go_wp2_with fail
  refine HC.out.mono ?_
  rintro e w' ⟨rfl, rfl⟩
  go_wp2_with fail
  go_ret
  exact ⟨2 ^ Lib.bitLen l, HP.out.2.2, HE.out, by rw [← HP.out.1] <;> rfl, rfl⟩

/-- The random number's block. -/
def Rnd (s : Nat) (w : World) : Prop := ∃ z : Int, w.heap[s]? = some (.cells #[.int .u64 z] 196 (0, 0))
def RndPost (s : Nat) (w : World) (e : Ending) (w' : World) : Prop := ∃ z : Int, e = .returned (.int .u64 z) ∧ Rnd s w' ∧ On s w w'

set_option maxRecDepth 20000 in
set_option maxHeartbeats 1000000 in
theorem next8 (s : Nat) (w : World) (h : Rnd s w) : Calls Tryz.prog 161 #[.pointer (some ⟨s, 0, none⟩)] w (RndPost s w) := by
  obtain ⟨z, hz⟩ := h
  have HZ := Lib.hid hz
  have c0 : w.cell? ⟨s, 0, none⟩ = some (.int .u64 z) := by rw [Lib.cell_of_heap hz]; rfl
  have f0 : w.frozen? ⟨s, 0, none⟩ = false := Lib.frozen_of_heap hz 0
  clear hz
  go_enter Tryz.func161, Tryz.ntmps161
  go_wp2_with fail
  go_region
  go_wp2_with fail
  generalize bits BinOp.xor IntKind.u64 z (IntKind.u64.wrap (z * 8192)) = z1
  have HZ1 := Lib.hid (block_set8 (o := 0) (u := .int .u64 z1) HZ.out)
  have HO1 := Lib.hid (((On.refl s w).set 0 (.int .u64 z1)).drewN 1)
  obtain ⟨w1, hw1⟩ : ∃ w1, w1 = (w.setCell ⟨s, 0, none⟩ (.int .u64 z1)).drew := ⟨_, rfl⟩
  rw [← hw1]
  have HZ2 : Hid (w1.heap[s]? = some (.cells #[.int .u64 z1] 196 (0, 0))) := by rw [hw1]; exact HZ1.out
  have HO2 : Hid (On s w w1) := by rw [hw1]; exact HO1.out
  have c1 : w1.cell? ⟨s, 0, none⟩ = some (.int .u64 z1) := by rw [Lib.cell_of_heap HZ2.out]; rfl
  have f1 : w1.frozen? ⟨s, 0, none⟩ = false := Lib.frozen_of_heap HZ2.out 0
  clear hw1 HZ1 HO1 HZ c0 f0
  go_region
  go_wp2_with fail
  generalize bits BinOp.xor IntKind.u64 z1 (z1 / 128) = z2
  have HZ3 := Lib.hid (block_set8 (o := 0) (u := .int .u64 z2) HZ2.out)
  have HO3 := Lib.hid ((HO2.out.set 0 (.int .u64 z2)).drewN 1)
  obtain ⟨w2, hw2⟩ : ∃ w2, w2 = (w1.setCell ⟨s, 0, none⟩ (.int .u64 z2)).drew := ⟨_, rfl⟩
  rw [← hw2]
  have HZ4 : Hid (w2.heap[s]? = some (.cells #[.int .u64 z2] 196 (0, 0))) := by rw [hw2]; exact HZ3.out
  have HO4 : Hid (On s w w2) := by rw [hw2]; exact HO3.out
  have c2 : w2.cell? ⟨s, 0, none⟩ = some (.int .u64 z2) := by rw [Lib.cell_of_heap HZ4.out]; rfl
  have f2 : w2.frozen? ⟨s, 0, none⟩ = false := Lib.frozen_of_heap HZ4.out 0
  clear hw2 HZ3 HO3 HZ2 HO2 c1 f1
  go_region
  go_wp2_with fail
  go_ret
  exact ⟨_, rfl, ⟨_, block_set8 HZ4.out⟩, (HO4.out.set 0 _).drewN 1⟩

end Go.Proofs.YtgolhfmmlanmlaaGreatDoor

/- Walks: the library's sort at bytes: patterns broken. -/
namespace Go.Proofs.YtgolhfmmlanmlaaGreatDoor
open Go.RowKit Pth

theorem and_low (z : Int) (m : Nat) (hm : m ≤ 1000) : 0 ≤ wrap64 (bits .and .u64 z (m : Int)) ∧ wrap64 (bits .and .u64 z (m : Int)) ≤ (m : Int) := by
  have h : bits .and .u64 z (m : Int) = IntKind.u64.wrap ((BitVec.ofInt 64 z &&& BitVec.ofInt 64 (m : Int)).toNat : Int) := rfl
  have h2 : (BitVec.ofInt 64 z &&& BitVec.ofInt 64 (m : Int)).toNat ≤ m := by
    rw [BitVec.toNat_and]
    refine Nat.le_trans Nat.and_le_right ?_
    rw [show BitVec.ofInt 64 (m : Int) = BitVec.ofNat 64 m by simp, BitVec.toNat_ofNat]
    exact Nat.mod_le _ _
  rw [h]
  generalize (BitVec.ofInt 64 z &&& BitVec.ofInt 64 (m : Int)).toNat = n at h2
  have e1 : IntKind.u64.wrap (n : Int) = n := by simp [IntKind.wrap, IntKind.bits, IntKind.signed]; omega
  rw [e1]
  unfold wrap64
  omega
theorem and_lowI (z m : Int) (h0 : 0 ≤ m) (h1 : m ≤ 1000) : 0 ≤ wrap64 (bits .and .u64 z m) ∧ wrap64 (bits .and .u64 z m) ≤ m := by
  obtain ⟨k, rfl⟩ : ∃ k : Nat, m = k := ⟨m.toNat, by omega⟩
  exact and_low z k (by omega)
/-- Changed about between a and b. -/
def BrkPost (g : Nat) (tl : List Value) (d : Array UInt8) (a b : Nat) (w : World) (e : Ending) (w' : World) : Prop :=
  ∃ d' : Array UInt8, e = .returned (.tuple #[]) ∧ Sort.PermIn a b d d' ∧ SB g tl d' w' ∧ On g w w'
theorem Rnd.on {g s : Nat} {w w' : World} (h : Rnd s w) (ho : On g w w') (hne : s ≠ g) : Rnd s w' := by
  obtain ⟨z, hz⟩ := h
  exact ⟨z, (ho.block s (lt_of_block hz) (by simpa using hne)).trans hz⟩
theorem on_mix {g s : Nat} {w w1 w2 : World} (h : On g w w1) (k : On s w1 w2) (hs : w.heap.size ≤ s) : On g w w2 := on_new h k hs

set_option maxRecDepth 20000 in
set_option maxHeartbeats 1000000 in
theorem break8 (g : Nat) (tl : List Value) (d0 : Array UInt8) (n cap a b : Nat) (w : World) (h : SB g tl d0 w) (hn : d0.size = n) (_hc : n ≤ cap) (hb : b ≤ n) (hN : n ≤ 1000) (hpos : a + 8 ≤ b) (hlen : b - a < 50) :
    Calls Tryz.prog 176 #[.slice (some ⟨g, 0, none⟩) n cap, .int .i64 a, .int .i64 b] w (BrkPost g tl d0 a b w) := by
  have hgl := lt_of_block h
  obtain ⟨l, hl⟩ : ∃ l, l = b - a := ⟨_, rfl⟩
  have hl8 : 8 ≤ l := by omega
  have hl50 : l < 50 := by omega
  have hd8 : decide ((b : Int) - (a : Int) ≥ 8) = true := decide_eq_true (by omega)
  obtain ⟨wa, hwa⟩ : ∃ wa, wa = w.alloc (.cells #[.int .u64 ((b : Int) - (a : Int))] 196) := ⟨_, rfl⟩
  have HSA : Hid (SB g tl d0 wa) := by rw [hwa]; exact h.alloc _
  have HRA : Hid (Rnd w.heap.size wa) := by rw [hwa]; exact ⟨_, heap_alloc_new w _⟩
  have HOA : Hid (On g w wa) := by rw [hwa]; exact (On.refl _ _).alloc _
  have HC := Lib.hid (pow2_8 l ((b : Int) - (a : Int)) (by omega) wa hl8 hl50)
  have HZ := Lib.hid hn
  have HWA := Lib.hid hwa
  obtain ⟨q, hq⟩ : ∃ q : Nat, ((b : Int) - (a : Int)) / 4 = (q : Int) := ⟨l / 4, by omega⟩
  have hq1 : 2 ≤ q := by omega
  have hq2 : a + q * 4 ≤ b := by omega
  have hq3 : b ≤ a + q * 4 + 3 := by omega
  have hq4 : q ≤ 12 := by omega
  have hM0 : 2 * l ≤ 98 := by omega
  have hML : l + a ≤ b := by omega
  clear h hn hl hwa
  go_enter Tryz.func176, Tryz.ntmps176
  go_wp2_with fail
  rw [← HWA.out]
  with_reducible refine HC.out.mono ?_
  rintro e w1 ⟨M, hM1, hM2, rfl, rfl⟩
  clear HC HWA
  go_wp2_with fail
  simp only [hq]
  go_loopw [9] (fun p wr => ∃ (i : Nat) (d : Array UInt8), a + q * 2 ≤ i + 1 ∧ i ≤ a + q * 2 + 2 ∧ p = .int .i64 (i : Int) ∧ Hid (SB g tl d wr) ∧ Hid (On g w wr) ∧ Hid (Rnd w.heap.size wr) ∧ Hid (d.size = n) ∧ Hid (Sort.PermIn a b d0 d)) (fun p _ => 2000 - (intOf p).toNat)
  case atStart => exact ⟨a + q * 2 - 1, d0, by omega, by omega, by congr 1; omega, HSA, HOA, HRA, HZ, Sort.permIn_refl _ _ _⟩
  case round =>
    clear HSA HOA HRA HZ
    obtain ⟨i, d, hk1, hk2, rfl, HS, HO, HR, HZ, HP⟩ := hrel
    by_cases h3 : i ≤ a + q * 2 + 1
    · have HC := Lib.hid (next8 w.heap.size wr HR.out)
      have hgd : decide ((i : Int) ≤ (a : Int) + (q : Int) * 2 + 1) = true := decide_eq_true (by omega)
      have hi1 : a ≤ i := by omega
      have hi2 : i < b := by omega
      go_wp2_with fail
      refine HC.out.mono ?_
      rintro e w2 ⟨z, rfl, hr2, ho2⟩
      have HR2 := Lib.hid hr2
      have HS2 := Lib.hid (HS.out.on ho2 (by omega))
      have HO2 := Lib.hid (on_mix HO.out ho2 (Nat.le_refl _))
      clear hr2 ho2 HC HR HS HO
      have HAL := Lib.hid (and_lowI z ((M : Int) - 1) (by omega) (by omega))
      go_upto_if 43 with (fail)
      generalize wrap64 (bits BinOp.and IntKind.u64 z ((M : Int) - 1)) = X at HAL ⊢
      obtain ⟨hal1, hal2⟩ := HAL.out
      obtain ⟨x, rfl⟩ : ∃ x : Nat, X = x := ⟨X.toNat, by omega⟩
      have hxM : x + 1 ≤ M := by omega
      clear HAL hal1 hal2
      by_cases hxl : a + x < b
      · have hg : decide ((x : Int) ≥ (b : Int) - (a : Int)) = false := decide_eq_false (by omega)
        have y1 := HS2.out.cell (i := i) (by rw [HZ.out]; omega)
        have y2 := HS2.out.cell (i := a + x) (by rw [HZ.out]; omega)
        have y3 := (HS2.out.set (i := i) (by rw [HZ.out]; omega) d[a + x]!).cell (i := a + x) (by simp [HZ.out]; omega)
        have z1 := HS2.out.frozen i (by rw [HZ.out]; omega)
        have z2 := HS2.out.frozen (a + x) (by rw [HZ.out]; omega)
        have e2 : (i : Int) < (n : Int) := by omega
        have k1 : (0 : Int) ≤ (a : Int) + (x : Int) := by omega
        have k2 : (a : Int) + (x : Int) < (n : Int) := by omega
        have k3 : IntKind.i64.wrap ((a : Int) + (x : Int)) = (a : Int) + (x : Int) := IntWalk.i64_in _ (by omega)
        have k4 : ((a : Int) + (x : Int)).toNat = a + x := by omega
        have HSW := Lib.hid (HS2.out.swap (i := i) (j := a + x) (by rw [HZ.out]; omega) (by rw [HZ.out]; omega))
        have HZ1 : Hid ((Sort.swp d i (a + x)).size = n) := (swp_sz _ _ _).trans HZ.out
        have HP1 := Lib.hid (Sort.permIn_trans _ _ _ _ _ HP.out (Sort.swp_permIn d a b i (a + x) (by omega) (by omega) (by omega) (by omega) (by rw [HZ.out]; omega)))
        generalize Sort.swp d i (a + x) = d' at HSW HZ1 HP1
        generalize (d.setIfInBounds i d[a + x]!)[a + x]! = v3 at y3
        generalize d[i]! = v1 at y1 HSW
        generalize d[a + x]! = v2 at y2 HSW y3
        clear HS2 HP
        go_wp2_with fail
        go_region
        go_wp2_with fail
        go_roundw
        case rel => first | exact ⟨i + 1, d', by omega, by omega, by go_num, HSW.out, (HO2.out.drewN 1).swap _ _ _ _, (HR2.out.on (((On.refl g w2).drewN 1).swap _ _ _ _) (by omega)), HZ1, HP1⟩ | ((repeat apply Exists.intro); exact ⟨⟨i + 1, d', by omega, by omega, by go_num, HSW.out, (HO2.out.drewN 1).swap _ _ _ _, (HR2.out.on (((On.refl g w2).drewN 1).swap _ _ _ _) (by omega)), HZ1, HP1⟩, rfl⟩)
        case measure => simp [intOf]; omega
      · have hg : decide ((x : Int) ≥ (b : Int) - (a : Int)) = true := decide_eq_true (by omega)
        obtain ⟨y, hy⟩ : ∃ y : Nat, (x : Int) - ((b : Int) - (a : Int)) = (y : Int) := ⟨((x : Int) - ((b : Int) - (a : Int))).toNat, by omega⟩
        have hyb : a + y < b := by omega
        have y1 := HS2.out.cell (i := i) (by rw [HZ.out]; omega)
        have y2 := HS2.out.cell (i := a + y) (by rw [HZ.out]; omega)
        have y3 := (HS2.out.set (i := i) (by rw [HZ.out]; omega) d[a + y]!).cell (i := a + y) (by simp [HZ.out]; omega)
        have z1 := HS2.out.frozen i (by rw [HZ.out]; omega)
        have z2 := HS2.out.frozen (a + y) (by rw [HZ.out]; omega)
        have e2 : (i : Int) < (n : Int) := by omega
        have k1 : (0 : Int) ≤ (a : Int) + (y : Int) := by omega
        have k2 : (a : Int) + (y : Int) < (n : Int) := by omega
        have k3 : IntKind.i64.wrap ((a : Int) + (y : Int)) = (a : Int) + (y : Int) := IntWalk.i64_in _ (by omega)
        have k4 : ((a : Int) + (y : Int)).toNat = a + y := by omega
        have HSW := Lib.hid (HS2.out.swap (i := i) (j := a + y) (by rw [HZ.out]; omega) (by rw [HZ.out]; omega))
        have HZ1 : Hid ((Sort.swp d i (a + y)).size = n) := (swp_sz _ _ _).trans HZ.out
        have HP1 := Lib.hid (Sort.permIn_trans _ _ _ _ _ HP.out (Sort.swp_permIn d a b i (a + y) (by omega) (by omega) (by omega) (by omega) (by rw [HZ.out]; omega)))
        generalize Sort.swp d i (a + y) = d' at HSW HZ1 HP1
        generalize (d.setIfInBounds i d[a + y]!)[a + y]! = v3 at y3
        generalize d[i]! = v1 at y1 HSW
        generalize d[a + y]! = v2 at y2 HSW y3
        clear HS2 HP
        go_wp2_with fail
        go_region
        go_wp2_with fail
        go_roundw
        case rel => first | exact ⟨i + 1, d', by omega, by omega, by go_num, HSW.out, (HO2.out.drewN 1).swap _ _ _ _, (HR2.out.on (((On.refl g w2).drewN 1).swap _ _ _ _) (by omega)), HZ1, HP1⟩ | ((repeat apply Exists.intro); exact ⟨⟨i + 1, d', by omega, by omega, by go_num, HSW.out, (HO2.out.drewN 1).swap _ _ _ _, (HR2.out.on (((On.refl g w2).drewN 1).swap _ _ _ _) (by omega)), HZ1, HP1⟩, rfl⟩)
        case measure => simp [intOf]; omega
    · have hgd : decide ((i : Int) ≤ (a : Int) + (q : Int) * 2 + 1) = false := decide_eq_false (by omega)
      go_wp2_with fail
      go_end0
      exact ⟨d, rfl, HP.out, HS.out, HO.out⟩

end Go.Proofs.YtgolhfmmlanmlaaGreatDoor

/- Walks: the library's sort at bytes: parted by a pivot. -/
namespace Go.Proofs.YtgolhfmmlanmlaaGreatDoor
open Go.RowKit Pth

theorem up_go {p : UInt8 → Bool} {d : Array UInt8} {i j : Nat} (h : i ≤ j) (hp : p d[i]! = true) : Sort.scanUp p d j i = Sort.scanUp p d j (i + 1) := by
  rw [Sort.scanUp, decide_eq_true h, hp]; rfl
theorem up_stop {p : UInt8 → Bool} {d : Array UInt8} {i j : Nat} (h : ¬ i ≤ j ∨ p d[i]! = false) : Sort.scanUp p d j i = i := by
  rw [Sort.scanUp]
  rcases h with h | h
  · rw [decide_eq_false h]; rfl
  · rw [h]; simp
theorem down_go {p : UInt8 → Bool} {d : Array UInt8} {i j : Nat} (h : i ≤ j + 1) (hp : p d[j + 1]! = true) : Sort.scanDown p d i (j + 1) = Sort.scanDown p d i j := by
  rw [Sort.scanDown, decide_eq_true h, hp]; rfl
theorem down_stop {p : UInt8 → Bool} {d : Array UInt8} {i j : Nat} (h : ¬ i ≤ j ∨ p d[j]! = false) : Sort.scanDown p d i j = j := by
  cases j with
  | zero => rfl
  | succ j =>
    rw [Sort.scanDown]
    rcases h with h | h
    · rw [decide_eq_false h]; rfl
    · rw [h]; simp

theorem part_stop {a i j i2 j2 : Nat} {d : Array UInt8} (hi : Sort.scanUp (fun x => ltB x d[a]!) d j i = i2) (hj : Sort.scanDown (fun x => !ltB x d[a]!) d i2 j = j2) (h : i2 > j2) : Sort.partLoop ltB a i j d = (j2, d) := by
  rw [Sort.partLoop, hi, hj, if_pos h]
theorem part_go {a i j i2 j2 : Nat} {d : Array UInt8} (hi : Sort.scanUp (fun x => ltB x d[a]!) d j i = i2) (hj : Sort.scanDown (fun x => !ltB x d[a]!) d i2 j = j2) (h : ¬ i2 > j2) (h1 : i ≤ i2) (h2 : j2 ≤ j) (h3 : 1 ≤ j2) : Sort.partLoop ltB a i j d = Sort.partLoop ltB a (i2 + 1) (j2 - 1) (Sort.swp d i2 j2) := by
  rw [Sort.partLoop, hi, hj, if_neg h, dif_pos (by omega)]
theorem part_is {d0 d : Array UInt8} {a b pv i j : Nat} (hd : d = Sort.swp d0 a pv) (hi : Sort.scanUp (fun x => ltB x d[a]!) d (b - 1) (a + 1) = i) (hj : Sort.scanDown (fun x => !ltB x d[a]!) d i (b - 1) = j) :
    Sort.partition ltB d0 a b pv = if i > j then (j, true, Sort.swp d j a) else ((Sort.partLoop ltB a (i + 1) (j - 1) (Sort.swp d i j)).1, false, Sort.swp (Sort.partLoop ltB a (i + 1) (j - 1) (Sort.swp d i j)).2 (Sort.partLoop ltB a (i + 1) (j - 1) (Sort.swp d i j)).1 a) := by
  subst hd hi hj
  rfl
/-- Parted as the library's text says. -/
def PartsPost (g : Nat) (tl : List Value) (d : Array UInt8) (a b pv : Nat) (w : World) (e : Ending) (w' : World) : Prop :=
  ∃ (m : Nat) (ap : Bool) (d' : Array UInt8), Sort.partition ltB d a b pv = (m, ap, d') ∧ e = .returned (.tuple #[.int .i64 m, .bool ap]) ∧ SB g tl d' w' ∧ On g w w'

set_option maxRecDepth 20000 in
set_option maxHeartbeats 4000000 in
theorem partition8 (g : Nat) (tl : List Value) (d0 : Array UInt8) (n cap a b pv : Nat) (w : World) (h : SB g tl d0 w) (hn : d0.size = n) (_hc : n ≤ cap) (hb : b ≤ n) (hN : n ≤ 1000) (_hap : a ≤ pv) (hpb : pv < b) (hab : a + 1 < b) :
    Calls Tryz.prog 182 #[.slice (some ⟨g, 0, none⟩) n cap, .int .i64 a, .int .i64 b, .int .i64 pv] w (PartsPost g tl d0 a b pv w) := by
  have HZd0 := Lib.hid hn
  have HS0 := Lib.hid h
  have HO0 := Lib.hid (On.refl g w)
  clear h hn
  have y1 := HS0.out.cell (i := a) (by rw [HZd0.out]; omega)
  have y2 := HS0.out.cell (i := pv) (by rw [HZd0.out]; omega)
  have y3 := (HS0.out.set (i := a) (by rw [HZd0.out]; omega) d0[pv]!).cell (i := pv) (by simp [HZd0.out]; omega)
  have z1 := HS0.out.frozen a (by rw [HZd0.out]; omega)
  have z2 := HS0.out.frozen pv (by rw [HZd0.out]; omega)
  have e1 : (a : Int) < (n : Int) := by omega
  have e2 : (pv : Int) < (n : Int) := by omega
  have HSW := Lib.hid (HS0.out.swap (i := a) (j := pv) (by rw [HZd0.out]; omega) (by rw [HZd0.out]; omega))
  have HZd : Hid ((Sort.swp d0 a pv).size = n) := (swp_sz _ _ _).trans HZd0.out
  have HOW := Lib.hid (HO0.out.swap a pv (.int .u8 (d0[pv]!.toNat : Int)) (.int .u8 (d0[a]!.toNat : Int)))
  obtain ⟨d, hd⟩ : ∃ d, d = Sort.swp d0 a pv := ⟨_, rfl⟩
  rw [← hd] at HSW HZd
  have HDd := Lib.hid hd
  clear hd
  generalize (d0.setIfInBounds a d0[pv]!)[pv]! = v3 at y3
  generalize hv1 : d0[a]! = v1 at y1 HSW HOW
  generalize hv2 : d0[pv]! = v2 at y2 HSW y3 HOW
  clear hv1 hv2
  go_enter Tryz.func182, Tryz.ntmps182
  go_wp2_with fail
  go_region
  obtain ⟨w1, hw1⟩ : ∃ w1, w1 = ((w.setCell ⟨g, a, none⟩ (.int .u8 (v2.toNat : Int))).setCell ⟨g, pv, none⟩ (.int .u8 (v1.toNat : Int))).drew := ⟨_, rfl⟩
  rw [← hw1]
  have HS1 : Hid (SB g tl d w1) := by rw [hw1]; exact HSW.out
  have HO1 : Hid (On g w w1) := by rw [hw1]; exact HOW.out.drewN 1
  clear hw1 HSW HOW y1 y2 y3 z1 z2 HS0 HO0
  go_upto_block 0 with (fail)
  go_cut [10] from 30 to 45 (fun p wx => ∃ i : Nat, a + 1 ≤ i ∧ (i ≤ b - 1 + 1 ∨ i = a + 1) ∧ p = .int .i64 i ∧ Hid (SB g tl d wx) ∧ Hid (On g w wx) ∧ Hid (Sort.scanUp (fun x => ltB x d[a]!) d (b - 1) (a + 1) = i))
  case first =>
    go_wp2_with fail
    go_loopw [10] (fun p wr => ∃ i : Nat, a + 1 ≤ i ∧ (i ≤ b - 1 + 1 ∨ i = a + 1) ∧ p = .int .i64 i ∧ Hid (SB g tl d wr) ∧ Hid (On g w wr) ∧ Hid (Sort.scanUp (fun x => ltB x d[a]!) d (b - 1) (a + 1) = Sort.scanUp (fun x => ltB x d[a]!) d (b - 1) i)) (fun p _ => 3000 - (intOf p).toNat)
    case atStart => exact ⟨a + 1, by omega, by omega, by go_num, HS1, HO1, rfl⟩
    case round =>
      obtain ⟨i, hi0, hi1, rfl, HSr, HOr, HE⟩ := hrel
      by_cases hlt : i ≤ b - 1
      · have hg1 : decide ((i : Int) ≤ (b : Int) - 1) = true := decide_eq_true (by omega)
        have c1 := HSr.out.cell (i := i) (by rw [HZd.out]; omega)
        have c0 := HSr.out.cell (i := a) (by rw [HZd.out]; omega)
        obtain ⟨lb, hlb⟩ : ∃ lb, ltB d[i]! d[a]! = lb := ⟨_, rfl⟩
        have HL := Lib.hid (fun W => less_q hlb W)
        have hx1 : (i : Int) < (n : Int) := by omega
        rcases lb with _ | _
        · have HE1 := Lib.hid (HE.out.trans (up_stop (.inr hlb)))
          clear HE hlb
          obtain ⟨x, hxe⟩ : ∃ x, x = d[i]! := ⟨_, rfl⟩
          obtain ⟨y, hye⟩ : ∃ y, y = d[a]! := ⟨_, rfl⟩
          rw [← hxe] at c1 HL
          rw [← hye] at c0 HL
          clear hxe hye
          go_wp2_with fail
          go_quiet ((go_at_call 180; exact Calls.quiet_of_same (HL.out _)))
          go_wp2_with fail
          go_meet
          case rel => exact ⟨i, hi0, hi1, rfl, HSr.out.drewN _, HOr.out.drewN _, HE1⟩
        · have HE1 := Lib.hid (HE.out.trans (up_go hlt hlb))
          clear HE hlb
          obtain ⟨x, hxe⟩ : ∃ x, x = d[i]! := ⟨_, rfl⟩
          obtain ⟨y, hye⟩ : ∃ y, y = d[a]! := ⟨_, rfl⟩
          rw [← hxe] at c1 HL
          rw [← hye] at c0 HL
          clear hxe hye
          go_wp2_with fail
          go_quiet ((go_at_call 180; exact Calls.quiet_of_same (HL.out _)))
          go_wp2_with fail
          go_roundw
          case rel => first | exact ⟨i + 1, by omega, by omega, by go_num, HSr.out.drewN _, HOr.out.drewN _, HE1⟩ | ((repeat apply Exists.intro); exact ⟨⟨i + 1, by omega, by omega, by go_num, HSr.out.drewN _, HOr.out.drewN _, HE1⟩, rfl⟩)
          case measure => simp [intOf]; omega
      · have hg1 : decide ((i : Int) ≤ (b : Int) - 1) = false := decide_eq_false (by omega)
        have HE1 := Lib.hid (HE.out.trans (up_stop (.inl hlt)))
        clear HE
        go_wp2_with fail
        go_quiet (fail)
        go_wp2_with fail
        go_meet
        case rel => exact ⟨i, hi0, hi1, rfl, HSr.out.drewN _, HOr.out.drewN _, HE1⟩
  case rest =>
    obtain ⟨i1, hi0, hi1, rfl, HS2, HO2, HE1⟩ := hcut
    clear HS1 HO1
    go_upto_block 2 with (fail)
    go_cut [11] from 46 to 62 (fun p wx => ∃ j : Nat, a ≤ j ∧ j ≤ b - 1 ∧ (i1 ≤ j + 1 ∨ j = b - 1) ∧ p = .int .i64 j ∧ Hid (SB g tl d wx) ∧ Hid (On g w wx) ∧ Hid (Sort.scanDown (fun x => !ltB x d[a]!) d i1 (b - 1) = j))
    case first =>
      go_wp2_with fail
      go_loopw [11] (fun p wr => ∃ j : Nat, a ≤ j ∧ j ≤ b - 1 ∧ (i1 ≤ j + 1 ∨ j = b - 1) ∧ p = .int .i64 j ∧ Hid (SB g tl d wr) ∧ Hid (On g w wr) ∧ Hid (Sort.scanDown (fun x => !ltB x d[a]!) d i1 (b - 1) = Sort.scanDown (fun x => !ltB x d[a]!) d i1 j)) (fun p _ => (intOf p).toNat)
      case atStart => exact ⟨b - 1, by omega, by omega, by omega, by congr 1; omega, HS2, HO2, rfl⟩
      case round =>
        obtain ⟨j, hj0, hj1, hj2, rfl, HSr, HOr, HE⟩ := hrel
        by_cases hlt : i1 ≤ j
        · obtain ⟨m, rfl⟩ : ∃ m, j = m + 1 := ⟨j - 1, by omega⟩
          have hg1 : decide ((i1 : Int) ≤ (m : Int) + 1) = true := decide_eq_true (by omega)
          have c1 := HSr.out.cell (i := m + 1) (by rw [HZd.out]; omega)
          have c0 := HSr.out.cell (i := a) (by rw [HZd.out]; omega)
          obtain ⟨lb, hlb⟩ : ∃ lb, ltB d[m + 1]! d[a]! = lb := ⟨_, rfl⟩
          have HL := Lib.hid (fun W => less_q hlb W)
          have hx1 : (m : Int) + 1 < (n : Int) := by omega
          have hx2 : (0 : Int) ≤ (m : Int) + 1 := by omega
          have hn1 : ((m : Int) + 1).toNat = m + 1 := by omega
          rcases lb with _ | _
          · have HE1 := Lib.hid (HE.out.trans (down_go hlt (by rw [hlb]; rfl)))
            clear HE hlb
            obtain ⟨x, hxe⟩ : ∃ x, x = d[m + 1]! := ⟨_, rfl⟩
            obtain ⟨y, hye⟩ : ∃ y, y = d[a]! := ⟨_, rfl⟩
            rw [← hxe] at c1 HL
            rw [← hye] at c0 HL
            clear hxe hye
            go_wp2_with fail
            go_quiet ((go_at_call 180; exact Calls.quiet_of_same (HL.out _)))
            go_wp2_with fail
            go_roundw
            case rel => first | exact ⟨m, by omega, by omega, by omega, by go_num, HSr.out.drewN _, HOr.out.drewN _, HE1⟩ | ((repeat apply Exists.intro); exact ⟨⟨m, by omega, by omega, by omega, by go_num, HSr.out.drewN _, HOr.out.drewN _, HE1⟩, rfl⟩)
            case measure => simp [intOf]
          · have HE1 := Lib.hid (HE.out.trans (down_stop (.inr (by rw [hlb]; rfl))))
            clear HE hlb
            obtain ⟨x, hxe⟩ : ∃ x, x = d[m + 1]! := ⟨_, rfl⟩
            obtain ⟨y, hye⟩ : ∃ y, y = d[a]! := ⟨_, rfl⟩
            rw [← hxe] at c1 HL
            rw [← hye] at c0 HL
            clear hxe hye
            go_wp2_with fail
            go_quiet ((go_at_call 180; exact Calls.quiet_of_same (HL.out _)))
            go_wp2_with fail
            go_meet
            case rel => exact ⟨m + 1, hj0, hj1, hj2, by go_num, HSr.out.drewN _, HOr.out.drewN _, HE1⟩
        · have hg1 : decide ((i1 : Int) ≤ (j : Int)) = false := decide_eq_false (by omega)
          have HE1 := Lib.hid (HE.out.trans (down_stop (.inl hlt)))
          clear HE
          go_wp2_with fail
          go_quiet (fail)
          go_wp2_with fail
          go_meet
          case rel => exact ⟨j, hj0, hj1, hj2, rfl, HSr.out.drewN _, HOr.out.drewN _, HE1⟩
    case rest =>
      obtain ⟨j1, hj0, hj1, hj2, rfl, HS3, HO3, HE2⟩ := hcut
      have HP := Lib.hid (part_is HDd.out HE1.out HE2.out)
      clear HS2 HO2 HE1 HE2
      by_cases hgt : i1 > j1
      · have hg7 : decide ((i1 : Int) > (j1 : Int)) = true := decide_eq_true (by omega)
        have HP1 : Hid (Sort.partition ltB d0 a b pv = (j1, true, Sort.swp d j1 a)) := by rw [HP.out, if_pos hgt]; rfl
        clear HP
        have y1 := HS3.out.cell (i := j1) (by rw [HZd.out]; omega)
        have y2 := HS3.out.cell (i := a) (by rw [HZd.out]; omega)
        have y3 := (HS3.out.set (i := j1) (by rw [HZd.out]; omega) d[a]!).cell (i := a) (by simp [HZd.out]; omega)
        have z1 := HS3.out.frozen j1 (by rw [HZd.out]; omega)
        have z2 := HS3.out.frozen a (by rw [HZd.out]; omega)
        have e1 : (j1 : Int) < (n : Int) := by omega
        have e2 : (a : Int) < (n : Int) := by omega
        have HSW := Lib.hid (HS3.out.swap (i := j1) (j := a) (by rw [HZd.out]; omega) (by rw [HZd.out]; omega))
        have HZd2 : Hid ((Sort.swp d j1 a).size = n) := (swp_sz _ _ _).trans HZd.out
        have HOW := Lib.hid (HO3.out.swap j1 a (.int .u8 (d[a]!.toNat : Int)) (.int .u8 (d[j1]!.toNat : Int)))
        obtain ⟨d2, hd2⟩ : ∃ d2, d2 = Sort.swp d j1 a := ⟨_, rfl⟩
        rw [← hd2] at HSW HZd2
        have HDd2 := Lib.hid hd2
        clear hd2
        generalize (d.setIfInBounds j1 d[a]!)[a]! = v3 at y3
        generalize hv1 : d[j1]! = v1 at y1 HSW HOW
        generalize hv2 : d[a]! = v2 at y2 HSW y3 HOW
        clear hv1 hv2
        go_wp2_with fail
        go_region
        go_wp2_with fail
        go_ret2
        exact ⟨j1, true, d2, by rw [HP1.out, ← HDd2.out], rfl, HSW.out, HOW.out.drewN _⟩
      · have hg7 : decide ((i1 : Int) > (j1 : Int)) = false := decide_eq_false (by omega)
        have HP1 := Lib.hid (HP.out.trans (if_neg hgt))
        clear HP
        have y1 := HS3.out.cell (i := i1) (by rw [HZd.out]; omega)
        have y2 := HS3.out.cell (i := j1) (by rw [HZd.out]; omega)
        have y3 := (HS3.out.set (i := i1) (by rw [HZd.out]; omega) d[j1]!).cell (i := j1) (by simp [HZd.out]; omega)
        have z1 := HS3.out.frozen i1 (by rw [HZd.out]; omega)
        have z2 := HS3.out.frozen j1 (by rw [HZd.out]; omega)
        have e1 : (i1 : Int) < (n : Int) := by omega
        have e2 : (j1 : Int) < (n : Int) := by omega
        have HSW := Lib.hid (HS3.out.swap (i := i1) (j := j1) (by rw [HZd.out]; omega) (by rw [HZd.out]; omega))
        have HZd2 : Hid ((Sort.swp d i1 j1).size = n) := (swp_sz _ _ _).trans HZd.out
        have HOW := Lib.hid (HO3.out.swap i1 j1 (.int .u8 (d[j1]!.toNat : Int)) (.int .u8 (d[i1]!.toNat : Int)))
        obtain ⟨d2, hd2⟩ : ∃ d2, d2 = Sort.swp d i1 j1 := ⟨_, rfl⟩
        rw [← hd2] at HSW HZd2
        have HDd2 := Lib.hid hd2
        clear hd2
        generalize (d.setIfInBounds i1 d[j1]!)[j1]! = v3 at y3
        generalize hv1 : d[i1]! = v1 at y1 HSW HOW
        generalize hv2 : d[j1]! = v2 at y2 HSW y3 HOW
        clear hv1 hv2
        rw [← HDd2.out] at HP1
        go_wp2_with fail
        go_region
        obtain ⟨w4, hw4⟩ : ∃ w4, w4 = ((wc.setCell ⟨g, i1, none⟩ (.int .u8 (v2.toNat : Int))).setCell ⟨g, j1, none⟩ (.int .u8 (v1.toNat : Int))).drew := ⟨_, rfl⟩
        rw [← hw4]
        have HS4 : Hid (SB g tl d2 w4) := by rw [hw4]; exact HSW.out
        have HO4 : Hid (On g w w4) := by rw [hw4]; exact HOW.out.drewN 1
        clear hw4 HSW HOW y1 y2 y3 z1 z2 HS3 HO3 e1 e2
        go_wp2_with fail
        go_loopw [10, 11] (fun p q wr => ∃ (ii jj : Nat) (c : Array UInt8), a + 2 ≤ ii ∧ ii ≤ jj + 2 ∧ a ≤ jj ∧ jj < b ∧ p = .int .i64 ii ∧ q = .int .i64 jj ∧ Hid (SB g tl c wr) ∧ Hid (On g w wr) ∧ Hid (c.size = n) ∧ Hid (Sort.partLoop ltB a (i1 + 1) (j1 - 1) d2 = Sort.partLoop ltB a ii jj c)) (fun p q _ => (intOf q + 3 - intOf p).toNat)
        case atStart => exact ⟨i1 + 1, j1 - 1, d2, by omega, by omega, by omega, by omega, by go_num, by congr 1; omega, HS4, HO4, HZd2, rfl⟩
        case round =>
          clear HS4 HO4
          obtain ⟨ii, jj, c, hii, hij, hjj, hjb, rfl, rfl, HS5, HO5, HZc, HE5⟩ := hrel
          go_upto_block 6 with (fail)
          go_cut [10] from 99 to 152 (fun p wx => ∃ i : Nat, ii ≤ i ∧ (i ≤ jj + 1 ∨ i = ii) ∧ p = .int .i64 i ∧ Hid (SB g tl c wx) ∧ Hid (On g w wx) ∧ Hid (Sort.scanUp (fun x => ltB x c[a]!) c (jj) (ii) = i))
          case first =>
            go_wp2_with fail
            go_loopw [10] (fun p wr => ∃ i : Nat, ii ≤ i ∧ (i ≤ jj + 1 ∨ i = ii) ∧ p = .int .i64 i ∧ Hid (SB g tl c wr) ∧ Hid (On g w wr) ∧ Hid (Sort.scanUp (fun x => ltB x c[a]!) c (jj) (ii) = Sort.scanUp (fun x => ltB x c[a]!) c (jj) i)) (fun p _ => 3000 - (intOf p).toNat)
            case atStart => exact ⟨ii, by omega, by omega, by go_num, HS5, HO5, rfl⟩
            case round =>
              obtain ⟨i, hi0, hi1, rfl, HSr, HOr, HE⟩ := hrel
              by_cases hlt : i ≤ jj
              · have hg1 : decide ((i : Int) ≤ (jj : Int)) = true := decide_eq_true (by omega)
                have c1 := HSr.out.cell (i := i) (by rw [HZc.out]; omega)
                have c0 := HSr.out.cell (i := a) (by rw [HZc.out]; omega)
                obtain ⟨lb, hlb⟩ : ∃ lb, ltB c[i]! c[a]! = lb := ⟨_, rfl⟩
                have HL := Lib.hid (fun W => less_q hlb W)
                have hx1 : (i : Int) < (n : Int) := by omega
                rcases lb with _ | _
                · have HE1 := Lib.hid (HE.out.trans (up_stop (.inr hlb)))
                  clear HE hlb
                  obtain ⟨x, hxe⟩ : ∃ x, x = c[i]! := ⟨_, rfl⟩
                  obtain ⟨y, hye⟩ : ∃ y, y = c[a]! := ⟨_, rfl⟩
                  rw [← hxe] at c1 HL
                  rw [← hye] at c0 HL
                  clear hxe hye
                  go_wp2_with fail
                  go_quiet ((go_at_call 180; exact Calls.quiet_of_same (HL.out _)))
                  go_wp2_with fail
                  go_meet
                  case rel => exact ⟨i, hi0, hi1, rfl, HSr.out.drewN _, HOr.out.drewN _, HE1⟩
                · have HE1 := Lib.hid (HE.out.trans (up_go hlt hlb))
                  clear HE hlb
                  obtain ⟨x, hxe⟩ : ∃ x, x = c[i]! := ⟨_, rfl⟩
                  obtain ⟨y, hye⟩ : ∃ y, y = c[a]! := ⟨_, rfl⟩
                  rw [← hxe] at c1 HL
                  rw [← hye] at c0 HL
                  clear hxe hye
                  go_wp2_with fail
                  go_quiet ((go_at_call 180; exact Calls.quiet_of_same (HL.out _)))
                  go_wp2_with fail
                  go_roundw
                  case rel => first | exact ⟨i + 1, by omega, by omega, by go_num, HSr.out.drewN _, HOr.out.drewN _, HE1⟩ | ((repeat apply Exists.intro); exact ⟨⟨i + 1, by omega, by omega, by go_num, HSr.out.drewN _, HOr.out.drewN _, HE1⟩, rfl⟩)
                  case measure => simp [intOf]; omega
              · have hg1 : decide ((i : Int) ≤ (jj : Int)) = false := decide_eq_false (by omega)
                have HE1 := Lib.hid (HE.out.trans (up_stop (.inl hlt)))
                clear HE
                go_wp2_with fail
                go_quiet (fail)
                go_wp2_with fail
                go_meet
                case rel => exact ⟨i, hi0, hi1, rfl, HSr.out.drewN _, HOr.out.drewN _, HE1⟩
          case rest =>
            obtain ⟨i2, hi0', hi1', rfl, HS6, HO6, HE6⟩ := hcut
            clear HS5 HO5
            go_upto_block 8 with (fail)
            go_cut [11] from 99 to 152 (fun p wx => ∃ j : Nat, a ≤ j ∧ j ≤ jj ∧ (i2 ≤ j + 1 ∨ j = jj) ∧ p = .int .i64 j ∧ Hid (SB g tl c wx) ∧ Hid (On g w wx) ∧ Hid (Sort.scanDown (fun x => !ltB x c[a]!) c i2 (jj) = j))
            case first =>
              go_wp2_with fail
              go_loopw [11] (fun p wr => ∃ j : Nat, a ≤ j ∧ j ≤ jj ∧ (i2 ≤ j + 1 ∨ j = jj) ∧ p = .int .i64 j ∧ Hid (SB g tl c wr) ∧ Hid (On g w wr) ∧ Hid (Sort.scanDown (fun x => !ltB x c[a]!) c i2 (jj) = Sort.scanDown (fun x => !ltB x c[a]!) c i2 j)) (fun p _ => (intOf p).toNat)
              case atStart => exact ⟨jj, by omega, by omega, by omega, rfl, HS6, HO6, rfl⟩
              case round =>
                obtain ⟨j, hj0, hj1, hj2, rfl, HSr, HOr, HE⟩ := hrel
                by_cases hlt : i2 ≤ j
                · obtain ⟨m, rfl⟩ : ∃ m, j = m + 1 := ⟨j - 1, by omega⟩
                  have hg1 : decide ((i2 : Int) ≤ (m : Int) + 1) = true := decide_eq_true (by omega)
                  have c1 := HSr.out.cell (i := m + 1) (by rw [HZc.out]; omega)
                  have c0 := HSr.out.cell (i := a) (by rw [HZc.out]; omega)
                  obtain ⟨lb, hlb⟩ : ∃ lb, ltB c[m + 1]! c[a]! = lb := ⟨_, rfl⟩
                  have HL := Lib.hid (fun W => less_q hlb W)
                  have hx1 : (m : Int) + 1 < (n : Int) := by omega
                  have hx2 : (0 : Int) ≤ (m : Int) + 1 := by omega
                  have hn1 : ((m : Int) + 1).toNat = m + 1 := by omega
                  rcases lb with _ | _
                  · have HE1 := Lib.hid (HE.out.trans (down_go hlt (by rw [hlb]; rfl)))
                    clear HE hlb
                    obtain ⟨x, hxe⟩ : ∃ x, x = c[m + 1]! := ⟨_, rfl⟩
                    obtain ⟨y, hye⟩ : ∃ y, y = c[a]! := ⟨_, rfl⟩
                    rw [← hxe] at c1 HL
                    rw [← hye] at c0 HL
                    clear hxe hye
                    go_wp2_with fail
                    go_quiet ((go_at_call 180; exact Calls.quiet_of_same (HL.out _)))
                    go_wp2_with fail
                    go_roundw
                    case rel => first | exact ⟨m, by omega, by omega, by omega, by go_num, HSr.out.drewN _, HOr.out.drewN _, HE1⟩ | ((repeat apply Exists.intro); exact ⟨⟨m, by omega, by omega, by omega, by go_num, HSr.out.drewN _, HOr.out.drewN _, HE1⟩, rfl⟩)
                    case measure => simp [intOf]
                  · have HE1 := Lib.hid (HE.out.trans (down_stop (.inr (by rw [hlb]; rfl))))
                    clear HE hlb
                    obtain ⟨x, hxe⟩ : ∃ x, x = c[m + 1]! := ⟨_, rfl⟩
                    obtain ⟨y, hye⟩ : ∃ y, y = c[a]! := ⟨_, rfl⟩
                    rw [← hxe] at c1 HL
                    rw [← hye] at c0 HL
                    clear hxe hye
                    go_wp2_with fail
                    go_quiet ((go_at_call 180; exact Calls.quiet_of_same (HL.out _)))
                    go_wp2_with fail
                    go_meet
                    case rel => exact ⟨m + 1, hj0, hj1, hj2, by go_num, HSr.out.drewN _, HOr.out.drewN _, HE1⟩
                · have hg1 : decide ((i2 : Int) ≤ (j : Int)) = false := decide_eq_false (by omega)
                  have HE1 := Lib.hid (HE.out.trans (down_stop (.inl hlt)))
                  clear HE
                  go_wp2_with fail
                  go_quiet (fail)
                  go_wp2_with fail
                  go_meet
                  case rel => exact ⟨j, hj0, hj1, hj2, rfl, HSr.out.drewN _, HOr.out.drewN _, HE1⟩
            case rest =>
              obtain ⟨j2, hj0', hj1', hj2', rfl, HS7, HO7, HE7⟩ := hcut
              clear HS6 HO6
              by_cases hgt2 : i2 > j2
              · have hg8 : decide ((i2 : Int) > (j2 : Int)) = true := decide_eq_true (by omega)
                have HP2 : Hid (Sort.partition ltB d0 a b pv = (j2, false, Sort.swp c j2 a)) := by rw [HP1.out, HE5.out, part_stop HE6.out HE7.out hgt2]; rfl
                clear HP1 HE5 HE6 HE7
                have y1 := HS7.out.cell (i := j2) (by rw [HZc.out]; omega)
                have y2 := HS7.out.cell (i := a) (by rw [HZc.out]; omega)
                have y3 := (HS7.out.set (i := j2) (by rw [HZc.out]; omega) c[a]!).cell (i := a) (by simp [HZc.out]; omega)
                have z1 := HS7.out.frozen j2 (by rw [HZc.out]; omega)
                have z2 := HS7.out.frozen a (by rw [HZc.out]; omega)
                have e1 : (j2 : Int) < (n : Int) := by omega
                have e2 : (a : Int) < (n : Int) := by omega
                have HSW := Lib.hid (HS7.out.swap (i := j2) (j := a) (by rw [HZc.out]; omega) (by rw [HZc.out]; omega))
                have HZd5 : Hid ((Sort.swp c j2 a).size = n) := (swp_sz _ _ _).trans HZc.out
                have HOW := Lib.hid (HO7.out.swap j2 a (.int .u8 (c[a]!.toNat : Int)) (.int .u8 (c[j2]!.toNat : Int)))
                obtain ⟨d5, hd5⟩ : ∃ d5, d5 = Sort.swp c j2 a := ⟨_, rfl⟩
                rw [← hd5] at HSW HZd5
                have HDd5 := Lib.hid hd5
                clear hd5
                generalize (c.setIfInBounds j2 c[a]!)[a]! = v3 at y3
                generalize hv1 : c[j2]! = v1 at y1 HSW HOW
                generalize hv2 : c[a]! = v2 at y2 HSW y3 HOW
                clear hv1 hv2
                go_wp2_with fail
                go_region
                go_wp2_with fail
                go_ret2
                exact ⟨j2, false, d5, by rw [HP2.out, ← HDd5.out], rfl, HSW.out, HOW.out.drewN _⟩
              · have hg8 : decide ((i2 : Int) > (j2 : Int)) = false := decide_eq_false (by omega)
                have HE8 := Lib.hid (HE5.out.trans (part_go HE6.out HE7.out hgt2 (by omega) (by omega) (by omega)))
                clear HE5 HE6 HE7
                have y1 := HS7.out.cell (i := i2) (by rw [HZc.out]; omega)
                have y2 := HS7.out.cell (i := j2) (by rw [HZc.out]; omega)
                have y3 := (HS7.out.set (i := i2) (by rw [HZc.out]; omega) c[j2]!).cell (i := j2) (by simp [HZc.out]; omega)
                have z1 := HS7.out.frozen i2 (by rw [HZc.out]; omega)
                have z2 := HS7.out.frozen j2 (by rw [HZc.out]; omega)
                have e1 : (i2 : Int) < (n : Int) := by omega
                have e2 : (j2 : Int) < (n : Int) := by omega
                have HSW := Lib.hid (HS7.out.swap (i := i2) (j := j2) (by rw [HZc.out]; omega) (by rw [HZc.out]; omega))
                have HZd5 : Hid ((Sort.swp c i2 j2).size = n) := (swp_sz _ _ _).trans HZc.out
                have HOW := Lib.hid (HO7.out.swap i2 j2 (.int .u8 (c[j2]!.toNat : Int)) (.int .u8 (c[i2]!.toNat : Int)))
                obtain ⟨d5, hd5⟩ : ∃ d5, d5 = Sort.swp c i2 j2 := ⟨_, rfl⟩
                rw [← hd5] at HSW HZd5
                have HDd5 := Lib.hid hd5
                clear hd5
                generalize (c.setIfInBounds i2 c[j2]!)[j2]! = v3 at y3
                generalize hv1 : c[i2]! = v1 at y1 HSW HOW
                generalize hv2 : c[j2]! = v2 at y2 HSW y3 HOW
                clear hv1 hv2
                rw [← HDd5.out] at HE8
                go_wp2_with fail
                go_region
                go_wp2_with fail
                go_roundw
                case rel => first | exact ⟨i2 + 1, j2 - 1, d5, by omega, by omega, by omega, by omega, by go_num, by congr 1; omega, HSW.out, HOW.out.drewN _, HZd5, HE8⟩ | ((repeat apply Exists.intro); exact ⟨⟨i2 + 1, j2 - 1, d5, by omega, by omega, by omega, by omega, by go_num, by congr 1; omega, HSW.out, HOW.out.drewN _, HZd5, HE8⟩, rfl⟩)
                case measure => simp [intOf]; omega

end Go.Proofs.YtgolhfmmlanmlaaGreatDoor

/- Walks: the library's sort at bytes: those that are as the pivot to the front. -/
namespace Go.Proofs.YtgolhfmmlanmlaaGreatDoor
open Go.RowKit Pth

theorem eq_stop {a i j i2 j2 : Nat} {d : Array UInt8} (hi : Sort.scanUp (fun x => !ltB d[a]! x) d j i = i2) (hj : Sort.scanDown (fun x => ltB d[a]! x) d i2 j = j2) (h : i2 > j2) : Sort.partEqLoop ltB a i j d = (i2, d) := by
  rw [Sort.partEqLoop, hi, hj, if_pos h]
theorem eq_go {a i j i2 j2 : Nat} {d : Array UInt8} (hi : Sort.scanUp (fun x => !ltB d[a]! x) d j i = i2) (hj : Sort.scanDown (fun x => ltB d[a]! x) d i2 j = j2) (h : ¬ i2 > j2) (h1 : i ≤ i2) (h2 : j2 ≤ j) (h3 : 1 ≤ j2) : Sort.partEqLoop ltB a i j d = Sort.partEqLoop ltB a (i2 + 1) (j2 - 1) (Sort.swp d i2 j2) := by
  rw [Sort.partEqLoop, hi, hj, if_neg h, dif_pos (by omega)]
/-- Parted as the library's text says. -/
def EqsPost (g : Nat) (tl : List Value) (d : Array UInt8) (a b pv : Nat) (w : World) (e : Ending) (w' : World) : Prop :=
  ∃ (m : Nat) (d' : Array UInt8), Sort.partitionEqual ltB d a b pv = (m, d') ∧ e = .returned (.int .i64 m) ∧ SB g tl d' w' ∧ On g w w'

set_option maxRecDepth 20000 in
set_option maxHeartbeats 4000000 in
theorem partEq8 (g : Nat) (tl : List Value) (d0 : Array UInt8) (n cap a b pv : Nat) (w : World) (h : SB g tl d0 w) (hn : d0.size = n) (_hc : n ≤ cap) (hb : b ≤ n) (hN : n ≤ 1000) (_hap : a ≤ pv) (hpb : pv < b) (hab : a + 1 < b) :
    Calls Tryz.prog 181 #[.slice (some ⟨g, 0, none⟩) n cap, .int .i64 a, .int .i64 b, .int .i64 pv] w (EqsPost g tl d0 a b pv w) := by
  have HP : Hid (Sort.partitionEqual ltB d0 a b pv = Sort.partEqLoop ltB a (a + 1) (b - 1) (Sort.swp d0 a pv)) := rfl
  have HZd0 := Lib.hid hn
  have HS0 := Lib.hid h
  have HO0 := Lib.hid (On.refl g w)
  clear h hn
  have y1 := HS0.out.cell (i := a) (by rw [HZd0.out]; omega)
  have y2 := HS0.out.cell (i := pv) (by rw [HZd0.out]; omega)
  have y3 := (HS0.out.set (i := a) (by rw [HZd0.out]; omega) d0[pv]!).cell (i := pv) (by simp [HZd0.out]; omega)
  have z1 := HS0.out.frozen a (by rw [HZd0.out]; omega)
  have z2 := HS0.out.frozen pv (by rw [HZd0.out]; omega)
  have e1 : (a : Int) < (n : Int) := by omega
  have e2 : (pv : Int) < (n : Int) := by omega
  have HSW := Lib.hid (HS0.out.swap (i := a) (j := pv) (by rw [HZd0.out]; omega) (by rw [HZd0.out]; omega))
  have HZd : Hid ((Sort.swp d0 a pv).size = n) := (swp_sz _ _ _).trans HZd0.out
  have HOW := Lib.hid (HO0.out.swap a pv (.int .u8 (d0[pv]!.toNat : Int)) (.int .u8 (d0[a]!.toNat : Int)))
  obtain ⟨d, hd⟩ : ∃ d, d = Sort.swp d0 a pv := ⟨_, rfl⟩
  rw [← hd] at HSW HZd
  have HDd := Lib.hid hd
  clear hd
  generalize (d0.setIfInBounds a d0[pv]!)[pv]! = v3 at y3
  generalize hv1 : d0[a]! = v1 at y1 HSW HOW
  generalize hv2 : d0[pv]! = v2 at y2 HSW y3 HOW
  clear hv1 hv2
  rw [← HDd.out] at HP
  go_enter Tryz.func181, Tryz.ntmps181
  go_wp2_with fail
  go_region
  obtain ⟨w1, hw1⟩ : ∃ w1, w1 = ((w.setCell ⟨g, a, none⟩ (.int .u8 (v2.toNat : Int))).setCell ⟨g, pv, none⟩ (.int .u8 (v1.toNat : Int))).drew := ⟨_, rfl⟩
  rw [← hw1]
  have HS4 : Hid (SB g tl d w1) := by rw [hw1]; exact HSW.out
  have HO4 : Hid (On g w w1) := by rw [hw1]; exact HOW.out.drewN 1
  clear hw1 HSW HOW y1 y2 y3 z1 z2 HS0 HO0 e1 e2
  go_wp2_with fail
  go_loopw [9, 10] (fun p q wr => ∃ (ii jj : Nat) (c : Array UInt8), a + 1 ≤ ii ∧ ii ≤ jj + 2 ∧ a ≤ jj ∧ jj < b ∧ p = .int .i64 ii ∧ q = .int .i64 jj ∧ Hid (SB g tl c wr) ∧ Hid (On g w wr) ∧ Hid (c.size = n) ∧ Hid (Sort.partEqLoop ltB a (a + 1) (b - 1) d = Sort.partEqLoop ltB a ii jj c)) (fun p q _ => (intOf q + 3 - intOf p).toNat)
  case atStart => exact ⟨a + 1, b - 1, d, by omega, by omega, by omega, by omega, by go_num, by congr 1; omega, HS4, HO4, HZd, rfl⟩
  case round =>
    clear HS4 HO4
    obtain ⟨ii, jj, c, hii, hij, hjj, hjb, rfl, rfl, HS5, HO5, HZc, HE5⟩ := hrel
    go_upto_block 2 with (fail)
    go_cut [9] from 29 to 82 (fun p wx => ∃ i : Nat, ii ≤ i ∧ (i ≤ jj + 1 ∨ i = ii) ∧ p = .int .i64 i ∧ Hid (SB g tl c wx) ∧ Hid (On g w wx) ∧ Hid (Sort.scanUp (fun x => !ltB c[a]! x) c (jj) (ii) = i))
    case first =>
      go_wp2_with fail
      go_loopw [9] (fun p wr => ∃ i : Nat, ii ≤ i ∧ (i ≤ jj + 1 ∨ i = ii) ∧ p = .int .i64 i ∧ Hid (SB g tl c wr) ∧ Hid (On g w wr) ∧ Hid (Sort.scanUp (fun x => !ltB c[a]! x) c (jj) (ii) = Sort.scanUp (fun x => !ltB c[a]! x) c (jj) i)) (fun p _ => 3000 - (intOf p).toNat)
      case atStart => exact ⟨ii, by omega, by omega, by go_num, HS5, HO5, rfl⟩
      case round =>
        obtain ⟨i, hi0, hi1, rfl, HSr, HOr, HE⟩ := hrel
        by_cases hlt : i ≤ jj
        · have hg1 : decide ((i : Int) ≤ (jj : Int)) = true := decide_eq_true (by omega)
          have c1 := HSr.out.cell (i := i) (by rw [HZc.out]; omega)
          have c0 := HSr.out.cell (i := a) (by rw [HZc.out]; omega)
          obtain ⟨lb, hlb⟩ : ∃ lb, ltB c[a]! c[i]! = lb := ⟨_, rfl⟩
          have HL := Lib.hid (fun W => less_q hlb W)
          have hx1 : (i : Int) < (n : Int) := by omega
          rcases lb with _ | _
          · have HE1 := Lib.hid (HE.out.trans (up_go hlt (by rw [hlb]; rfl)))
            clear HE hlb
            obtain ⟨x, hxe⟩ : ∃ x, x = c[i]! := ⟨_, rfl⟩
            obtain ⟨y, hye⟩ : ∃ y, y = c[a]! := ⟨_, rfl⟩
            rw [← hxe] at c1 HL
            rw [← hye] at c0 HL
            clear hxe hye
            go_wp2_with fail
            go_quiet ((go_at_call 180; exact Calls.quiet_of_same (HL.out _)))
            go_wp2_with fail
            go_roundw
            case rel => first | exact ⟨i + 1, by omega, by omega, by go_num, HSr.out.drewN _, HOr.out.drewN _, HE1⟩ | ((repeat apply Exists.intro); exact ⟨⟨i + 1, by omega, by omega, by go_num, HSr.out.drewN _, HOr.out.drewN _, HE1⟩, rfl⟩)
            case measure => simp [intOf]; omega
          · have HE1 := Lib.hid (HE.out.trans (up_stop (.inr (by rw [hlb]; rfl))))
            clear HE hlb
            obtain ⟨x, hxe⟩ : ∃ x, x = c[i]! := ⟨_, rfl⟩
            obtain ⟨y, hye⟩ : ∃ y, y = c[a]! := ⟨_, rfl⟩
            rw [← hxe] at c1 HL
            rw [← hye] at c0 HL
            clear hxe hye
            go_wp2_with fail
            go_quiet ((go_at_call 180; exact Calls.quiet_of_same (HL.out _)))
            go_wp2_with fail
            go_meet
            case rel => exact ⟨i, hi0, hi1, rfl, HSr.out.drewN _, HOr.out.drewN _, HE1⟩
        · have hg1 : decide ((i : Int) ≤ (jj : Int)) = false := decide_eq_false (by omega)
          have HE1 := Lib.hid (HE.out.trans (up_stop (.inl hlt)))
          clear HE
          go_wp2_with fail
          go_quiet (fail)
          go_wp2_with fail
          go_meet
          case rel => exact ⟨i, hi0, hi1, rfl, HSr.out.drewN _, HOr.out.drewN _, HE1⟩
    case rest =>
      obtain ⟨i2, hi0', hi1', rfl, HS6, HO6, HE6⟩ := hcut
      clear HS5 HO5
      go_upto_block 4 with (fail)
      go_cut [10] from 29 to 82 (fun p wx => ∃ j : Nat, a ≤ j ∧ j ≤ jj ∧ (i2 ≤ j + 1 ∨ j = jj) ∧ p = .int .i64 j ∧ Hid (SB g tl c wx) ∧ Hid (On g w wx) ∧ Hid (Sort.scanDown (fun x => ltB c[a]! x) c i2 (jj) = j))
      case first =>
        go_wp2_with fail
        go_loopw [10] (fun p wr => ∃ j : Nat, a ≤ j ∧ j ≤ jj ∧ (i2 ≤ j + 1 ∨ j = jj) ∧ p = .int .i64 j ∧ Hid (SB g tl c wr) ∧ Hid (On g w wr) ∧ Hid (Sort.scanDown (fun x => ltB c[a]! x) c i2 (jj) = Sort.scanDown (fun x => ltB c[a]! x) c i2 j)) (fun p _ => (intOf p).toNat)
        case atStart => exact ⟨jj, by omega, by omega, by omega, rfl, HS6, HO6, rfl⟩
        case round =>
          obtain ⟨j, hj0, hj1, hj2, rfl, HSr, HOr, HE⟩ := hrel
          by_cases hlt : i2 ≤ j
          · obtain ⟨m, rfl⟩ : ∃ m, j = m + 1 := ⟨j - 1, by omega⟩
            have hg1 : decide ((i2 : Int) ≤ (m : Int) + 1) = true := decide_eq_true (by omega)
            have c1 := HSr.out.cell (i := m + 1) (by rw [HZc.out]; omega)
            have c0 := HSr.out.cell (i := a) (by rw [HZc.out]; omega)
            obtain ⟨lb, hlb⟩ : ∃ lb, ltB c[a]! c[m + 1]! = lb := ⟨_, rfl⟩
            have HL := Lib.hid (fun W => less_q hlb W)
            have hx1 : (m : Int) + 1 < (n : Int) := by omega
            have hx2 : (0 : Int) ≤ (m : Int) + 1 := by omega
            have hn1 : ((m : Int) + 1).toNat = m + 1 := by omega
            rcases lb with _ | _
            · have HE1 := Lib.hid (HE.out.trans (down_stop (.inr hlb)))
              clear HE hlb
              obtain ⟨x, hxe⟩ : ∃ x, x = c[m + 1]! := ⟨_, rfl⟩
              obtain ⟨y, hye⟩ : ∃ y, y = c[a]! := ⟨_, rfl⟩
              rw [← hxe] at c1 HL
              rw [← hye] at c0 HL
              clear hxe hye
              go_wp2_with fail
              go_quiet ((go_at_call 180; exact Calls.quiet_of_same (HL.out _)))
              go_wp2_with fail
              go_meet
              case rel => exact ⟨m + 1, hj0, hj1, hj2, by go_num, HSr.out.drewN _, HOr.out.drewN _, HE1⟩
            · have HE1 := Lib.hid (HE.out.trans (down_go hlt hlb))
              clear HE hlb
              obtain ⟨x, hxe⟩ : ∃ x, x = c[m + 1]! := ⟨_, rfl⟩
              obtain ⟨y, hye⟩ : ∃ y, y = c[a]! := ⟨_, rfl⟩
              rw [← hxe] at c1 HL
              rw [← hye] at c0 HL
              clear hxe hye
              go_wp2_with fail
              go_quiet ((go_at_call 180; exact Calls.quiet_of_same (HL.out _)))
              go_wp2_with fail
              go_roundw
              case rel => first | exact ⟨m, by omega, by omega, by omega, by go_num, HSr.out.drewN _, HOr.out.drewN _, HE1⟩ | ((repeat apply Exists.intro); exact ⟨⟨m, by omega, by omega, by omega, by go_num, HSr.out.drewN _, HOr.out.drewN _, HE1⟩, rfl⟩)
              case measure => simp [intOf]
          · have hg1 : decide ((i2 : Int) ≤ (j : Int)) = false := decide_eq_false (by omega)
            have HE1 := Lib.hid (HE.out.trans (down_stop (.inl hlt)))
            clear HE
            go_wp2_with fail
            go_quiet (fail)
            go_wp2_with fail
            go_meet
            case rel => exact ⟨j, hj0, hj1, hj2, rfl, HSr.out.drewN _, HOr.out.drewN _, HE1⟩
      case rest =>
        obtain ⟨j2, hj0', hj1', hj2', rfl, HS7, HO7, HE7⟩ := hcut
        clear HS6 HO6
        by_cases hgt2 : i2 > j2
        · have hg8 : decide ((i2 : Int) > (j2 : Int)) = true := decide_eq_true (by omega)
          have HP2 : Hid (Sort.partitionEqual ltB d0 a b pv = (i2, c)) := by rw [HP.out, HE5.out, eq_stop HE6.out HE7.out hgt2]; rfl
          clear HP HE5 HE6 HE7
          go_wp2_with fail
          go_ret
          exact ⟨i2, c, HP2.out, rfl, HS7.out, HO7.out⟩
        · have hg8 : decide ((i2 : Int) > (j2 : Int)) = false := decide_eq_false (by omega)
          have HE8 := Lib.hid (HE5.out.trans (eq_go HE6.out HE7.out hgt2 (by omega) (by omega) (by omega)))
          clear HE5 HE6 HE7
          have y1 := HS7.out.cell (i := i2) (by rw [HZc.out]; omega)
          have y2 := HS7.out.cell (i := j2) (by rw [HZc.out]; omega)
          have y3 := (HS7.out.set (i := i2) (by rw [HZc.out]; omega) c[j2]!).cell (i := j2) (by simp [HZc.out]; omega)
          have z1 := HS7.out.frozen i2 (by rw [HZc.out]; omega)
          have z2 := HS7.out.frozen j2 (by rw [HZc.out]; omega)
          have e1 : (i2 : Int) < (n : Int) := by omega
          have e2 : (j2 : Int) < (n : Int) := by omega
          have HSW := Lib.hid (HS7.out.swap (i := i2) (j := j2) (by rw [HZc.out]; omega) (by rw [HZc.out]; omega))
          have HZd5 : Hid ((Sort.swp c i2 j2).size = n) := (swp_sz _ _ _).trans HZc.out
          have HOW := Lib.hid (HO7.out.swap i2 j2 (.int .u8 (c[j2]!.toNat : Int)) (.int .u8 (c[i2]!.toNat : Int)))
          obtain ⟨d5, hd5⟩ : ∃ d5, d5 = Sort.swp c i2 j2 := ⟨_, rfl⟩
          rw [← hd5] at HSW HZd5
          have HDd5 := Lib.hid hd5
          clear hd5
          generalize (c.setIfInBounds i2 c[j2]!)[j2]! = v3 at y3
          generalize hv1 : c[i2]! = v1 at y1 HSW HOW
          generalize hv2 : c[j2]! = v2 at y2 HSW y3 HOW
          clear hv1 hv2
          rw [← HDd5.out] at HE8
          go_wp2_with fail
          go_region
          go_wp2_with fail
          go_roundw
          case rel => first | exact ⟨i2 + 1, j2 - 1, d5, by omega, by omega, by omega, by omega, by go_num, by congr 1; omega, HSW.out, HOW.out.drewN _, HZd5, HE8⟩ | ((repeat apply Exists.intro); exact ⟨⟨i2 + 1, j2 - 1, d5, by omega, by omega, by omega, by omega, by go_num, by congr 1; omega, HSW.out, HOW.out.drewN _, HZd5, HE8⟩, rfl⟩)
          case measure => simp [intOf]; omega

end Go.Proofs.YtgolhfmmlanmlaaGreatDoor
