/- Texts of one claim, joined in their order. -/
import Derived.Deep.CutBlock
import Derived.Deep.CutRange
import Derived.Sort.LotA
import Derived.Laws.IdiomStrings
import Derived.Deep.RegionWith
import Derived.Test.YtgolhfmmlanmlaaGreatDoorM7
import Derived.Test.YtgolhfmmlanmlaaGreatDoorM2
import Derived.Test.YtgolhfmmlanmlaaGreatDoorM4

/- Walks: the library's sort at bytes: parted by a pivot. -/
namespace Go.Proofs.YtgolhfmmlanmlaaGreatDoor
open Go.RowKit Pth

theorem up_go {p : UInt8 → Bool} {d : Array UInt8} {i j : Nat} (h : i ≤ j) (hp : p d[i]! = true) : Sort.scanUp p d j i = Sort.scanUp p d j (i + 1) := by
  rw [Sort.scanUp, decide_eq_true h, hp]; rfl
theorem up_stop {p : UInt8 → Bool} {d : Array UInt8} {i j : Nat} (h : ¬ i ≤ j ∨ p d[i]! = false) : Sort.scanUp p d j i = i := by
  rw [Sort.scanUp]
  rcases h with h | h
  · rw [decide_eq_false h]; rfl
  · rw [h]; simp
theorem down_go {p : UInt8 → Bool} {d : Array UInt8} {i j : Nat} (h : i ≤ j + 1) (hp : p d[j + 1]! = true) : Sort.scanDown p d i (j + 1) = Sort.scanDown p d i j := by
  rw [Sort.scanDown, decide_eq_true h, hp]; rfl
theorem down_stop {p : UInt8 → Bool} {d : Array UInt8} {i j : Nat} (h : ¬ i ≤ j ∨ p d[j]! = false) : Sort.scanDown p d i j = j := by
  cases j with
  | zero => rfl
  | succ j =>
    rw [Sort.scanDown]
    rcases h with h | h
    · rw [decide_eq_false h]; rfl
    · rw [h]; simp

theorem part_stop {a i j i2 j2 : Nat} {d : Array UInt8} (hi : Sort.scanUp (fun x => ltB x d[a]!) d j i = i2) (hj : Sort.scanDown (fun x => !ltB x d[a]!) d i2 j = j2) (h : i2 > j2) : Sort.partLoop ltB a i j d = (j2, d) := by
  rw [Sort.partLoop, hi, hj, if_pos h]
theorem part_go {a i j i2 j2 : Nat} {d : Array UInt8} (hi : Sort.scanUp (fun x => ltB x d[a]!) d j i = i2) (hj : Sort.scanDown (fun x => !ltB x d[a]!) d i2 j = j2) (h : ¬ i2 > j2) (h1 : i ≤ i2) (h2 : j2 ≤ j) (h3 : 1 ≤ j2) : Sort.partLoop ltB a i j d = Sort.partLoop ltB a (i2 + 1) (j2 - 1) (Sort.swp d i2 j2) := by
  rw [Sort.partLoop, hi, hj, if_neg h, dif_pos (by omega)]
theorem part_is {d0 d : Array UInt8} {a b pv i j : Nat} (hd : d = Sort.swp d0 a pv) (hi : Sort.scanUp (fun x => ltB x d[a]!) d (b - 1) (a + 1) = i) (hj : Sort.scanDown (fun x => !ltB x d[a]!) d i (b - 1) = j) :
    Sort.partition ltB d0 a b pv = if i > j then (j, true, Sort.swp d j a) else ((Sort.partLoop ltB a (i + 1) (j - 1) (Sort.swp d i j)).1, false, Sort.swp (Sort.partLoop ltB a (i + 1) (j - 1) (Sort.swp d i j)).2 (Sort.partLoop ltB a (i + 1) (j - 1) (Sort.swp d i j)).1 a) := by
  subst hd hi hj
  rfl
/-- Parted as the library's text says. -/
def PartsPost (g : Nat) (tl : List Value) (d : Array UInt8) (a b pv : Nat) (w : World) (e : Ending) (w' : World) : Prop :=
  ∃ (m : Nat) (ap : Bool) (d' : Array UInt8), Sort.partition ltB d a b pv = (m, ap, d') ∧ e = .returned (.tuple #[.int .i64 m, .bool ap]) ∧ SB g tl d' w' ∧ On g w w'

set_option maxRecDepth 20000 in
set_option maxHeartbeats 4000000 in
theorem partition8 (g : Nat) (tl : List Value) (d0 : Array UInt8) (n cap a b pv : Nat) (w : World) (h : SB g tl d0 w) (hn : d0.size = n) (_hc : n ≤ cap) (hb : b ≤ n) (hN : n ≤ 1000) (_hap : a ≤ pv) (hpb : pv < b) (hab : a + 1 < b) :
    Calls Tryz.prog 182 #[.slice (some ⟨g, 0, none⟩) n cap, .int .i64 a, .int .i64 b, .int .i64 pv] w (PartsPost g tl d0 a b pv w) := by
  have HZd0 := Lib.hid hn
  have HS0 := Lib.hid h
  have HO0 := Lib.hid (On.refl g w)
  clear h hn
  have y1 := HS0.out.cell (i := a) (by rw [HZd0.out]; omega)
  have y2 := HS0.out.cell (i := pv) (by rw [HZd0.out]; omega)
  have y3 := (HS0.out.set (i := a) (by rw [HZd0.out]; omega) d0[pv]!).cell (i := pv) (by simp [HZd0.out]; omega)
  have z1 := HS0.out.frozen a (by rw [HZd0.out]; omega)
  have z2 := HS0.out.frozen pv (by rw [HZd0.out]; omega)
  have e1 : (a : Int) < (n : Int) := by omega
  have e2 : (pv : Int) < (n : Int) := by omega
  have HSW := Lib.hid (HS0.out.swap (i := a) (j := pv) (by rw [HZd0.out]; omega) (by rw [HZd0.out]; omega))
  have HZd : Hid ((Sort.swp d0 a pv).size = n) := (swp_sz _ _ _).trans HZd0.out
  have HOW := Lib.hid (HO0.out.swap a pv (.int .u8 (d0[pv]!.toNat : Int)) (.int .u8 (d0[a]!.toNat : Int)))
  obtain ⟨d, hd⟩ : ∃ d, d = Sort.swp d0 a pv := ⟨_, rfl⟩
  rw [← hd] at HSW HZd
  have HDd := Lib.hid hd
  clear hd
  generalize (d0.setIfInBounds a d0[pv]!)[pv]! = v3 at y3
  generalize hv1 : d0[a]! = v1 at y1 HSW HOW
  generalize hv2 : d0[pv]! = v2 at y2 HSW y3 HOW
  clear hv1 hv2
  go_enter Tryz.func182, Tryz.ntmps182
  go_wp2_with fail
  go_region
  obtain ⟨w1, hw1⟩ : ∃ w1, w1 = ((w.setCell ⟨g, a, none⟩ (.int .u8 (v2.toNat : Int))).setCell ⟨g, pv, none⟩ (.int .u8 (v1.toNat : Int))).drew := ⟨_, rfl⟩
  rw [← hw1]
  have HS1 : Hid (SB g tl d w1) := by rw [hw1]; exact HSW.out
  have HO1 : Hid (On g w w1) := by rw [hw1]; exact HOW.out.drewN 1
  clear hw1 HSW HOW y1 y2 y3 z1 z2 HS0 HO0
  go_upto_block 0 with (fail)
  go_cut [10] from 30 to 45 (fun p wx => ∃ i : Nat, a + 1 ≤ i ∧ (i ≤ b - 1 + 1 ∨ i = a + 1) ∧ p = .int .i64 i ∧ Hid (SB g tl d wx) ∧ Hid (On g w wx) ∧ Hid (Sort.scanUp (fun x => ltB x d[a]!) d (b - 1) (a + 1) = i))
  case first =>
    go_wp2_with fail
    go_loopw [10] (fun p wr => ∃ i : Nat, a + 1 ≤ i ∧ (i ≤ b - 1 + 1 ∨ i = a + 1) ∧ p = .int .i64 i ∧ Hid (SB g tl d wr) ∧ Hid (On g w wr) ∧ Hid (Sort.scanUp (fun x => ltB x d[a]!) d (b - 1) (a + 1) = Sort.scanUp (fun x => ltB x d[a]!) d (b - 1) i)) (fun p _ => 3000 - (intOf p).toNat)
    case atStart => exact ⟨a + 1, by omega, by omega, by go_num, HS1, HO1, rfl⟩
    case round =>
      obtain ⟨i, hi0, hi1, rfl, HSr, HOr, HE⟩ := hrel
      by_cases hlt : i ≤ b - 1
      · have hg1 : decide ((i : Int) ≤ (b : Int) - 1) = true := decide_eq_true (by omega)
        have c1 := HSr.out.cell (i := i) (by rw [HZd.out]; omega)
        have c0 := HSr.out.cell (i := a) (by rw [HZd.out]; omega)
        obtain ⟨lb, hlb⟩ : ∃ lb, ltB d[i]! d[a]! = lb := ⟨_, rfl⟩
        have HL := Lib.hid (fun W => less_q hlb W)
        have hx1 : (i : Int) < (n : Int) := by omega
        rcases lb with _ | _
        · have HE1 := Lib.hid (HE.out.trans (up_stop (.inr hlb)))
          clear HE hlb
          obtain ⟨x, hxe⟩ : ∃ x, x = d[i]! := ⟨_, rfl⟩
          obtain ⟨y, hye⟩ : ∃ y, y = d[a]! := ⟨_, rfl⟩
          rw [← hxe] at c1 HL
          rw [← hye] at c0 HL
          clear hxe hye
          go_wp2_with fail
          go_quiet ((go_at_call 180; exact Calls.quiet_of_same (HL.out _)))
          go_wp2_with fail
          go_meet
          case rel => exact ⟨i, hi0, hi1, rfl, HSr.out.drewN _, HOr.out.drewN _, HE1⟩
        · have HE1 := Lib.hid (HE.out.trans (up_go hlt hlb))
          clear HE hlb
          obtain ⟨x, hxe⟩ : ∃ x, x = d[i]! := ⟨_, rfl⟩
          obtain ⟨y, hye⟩ : ∃ y, y = d[a]! := ⟨_, rfl⟩
          rw [← hxe] at c1 HL
          rw [← hye] at c0 HL
          clear hxe hye
          go_wp2_with fail
          go_quiet ((go_at_call 180; exact Calls.quiet_of_same (HL.out _)))
          go_wp2_with fail
          go_roundw
          case rel => first | exact ⟨i + 1, by omega, by omega, by go_num, HSr.out.drewN _, HOr.out.drewN _, HE1⟩ | ((repeat apply Exists.intro); exact ⟨⟨i + 1, by omega, by omega, by go_num, HSr.out.drewN _, HOr.out.drewN _, HE1⟩, rfl⟩)
          case measure => simp [intOf]; omega
      · have hg1 : decide ((i : Int) ≤ (b : Int) - 1) = false := decide_eq_false (by omega)
        have HE1 := Lib.hid (HE.out.trans (up_stop (.inl hlt)))
        clear HE
        go_wp2_with fail
        go_quiet (fail)
        go_wp2_with fail
        go_meet
        case rel => exact ⟨i, hi0, hi1, rfl, HSr.out.drewN _, HOr.out.drewN _, HE1⟩
  case rest =>
    obtain ⟨i1, hi0, hi1, rfl, HS2, HO2, HE1⟩ := hcut
    clear HS1 HO1
    go_upto_block 2 with (fail)
    go_cut [11] from 46 to 62 (fun p wx => ∃ j : Nat, a ≤ j ∧ j ≤ b - 1 ∧ (i1 ≤ j + 1 ∨ j = b - 1) ∧ p = .int .i64 j ∧ Hid (SB g tl d wx) ∧ Hid (On g w wx) ∧ Hid (Sort.scanDown (fun x => !ltB x d[a]!) d i1 (b - 1) = j))
    case first =>
      go_wp2_with fail
      go_loopw [11] (fun p wr => ∃ j : Nat, a ≤ j ∧ j ≤ b - 1 ∧ (i1 ≤ j + 1 ∨ j = b - 1) ∧ p = .int .i64 j ∧ Hid (SB g tl d wr) ∧ Hid (On g w wr) ∧ Hid (Sort.scanDown (fun x => !ltB x d[a]!) d i1 (b - 1) = Sort.scanDown (fun x => !ltB x d[a]!) d i1 j)) (fun p _ => (intOf p).toNat)
      case atStart => exact ⟨b - 1, by omega, by omega, by omega, by congr 1; omega, HS2, HO2, rfl⟩
      case round =>
        obtain ⟨j, hj0, hj1, hj2, rfl, HSr, HOr, HE⟩ := hrel
        by_cases hlt : i1 ≤ j
        · obtain ⟨m, rfl⟩ : ∃ m, j = m + 1 := ⟨j - 1, by omega⟩
          have hg1 : decide ((i1 : Int) ≤ (m : Int) + 1) = true := decide_eq_true (by omega)
          have c1 := HSr.out.cell (i := m + 1) (by rw [HZd.out]; omega)
          have c0 := HSr.out.cell (i := a) (by rw [HZd.out]; omega)
          obtain ⟨lb, hlb⟩ : ∃ lb, ltB d[m + 1]! d[a]! = lb := ⟨_, rfl⟩
          have HL := Lib.hid (fun W => less_q hlb W)
          have hx1 : (m : Int) + 1 < (n : Int) := by omega
          have hx2 : (0 : Int) ≤ (m : Int) + 1 := by omega
          have hn1 : ((m : Int) + 1).toNat = m + 1 := by omega
          rcases lb with _ | _
          · have HE1 := Lib.hid (HE.out.trans (down_go hlt (by rw [hlb]; rfl)))
            clear HE hlb
            obtain ⟨x, hxe⟩ : ∃ x, x = d[m + 1]! := ⟨_, rfl⟩
            obtain ⟨y, hye⟩ : ∃ y, y = d[a]! := ⟨_, rfl⟩
            rw [← hxe] at c1 HL
            rw [← hye] at c0 HL
            clear hxe hye
            go_wp2_with fail
            go_quiet ((go_at_call 180; exact Calls.quiet_of_same (HL.out _)))
            go_wp2_with fail
            go_roundw
            case rel => first | exact ⟨m, by omega, by omega, by omega, by go_num, HSr.out.drewN _, HOr.out.drewN _, HE1⟩ | ((repeat apply Exists.intro); exact ⟨⟨m, by omega, by omega, by omega, by go_num, HSr.out.drewN _, HOr.out.drewN _, HE1⟩, rfl⟩)
            case measure => simp [intOf]
          · have HE1 := Lib.hid (HE.out.trans (down_stop (.inr (by rw [hlb]; rfl))))
            clear HE hlb
            obtain ⟨x, hxe⟩ : ∃ x, x = d[m + 1]! := ⟨_, rfl⟩
            obtain ⟨y, hye⟩ : ∃ y, y = d[a]! := ⟨_, rfl⟩
            rw [← hxe] at c1 HL
            rw [← hye] at c0 HL
            clear hxe hye
            go_wp2_with fail
            go_quiet ((go_at_call 180; exact Calls.quiet_of_same (HL.out _)))
            go_wp2_with fail
            go_meet
            case rel => exact ⟨m + 1, hj0, hj1, hj2, by go_num, HSr.out.drewN _, HOr.out.drewN _, HE1⟩
        · have hg1 : decide ((i1 : Int) ≤ (j : Int)) = false := decide_eq_false (by omega)
          have HE1 := Lib.hid (HE.out.trans (down_stop (.inl hlt)))
          clear HE
          go_wp2_with fail
          go_quiet (fail)
          go_wp2_with fail
          go_meet
          case rel => exact ⟨j, hj0, hj1, hj2, rfl, HSr.out.drewN _, HOr.out.drewN _, HE1⟩
    case rest =>
      obtain ⟨j1, hj0, hj1, hj2, rfl, HS3, HO3, HE2⟩ := hcut
      have HP := Lib.hid (part_is HDd.out HE1.out HE2.out)
      clear HS2 HO2 HE1 HE2
      by_cases hgt : i1 > j1
      · have hg7 : decide ((i1 : Int) > (j1 : Int)) = true := decide_eq_true (by omega)
        have HP1 : Hid (Sort.partition ltB d0 a b pv = (j1, true, Sort.swp d j1 a)) := by rw [HP.out, if_pos hgt]; rfl
        clear HP
        have y1 := HS3.out.cell (i := j1) (by rw [HZd.out]; omega)
        have y2 := HS3.out.cell (i := a) (by rw [HZd.out]; omega)
        have y3 := (HS3.out.set (i := j1) (by rw [HZd.out]; omega) d[a]!).cell (i := a) (by simp [HZd.out]; omega)
        have z1 := HS3.out.frozen j1 (by rw [HZd.out]; omega)
        have z2 := HS3.out.frozen a (by rw [HZd.out]; omega)
        have e1 : (j1 : Int) < (n : Int) := by omega
        have e2 : (a : Int) < (n : Int) := by omega
        have HSW := Lib.hid (HS3.out.swap (i := j1) (j := a) (by rw [HZd.out]; omega) (by rw [HZd.out]; omega))
        have HZd2 : Hid ((Sort.swp d j1 a).size = n) := (swp_sz _ _ _).trans HZd.out
        have HOW := Lib.hid (HO3.out.swap j1 a (.int .u8 (d[a]!.toNat : Int)) (.int .u8 (d[j1]!.toNat : Int)))
        obtain ⟨d2, hd2⟩ : ∃ d2, d2 = Sort.swp d j1 a := ⟨_, rfl⟩
        rw [← hd2] at HSW HZd2
        have HDd2 := Lib.hid hd2
        clear hd2
        generalize (d.setIfInBounds j1 d[a]!)[a]! = v3 at y3
        generalize hv1 : d[j1]! = v1 at y1 HSW HOW
        generalize hv2 : d[a]! = v2 at y2 HSW y3 HOW
        clear hv1 hv2
        go_wp2_with fail
        go_region
        go_wp2_with fail
        go_ret2
        exact ⟨j1, true, d2, by rw [HP1.out, ← HDd2.out], rfl, HSW.out, HOW.out.drewN _⟩
      · have hg7 : decide ((i1 : Int) > (j1 : Int)) = false := decide_eq_false (by omega)
        have HP1 := Lib.hid (HP.out.trans (if_neg hgt))
        clear HP
        have y1 := HS3.out.cell (i := i1) (by rw [HZd.out]; omega)
        have y2 := HS3.out.cell (i := j1) (by rw [HZd.out]; omega)
        have y3 := (HS3.out.set (i := i1) (by rw [HZd.out]; omega) d[j1]!).cell (i := j1) (by simp [HZd.out]; omega)
        have z1 := HS3.out.frozen i1 (by rw [HZd.out]; omega)
        have z2 := HS3.out.frozen j1 (by rw [HZd.out]; omega)
        have e1 : (i1 : Int) < (n : Int) := by omega
        have e2 : (j1 : Int) < (n : Int) := by omega
        have HSW := Lib.hid (HS3.out.swap (i := i1) (j := j1) (by rw [HZd.out]; omega) (by rw [HZd.out]; omega))
        have HZd2 : Hid ((Sort.swp d i1 j1).size = n) := (swp_sz _ _ _).trans HZd.out
        have HOW := Lib.hid (HO3.out.swap i1 j1 (.int .u8 (d[j1]!.toNat : Int)) (.int .u8 (d[i1]!.toNat : Int)))
        obtain ⟨d2, hd2⟩ : ∃ d2, d2 = Sort.swp d i1 j1 := ⟨_, rfl⟩
        rw [← hd2] at HSW HZd2
        have HDd2 := Lib.hid hd2
        clear hd2
        generalize (d.setIfInBounds i1 d[j1]!)[j1]! = v3 at y3
        generalize hv1 : d[i1]! = v1 at y1 HSW HOW
        generalize hv2 : d[j1]! = v2 at y2 HSW y3 HOW
        clear hv1 hv2
        rw [← HDd2.out] at HP1
        go_wp2_with fail
        go_region
        obtain ⟨w4, hw4⟩ : ∃ w4, w4 = ((wc.setCell ⟨g, i1, none⟩ (.int .u8 (v2.toNat : Int))).setCell ⟨g, j1, none⟩ (.int .u8 (v1.toNat : Int))).drew := ⟨_, rfl⟩
        rw [← hw4]
        have HS4 : Hid (SB g tl d2 w4) := by rw [hw4]; exact HSW.out
        have HO4 : Hid (On g w w4) := by rw [hw4]; exact HOW.out.drewN 1
        clear hw4 HSW HOW y1 y2 y3 z1 z2 HS3 HO3 e1 e2
        go_wp2_with fail
        go_loopw [10, 11] (fun p q wr => ∃ (ii jj : Nat) (c : Array UInt8), a + 2 ≤ ii ∧ ii ≤ jj + 2 ∧ a ≤ jj ∧ jj < b ∧ p = .int .i64 ii ∧ q = .int .i64 jj ∧ Hid (SB g tl c wr) ∧ Hid (On g w wr) ∧ Hid (c.size = n) ∧ Hid (Sort.partLoop ltB a (i1 + 1) (j1 - 1) d2 = Sort.partLoop ltB a ii jj c)) (fun p q _ => (intOf q + 3 - intOf p).toNat)
        case atStart => exact ⟨i1 + 1, j1 - 1, d2, by omega, by omega, by omega, by omega, by go_num, by congr 1; omega, HS4, HO4, HZd2, rfl⟩
        case round =>
          clear HS4 HO4
          obtain ⟨ii, jj, c, hii, hij, hjj, hjb, rfl, rfl, HS5, HO5, HZc, HE5⟩ := hrel
          go_upto_block 6 with (fail)
          go_cut [10] from 99 to 152 (fun p wx => ∃ i : Nat, ii ≤ i ∧ (i ≤ jj + 1 ∨ i = ii) ∧ p = .int .i64 i ∧ Hid (SB g tl c wx) ∧ Hid (On g w wx) ∧ Hid (Sort.scanUp (fun x => ltB x c[a]!) c (jj) (ii) = i))
          case first =>
            go_wp2_with fail
            go_loopw [10] (fun p wr => ∃ i : Nat, ii ≤ i ∧ (i ≤ jj + 1 ∨ i = ii) ∧ p = .int .i64 i ∧ Hid (SB g tl c wr) ∧ Hid (On g w wr) ∧ Hid (Sort.scanUp (fun x => ltB x c[a]!) c (jj) (ii) = Sort.scanUp (fun x => ltB x c[a]!) c (jj) i)) (fun p _ => 3000 - (intOf p).toNat)
            case atStart => exact ⟨ii, by omega, by omega, by go_num, HS5, HO5, rfl⟩
            case round =>
              obtain ⟨i, hi0, hi1, rfl, HSr, HOr, HE⟩ := hrel
              by_cases hlt : i ≤ jj
              · have hg1 : decide ((i : Int) ≤ (jj : Int)) = true := decide_eq_true (by omega)
                have c1 := HSr.out.cell (i := i) (by rw [HZc.out]; omega)
                have c0 := HSr.out.cell (i := a) (by rw [HZc.out]; omega)
                obtain ⟨lb, hlb⟩ : ∃ lb, ltB c[i]! c[a]! = lb := ⟨_, rfl⟩
                have HL := Lib.hid (fun W => less_q hlb W)
                have hx1 : (i : Int) < (n : Int) := by omega
                rcases lb with _ | _
                · have HE1 := Lib.hid (HE.out.trans (up_stop (.inr hlb)))
                  clear HE hlb
                  obtain ⟨x, hxe⟩ : ∃ x, x = c[i]! := ⟨_, rfl⟩
                  obtain ⟨y, hye⟩ : ∃ y, y = c[a]! := ⟨_, rfl⟩
                  rw [← hxe] at c1 HL
                  rw [← hye] at c0 HL
                  clear hxe hye
                  go_wp2_with fail
                  go_quiet ((go_at_call 180; exact Calls.quiet_of_same (HL.out _)))
                  go_wp2_with fail
                  go_meet
                  case rel => exact ⟨i, hi0, hi1, rfl, HSr.out.drewN _, HOr.out.drewN _, HE1⟩
                · have HE1 := Lib.hid (HE.out.trans (up_go hlt hlb))
                  clear HE hlb
                  obtain ⟨x, hxe⟩ : ∃ x, x = c[i]! := ⟨_, rfl⟩
                  obtain ⟨y, hye⟩ : ∃ y, y = c[a]! := ⟨_, rfl⟩
                  rw [← hxe] at c1 HL
                  rw [← hye] at c0 HL
                  clear hxe hye
                  go_wp2_with fail
                  go_quiet ((go_at_call 180; exact Calls.quiet_of_same (HL.out _)))
                  go_wp2_with fail
                  go_roundw
                  case rel => first | exact ⟨i + 1, by omega, by omega, by go_num, HSr.out.drewN _, HOr.out.drewN _, HE1⟩ | ((repeat apply Exists.intro); exact ⟨⟨i + 1, by omega, by omega, by go_num, HSr.out.drewN _, HOr.out.drewN _, HE1⟩, rfl⟩)
                  case measure => simp [intOf]; omega
              · have hg1 : decide ((i : Int) ≤ (jj : Int)) = false := decide_eq_false (by omega)
                have HE1 := Lib.hid (HE.out.trans (up_stop (.inl hlt)))
                clear HE
                go_wp2_with fail
                go_quiet (fail)
                go_wp2_with fail
                go_meet
                case rel => exact ⟨i, hi0, hi1, rfl, HSr.out.drewN _, HOr.out.drewN _, HE1⟩
          case rest =>
            obtain ⟨i2, hi0', hi1', rfl, HS6, HO6, HE6⟩ := hcut
            clear HS5 HO5
            go_upto_block 8 with (fail)
            go_cut [11] from 99 to 152 (fun p wx => ∃ j : Nat, a ≤ j ∧ j ≤ jj ∧ (i2 ≤ j + 1 ∨ j = jj) ∧ p = .int .i64 j ∧ Hid (SB g tl c wx) ∧ Hid (On g w wx) ∧ Hid (Sort.scanDown (fun x => !ltB x c[a]!) c i2 (jj) = j))
            case first =>
              go_wp2_with fail
              go_loopw [11] (fun p wr => ∃ j : Nat, a ≤ j ∧ j ≤ jj ∧ (i2 ≤ j + 1 ∨ j = jj) ∧ p = .int .i64 j ∧ Hid (SB g tl c wr) ∧ Hid (On g w wr) ∧ Hid (Sort.scanDown (fun x => !ltB x c[a]!) c i2 (jj) = Sort.scanDown (fun x => !ltB x c[a]!) c i2 j)) (fun p _ => (intOf p).toNat)
              case atStart => exact ⟨jj, by omega, by omega, by omega, rfl, HS6, HO6, rfl⟩
              case round =>
                obtain ⟨j, hj0, hj1, hj2, rfl, HSr, HOr, HE⟩ := hrel
                by_cases hlt : i2 ≤ j
                · obtain ⟨m, rfl⟩ : ∃ m, j = m + 1 := ⟨j - 1, by omega⟩
                  have hg1 : decide ((i2 : Int) ≤ (m : Int) + 1) = true := decide_eq_true (by omega)
                  have c1 := HSr.out.cell (i := m + 1) (by rw [HZc.out]; omega)
                  have c0 := HSr.out.cell (i := a) (by rw [HZc.out]; omega)
                  obtain ⟨lb, hlb⟩ : ∃ lb, ltB c[m + 1]! c[a]! = lb := ⟨_, rfl⟩
                  have HL := Lib.hid (fun W => less_q hlb W)
                  have hx1 : (m : Int) + 1 < (n : Int) := by omega
                  have hx2 : (0 : Int) ≤ (m : Int) + 1 := by omega
                  have hn1 : ((m : Int) + 1).toNat = m + 1 := by omega
                  rcases lb with _ | _
                  · have HE1 := Lib.hid (HE.out.trans (down_go hlt (by rw [hlb]; rfl)))
                    clear HE hlb
                    obtain ⟨x, hxe⟩ : ∃ x, x = c[m + 1]! := ⟨_, rfl⟩
                    obtain ⟨y, hye⟩ : ∃ y, y = c[a]! := ⟨_, rfl⟩
                    rw [← hxe] at c1 HL
                    rw [← hye] at c0 HL
                    clear hxe hye
                    go_wp2_with fail
                    go_quiet ((go_at_call 180; exact Calls.quiet_of_same (HL.out _)))
                    go_wp2_with fail
                    go_roundw
                    case rel => first | exact ⟨m, by omega, by omega, by omega, by go_num, HSr.out.drewN _, HOr.out.drewN _, HE1⟩ | ((repeat apply Exists.intro); exact ⟨⟨m, by omega, by omega, by omega, by go_num, HSr.out.drewN _, HOr.out.drewN _, HE1⟩, rfl⟩)
                    case measure => simp [intOf]
                  · have HE1 := Lib.hid (HE.out.trans (down_stop (.inr (by rw [hlb]; rfl))))
                    clear HE hlb
                    obtain ⟨x, hxe⟩ : ∃ x, x = c[m + 1]! := ⟨_, rfl⟩
                    obtain ⟨y, hye⟩ : ∃ y, y = c[a]! := ⟨_, rfl⟩
                    rw [← hxe] at c1 HL
                    rw [← hye] at c0 HL
                    clear hxe hye
                    go_wp2_with fail
                    go_quiet ((go_at_call 180; exact Calls.quiet_of_same (HL.out _)))
                    go_wp2_with fail
                    go_meet
                    case rel => exact ⟨m + 1, hj0, hj1, hj2, by go_num, HSr.out.drewN _, HOr.out.drewN _, HE1⟩
                · have hg1 : decide ((i2 : Int) ≤ (j : Int)) = false := decide_eq_false (by omega)
                  have HE1 := Lib.hid (HE.out.trans (down_stop (.inl hlt)))
                  clear HE
                  go_wp2_with fail
                  go_quiet (fail)
                  go_wp2_with fail
                  go_meet
                  case rel => exact ⟨j, hj0, hj1, hj2, rfl, HSr.out.drewN _, HOr.out.drewN _, HE1⟩
            case rest =>
              obtain ⟨j2, hj0', hj1', hj2', rfl, HS7, HO7, HE7⟩ := hcut
              clear HS6 HO6
              by_cases hgt2 : i2 > j2
              · have hg8 : decide ((i2 : Int) > (j2 : Int)) = true := decide_eq_true (by omega)
                have HP2 : Hid (Sort.partition ltB d0 a b pv = (j2, false, Sort.swp c j2 a)) := by rw [HP1.out, HE5.out, part_stop HE6.out HE7.out hgt2]; rfl
                clear HP1 HE5 HE6 HE7
                have y1 := HS7.out.cell (i := j2) (by rw [HZc.out]; omega)
                have y2 := HS7.out.cell (i := a) (by rw [HZc.out]; omega)
                have y3 := (HS7.out.set (i := j2) (by rw [HZc.out]; omega) c[a]!).cell (i := a) (by simp [HZc.out]; omega)
                have z1 := HS7.out.frozen j2 (by rw [HZc.out]; omega)
                have z2 := HS7.out.frozen a (by rw [HZc.out]; omega)
                have e1 : (j2 : Int) < (n : Int) := by omega
                have e2 : (a : Int) < (n : Int) := by omega
                have HSW := Lib.hid (HS7.out.swap (i := j2) (j := a) (by rw [HZc.out]; omega) (by rw [HZc.out]; omega))
                have HZd5 : Hid ((Sort.swp c j2 a).size = n) := (swp_sz _ _ _).trans HZc.out
                have HOW := Lib.hid (HO7.out.swap j2 a (.int .u8 (c[a]!.toNat : Int)) (.int .u8 (c[j2]!.toNat : Int)))
                obtain ⟨d5, hd5⟩ : ∃ d5, d5 = Sort.swp c j2 a := ⟨_, rfl⟩
                rw [← hd5] at HSW HZd5
                have HDd5 := Lib.hid hd5
                clear hd5
                generalize (c.setIfInBounds j2 c[a]!)[a]! = v3 at y3
                generalize hv1 : c[j2]! = v1 at y1 HSW HOW
                generalize hv2 : c[a]! = v2 at y2 HSW y3 HOW
                clear hv1 hv2
                go_wp2_with fail
                go_region
                go_wp2_with fail
                go_ret2
                exact ⟨j2, false, d5, by rw [HP2.out, ← HDd5.out], rfl, HSW.out, HOW.out.drewN _⟩
              · have hg8 : decide ((i2 : Int) > (j2 : Int)) = false := decide_eq_false (by omega)
                have HE8 := Lib.hid (HE5.out.trans (part_go HE6.out HE7.out hgt2 (by omega) (by omega) (by omega)))
                clear HE5 HE6 HE7
                have y1 := HS7.out.cell (i := i2) (by rw [HZc.out]; omega)
                have y2 := HS7.out.cell (i := j2) (by rw [HZc.out]; omega)
                have y3 := (HS7.out.set (i := i2) (by rw [HZc.out]; omega) c[j2]!).cell (i := j2) (by simp [HZc.out]; omega)
                have z1 := HS7.out.frozen i2 (by rw [HZc.out]; omega)
                have z2 := HS7.out.frozen j2 (by rw [HZc.out]; omega)
                have e1 : (i2 : Int) < (n : Int) := by omega
                have e2 : (j2 : Int) < (n : Int) := by omega
                have HSW := Lib.hid (HS7.out.swap (i := i2) (j := j2) (by rw [HZc.out]; omega) (by rw [HZc.out]; omega))
                have HZd5 : Hid ((Sort.swp c i2 j2).size = n) := (swp_sz _ _ _).trans HZc.out
                have HOW := Lib.hid (HO7.out.swap i2 j2 (.int .u8 (c[j2]!.toNat : Int)) (.int .u8 (c[i2]!.toNat : Int)))
                obtain ⟨d5, hd5⟩ : ∃ d5, d5 = Sort.swp c i2 j2 := ⟨_, rfl⟩
                rw [← hd5] at HSW HZd5
                have HDd5 := Lib.hid hd5
                clear hd5
                generalize (c.setIfInBounds i2 c[j2]!)[j2]! = v3 at y3
                generalize hv1 : c[i2]! = v1 at y1 HSW HOW
                generalize hv2 : c[j2]! = v2 at y2 HSW y3 HOW
                clear hv1 hv2
                rw [← HDd5.out] at HE8
                go_wp2_with fail
                go_region
                go_wp2_with fail
                go_roundw
                case rel => first | exact ⟨i2 + 1, j2 - 1, d5, by omega, by omega, by omega, by omega, by go_num, by congr 1; omega, HSW.out, HOW.out.drewN _, HZd5, HE8⟩ | ((repeat apply Exists.intro); exact ⟨⟨i2 + 1, j2 - 1, d5, by omega, by omega, by omega, by omega, by go_num, by congr 1; omega, HSW.out, HOW.out.drewN _, HZd5, HE8⟩, rfl⟩)
                case measure => simp [intOf]; omega

end Go.Proofs.YtgolhfmmlanmlaaGreatDoor

/- Walks: the library's sort at bytes: those that are as the pivot to the front. -/
namespace Go.Proofs.YtgolhfmmlanmlaaGreatDoor
open Go.RowKit Pth

theorem eq_stop {a i j i2 j2 : Nat} {d : Array UInt8} (hi : Sort.scanUp (fun x => !ltB d[a]! x) d j i = i2) (hj : Sort.scanDown (fun x => ltB d[a]! x) d i2 j = j2) (h : i2 > j2) : Sort.partEqLoop ltB a i j d = (i2, d) := by
  rw [Sort.partEqLoop, hi, hj, if_pos h]
theorem eq_go {a i j i2 j2 : Nat} {d : Array UInt8} (hi : Sort.scanUp (fun x => !ltB d[a]! x) d j i = i2) (hj : Sort.scanDown (fun x => ltB d[a]! x) d i2 j = j2) (h : ¬ i2 > j2) (h1 : i ≤ i2) (h2 : j2 ≤ j) (h3 : 1 ≤ j2) : Sort.partEqLoop ltB a i j d = Sort.partEqLoop ltB a (i2 + 1) (j2 - 1) (Sort.swp d i2 j2) := by
  rw [Sort.partEqLoop, hi, hj, if_neg h, dif_pos (by omega)]
/-- Parted as the library's text says. -/
def EqsPost (g : Nat) (tl : List Value) (d : Array UInt8) (a b pv : Nat) (w : World) (e : Ending) (w' : World) : Prop :=
  ∃ (m : Nat) (d' : Array UInt8), Sort.partitionEqual ltB d a b pv = (m, d') ∧ e = .returned (.int .i64 m) ∧ SB g tl d' w' ∧ On g w w'

set_option maxRecDepth 20000 in
set_option maxHeartbeats 4000000 in
theorem partEq8 (g : Nat) (tl : List Value) (d0 : Array UInt8) (n cap a b pv : Nat) (w : World) (h : SB g tl d0 w) (hn : d0.size = n) (_hc : n ≤ cap) (hb : b ≤ n) (hN : n ≤ 1000) (_hap : a ≤ pv) (hpb : pv < b) (hab : a + 1 < b) :
    Calls Tryz.prog 181 #[.slice (some ⟨g, 0, none⟩) n cap, .int .i64 a, .int .i64 b, .int .i64 pv] w (EqsPost g tl d0 a b pv w) := by
  have HP : Hid (Sort.partitionEqual ltB d0 a b pv = Sort.partEqLoop ltB a (a + 1) (b - 1) (Sort.swp d0 a pv)) := rfl
  have HZd0 := Lib.hid hn
  have HS0 := Lib.hid h
  have HO0 := Lib.hid (On.refl g w)
  clear h hn
  have y1 := HS0.out.cell (i := a) (by rw [HZd0.out]; omega)
  have y2 := HS0.out.cell (i := pv) (by rw [HZd0.out]; omega)
  have y3 := (HS0.out.set (i := a) (by rw [HZd0.out]; omega) d0[pv]!).cell (i := pv) (by simp [HZd0.out]; omega)
  have z1 := HS0.out.frozen a (by rw [HZd0.out]; omega)
  have z2 := HS0.out.frozen pv (by rw [HZd0.out]; omega)
  have e1 : (a : Int) < (n : Int) := by omega
  have e2 : (pv : Int) < (n : Int) := by omega
  have HSW := Lib.hid (HS0.out.swap (i := a) (j := pv) (by rw [HZd0.out]; omega) (by rw [HZd0.out]; omega))
  have HZd : Hid ((Sort.swp d0 a pv).size = n) := (swp_sz _ _ _).trans HZd0.out
  have HOW := Lib.hid (HO0.out.swap a pv (.int .u8 (d0[pv]!.toNat : Int)) (.int .u8 (d0[a]!.toNat : Int)))
  obtain ⟨d, hd⟩ : ∃ d, d = Sort.swp d0 a pv := ⟨_, rfl⟩
  rw [← hd] at HSW HZd
  have HDd := Lib.hid hd
  clear hd
  generalize (d0.setIfInBounds a d0[pv]!)[pv]! = v3 at y3
  generalize hv1 : d0[a]! = v1 at y1 HSW HOW
  generalize hv2 : d0[pv]! = v2 at y2 HSW y3 HOW
  clear hv1 hv2
  rw [← HDd.out] at HP
  go_enter Tryz.func181, Tryz.ntmps181
  go_wp2_with fail
  go_region
  obtain ⟨w1, hw1⟩ : ∃ w1, w1 = ((w.setCell ⟨g, a, none⟩ (.int .u8 (v2.toNat : Int))).setCell ⟨g, pv, none⟩ (.int .u8 (v1.toNat : Int))).drew := ⟨_, rfl⟩
  rw [← hw1]
  have HS4 : Hid (SB g tl d w1) := by rw [hw1]; exact HSW.out
  have HO4 : Hid (On g w w1) := by rw [hw1]; exact HOW.out.drewN 1
  clear hw1 HSW HOW y1 y2 y3 z1 z2 HS0 HO0 e1 e2
  go_wp2_with fail
  go_loopw [9, 10] (fun p q wr => ∃ (ii jj : Nat) (c : Array UInt8), a + 1 ≤ ii ∧ ii ≤ jj + 2 ∧ a ≤ jj ∧ jj < b ∧ p = .int .i64 ii ∧ q = .int .i64 jj ∧ Hid (SB g tl c wr) ∧ Hid (On g w wr) ∧ Hid (c.size = n) ∧ Hid (Sort.partEqLoop ltB a (a + 1) (b - 1) d = Sort.partEqLoop ltB a ii jj c)) (fun p q _ => (intOf q + 3 - intOf p).toNat)
  case atStart => exact ⟨a + 1, b - 1, d, by omega, by omega, by omega, by omega, by go_num, by congr 1; omega, HS4, HO4, HZd, rfl⟩
  case round =>
    clear HS4 HO4
    obtain ⟨ii, jj, c, hii, hij, hjj, hjb, rfl, rfl, HS5, HO5, HZc, HE5⟩ := hrel
    go_upto_block 2 with (fail)
    go_cut [9] from 29 to 82 (fun p wx => ∃ i : Nat, ii ≤ i ∧ (i ≤ jj + 1 ∨ i = ii) ∧ p = .int .i64 i ∧ Hid (SB g tl c wx) ∧ Hid (On g w wx) ∧ Hid (Sort.scanUp (fun x => !ltB c[a]! x) c (jj) (ii) = i))
    case first =>
      go_wp2_with fail
      go_loopw [9] (fun p wr => ∃ i : Nat, ii ≤ i ∧ (i ≤ jj + 1 ∨ i = ii) ∧ p = .int .i64 i ∧ Hid (SB g tl c wr) ∧ Hid (On g w wr) ∧ Hid (Sort.scanUp (fun x => !ltB c[a]! x) c (jj) (ii) = Sort.scanUp (fun x => !ltB c[a]! x) c (jj) i)) (fun p _ => 3000 - (intOf p).toNat)
      case atStart => exact ⟨ii, by omega, by omega, by go_num, HS5, HO5, rfl⟩
      case round =>
        obtain ⟨i, hi0, hi1, rfl, HSr, HOr, HE⟩ := hrel
        by_cases hlt : i ≤ jj
        · have hg1 : decide ((i : Int) ≤ (jj : Int)) = true := decide_eq_true (by omega)
          have c1 := HSr.out.cell (i := i) (by rw [HZc.out]; omega)
          have c0 := HSr.out.cell (i := a) (by rw [HZc.out]; omega)
          obtain ⟨lb, hlb⟩ : ∃ lb, ltB c[a]! c[i]! = lb := ⟨_, rfl⟩
          have HL := Lib.hid (fun W => less_q hlb W)
          have hx1 : (i : Int) < (n : Int) := by omega
          rcases lb with _ | _
          · have HE1 := Lib.hid (HE.out.trans (up_go hlt (by rw [hlb]; rfl)))
            clear HE hlb
            obtain ⟨x, hxe⟩ : ∃ x, x = c[i]! := ⟨_, rfl⟩
            obtain ⟨y, hye⟩ : ∃ y, y = c[a]! := ⟨_, rfl⟩
            rw [← hxe] at c1 HL
            rw [← hye] at c0 HL
            clear hxe hye
            go_wp2_with fail
            go_quiet ((go_at_call 180; exact Calls.quiet_of_same (HL.out _)))
            go_wp2_with fail
            go_roundw
            case rel => first | exact ⟨i + 1, by omega, by omega, by go_num, HSr.out.drewN _, HOr.out.drewN _, HE1⟩ | ((repeat apply Exists.intro); exact ⟨⟨i + 1, by omega, by omega, by go_num, HSr.out.drewN _, HOr.out.drewN _, HE1⟩, rfl⟩)
            case measure => simp [intOf]; omega
          · have HE1 := Lib.hid (HE.out.trans (up_stop (.inr (by rw [hlb]; rfl))))
            clear HE hlb
            obtain ⟨x, hxe⟩ : ∃ x, x = c[i]! := ⟨_, rfl⟩
            obtain ⟨y, hye⟩ : ∃ y, y = c[a]! := ⟨_, rfl⟩
            rw [← hxe] at c1 HL
            rw [← hye] at c0 HL
            clear hxe hye
            go_wp2_with fail
            go_quiet ((go_at_call 180; exact Calls.quiet_of_same (HL.out _)))
            go_wp2_with fail
            go_meet
            case rel => exact ⟨i, hi0, hi1, rfl, HSr.out.drewN _, HOr.out.drewN _, HE1⟩
        · have hg1 : decide ((i : Int) ≤ (jj : Int)) = false := decide_eq_false (by omega)
          have HE1 := Lib.hid (HE.out.trans (up_stop (.inl hlt)))
          clear HE
          go_wp2_with fail
          go_quiet (fail)
          go_wp2_with fail
          go_meet
          case rel => exact ⟨i, hi0, hi1, rfl, HSr.out.drewN _, HOr.out.drewN _, HE1⟩
    case rest =>
      obtain ⟨i2, hi0', hi1', rfl, HS6, HO6, HE6⟩ := hcut
      clear HS5 HO5
      go_upto_block 4 with (fail)
      go_cut [10] from 29 to 82 (fun p wx => ∃ j : Nat, a ≤ j ∧ j ≤ jj ∧ (i2 ≤ j + 1 ∨ j = jj) ∧ p = .int .i64 j ∧ Hid (SB g tl c wx) ∧ Hid (On g w wx) ∧ Hid (Sort.scanDown (fun x => ltB c[a]! x) c i2 (jj) = j))
      case first =>
        go_wp2_with fail
        go_loopw [10] (fun p wr => ∃ j : Nat, a ≤ j ∧ j ≤ jj ∧ (i2 ≤ j + 1 ∨ j = jj) ∧ p = .int .i64 j ∧ Hid (SB g tl c wr) ∧ Hid (On g w wr) ∧ Hid (Sort.scanDown (fun x => ltB c[a]! x) c i2 (jj) = Sort.scanDown (fun x => ltB c[a]! x) c i2 j)) (fun p _ => (intOf p).toNat)
        case atStart => exact ⟨jj, by omega, by omega, by omega, rfl, HS6, HO6, rfl⟩
        case round =>
          obtain ⟨j, hj0, hj1, hj2, rfl, HSr, HOr, HE⟩ := hrel
          by_cases hlt : i2 ≤ j
          · obtain ⟨m, rfl⟩ : ∃ m, j = m + 1 := ⟨j - 1, by omega⟩
            have hg1 : decide ((i2 : Int) ≤ (m : Int) + 1) = true := decide_eq_true (by omega)
            have c1 := HSr.out.cell (i := m + 1) (by rw [HZc.out]; omega)
            have c0 := HSr.out.cell (i := a) (by rw [HZc.out]; omega)
            obtain ⟨lb, hlb⟩ : ∃ lb, ltB c[a]! c[m + 1]! = lb := ⟨_, rfl⟩
            have HL := Lib.hid (fun W => less_q hlb W)
            have hx1 : (m : Int) + 1 < (n : Int) := by omega
            have hx2 : (0 : Int) ≤ (m : Int) + 1 := by omega
            have hn1 : ((m : Int) + 1).toNat = m + 1 := by omega
            rcases lb with _ | _
            · have HE1 := Lib.hid (HE.out.trans (down_stop (.inr hlb)))
              clear HE hlb
              obtain ⟨x, hxe⟩ : ∃ x, x = c[m + 1]! := ⟨_, rfl⟩
              obtain ⟨y, hye⟩ : ∃ y, y = c[a]! := ⟨_, rfl⟩
              rw [← hxe] at c1 HL
              rw [← hye] at c0 HL
              clear hxe hye
              go_wp2_with fail
              go_quiet ((go_at_call 180; exact Calls.quiet_of_same (HL.out _)))
              go_wp2_with fail
              go_meet
              case rel => exact ⟨m + 1, hj0, hj1, hj2, by go_num, HSr.out.drewN _, HOr.out.drewN _, HE1⟩
            · have HE1 := Lib.hid (HE.out.trans (down_go hlt hlb))
              clear HE hlb
              obtain ⟨x, hxe⟩ : ∃ x, x = c[m + 1]! := ⟨_, rfl⟩
              obtain ⟨y, hye⟩ : ∃ y, y = c[a]! := ⟨_, rfl⟩
              rw [← hxe] at c1 HL
              rw [← hye] at c0 HL
              clear hxe hye
              go_wp2_with fail
              go_quiet ((go_at_call 180; exact Calls.quiet_of_same (HL.out _)))
              go_wp2_with fail
              go_roundw
              case rel => first | exact ⟨m, by omega, by omega, by omega, by go_num, HSr.out.drewN _, HOr.out.drewN _, HE1⟩ | ((repeat apply Exists.intro); exact ⟨⟨m, by omega, by omega, by omega, by go_num, HSr.out.drewN _, HOr.out.drewN _, HE1⟩, rfl⟩)
              case measure => simp [intOf]
          · have hg1 : decide ((i2 : Int) ≤ (j : Int)) = false := decide_eq_false (by omega)
            have HE1 := Lib.hid (HE.out.trans (down_stop (.inl hlt)))
            clear HE
            go_wp2_with fail
            go_quiet (fail)
            go_wp2_with fail
            go_meet
            case rel => exact ⟨j, hj0, hj1, hj2, rfl, HSr.out.drewN _, HOr.out.drewN _, HE1⟩
      case rest =>
        obtain ⟨j2, hj0', hj1', hj2', rfl, HS7, HO7, HE7⟩ := hcut
        clear HS6 HO6
        by_cases hgt2 : i2 > j2
        · have hg8 : decide ((i2 : Int) > (j2 : Int)) = true := decide_eq_true (by omega)
          have HP2 : Hid (Sort.partitionEqual ltB d0 a b pv = (i2, c)) := by rw [HP.out, HE5.out, eq_stop HE6.out HE7.out hgt2]; rfl
          clear HP HE5 HE6 HE7
          go_wp2_with fail
          go_ret
          exact ⟨i2, c, HP2.out, rfl, HS7.out, HO7.out⟩
        · have hg8 : decide ((i2 : Int) > (j2 : Int)) = false := decide_eq_false (by omega)
          have HE8 := Lib.hid (HE5.out.trans (eq_go HE6.out HE7.out hgt2 (by omega) (by omega) (by omega)))
          clear HE5 HE6 HE7
          have y1 := HS7.out.cell (i := i2) (by rw [HZc.out]; omega)
          have y2 := HS7.out.cell (i := j2) (by rw [HZc.out]; omega)
          have y3 := (HS7.out.set (i := i2) (by rw [HZc.out]; omega) c[j2]!).cell (i := j2) (by simp [HZc.out]; omega)
          have z1 := HS7.out.frozen i2 (by rw [HZc.out]; omega)
          have z2 := HS7.out.frozen j2 (by rw [HZc.out]; omega)
          have e1 : (i2 : Int) < (n : Int) := by omega
          have e2 : (j2 : Int) < (n : Int) := by omega
          have HSW := Lib.hid (HS7.out.swap (i := i2) (j := j2) (by rw [HZc.out]; omega) (by rw [HZc.out]; omega))
          have HZd5 : Hid ((Sort.swp c i2 j2).size = n) := (swp_sz _ _ _).trans HZc.out
          have HOW := Lib.hid (HO7.out.swap i2 j2 (.int .u8 (c[j2]!.toNat : Int)) (.int .u8 (c[i2]!.toNat : Int)))
          obtain ⟨d5, hd5⟩ : ∃ d5, d5 = Sort.swp c i2 j2 := ⟨_, rfl⟩
          rw [← hd5] at HSW HZd5
          have HDd5 := Lib.hid hd5
          clear hd5
          generalize (c.setIfInBounds i2 c[j2]!)[j2]! = v3 at y3
          generalize hv1 : c[i2]! = v1 at y1 HSW HOW
          generalize hv2 : c[j2]! = v2 at y2 HSW y3 HOW
          clear hv1 hv2
          rw [← HDd5.out] at HE8
          go_wp2_with fail
          go_region
          go_wp2_with fail
          go_roundw
          case rel => first | exact ⟨i2 + 1, j2 - 1, d5, by omega, by omega, by omega, by omega, by go_num, by congr 1; omega, HSW.out, HOW.out.drewN _, HZd5, HE8⟩ | ((repeat apply Exists.intro); exact ⟨⟨i2 + 1, j2 - 1, d5, by omega, by omega, by omega, by omega, by go_num, by congr 1; omega, HSW.out, HOW.out.drewN _, HZd5, HE8⟩, rfl⟩)
          case measure => simp [intOf]; omega

end Go.Proofs.YtgolhfmmlanmlaaGreatDoor

/- Walks: the library's sort at bytes: the whole of it. -/
namespace Go.Proofs.YtgolhfmmlanmlaaGreatDoor
open Go.RowKit Pth

/-- What is in order between a' and b' makes all between a and b so. -/
def Fin8 (a b : Nat) (d : Array UInt8) (a' b' : Nat) (dk : Array UInt8) : Prop := ∀ R, Sort.PermIn a' b' dk R → Sort.SortedIn ltB a' b' R → Sort.PermIn a b d R ∧ Sort.SortedIn ltB a b R
theorem Fin8.perm {a b a' b' : Nat} {d dk d2 : Array UInt8} (h : Fin8 a b d a' b' dk) (hp : Sort.PermIn a' b' dk d2) : Fin8 a b d a' b' d2 := fun R hR hs => h R (Sort.permIn_trans _ _ _ a' b' hp hR) hs
/-- All between a and b, in order. -/
def PdqPost (g : Nat) (tl : List Value) (d : Array UInt8) (a b : Nat) (w : World) (e : Ending) (w' : World) : Prop :=
  ∃ d' : Array UInt8, e = .returned (.tuple #[]) ∧ Sort.PermIn a b d d' ∧ Sort.SortedIn ltB a b d' ∧ SB g tl d' w' ∧ On g w w'
/-- What goes on from round to round. -/
structure Rd8 (g : Nat) (tl : List Value) (n a b : Nat) (d : Array UInt8) (w : World) (a' b' : Nat) (dk : Array UInt8) (wr : World) : Prop where
  sz : dk.size = n
  bel : Sort.Below ltB a' b' dk
  sb : SB g tl dk wr
  on : On g w wr
  fin : Fin8 a b d a' b' dk
theorem Rd8.step {g : Nat} {tl : List Value} {n a b : Nat} {d : Array UInt8} {w : World} {a' b' : Nat} {dk d2 : Array UInt8} {wr w2 : World} (h : Rd8 g tl n a b d w a' b' dk wr) (hb : b' ≤ n) (hp : Sort.PermIn a' b' dk d2) (hs : SB g tl d2 w2) (ho : On g wr w2) : Rd8 g tl n a b d w a' b' d2 w2 :=
  ⟨hp.1.trans h.sz, h.bel.perm (by rw [h.sz]; exact hb) hp, hs, h.on.trans ho, h.fin.perm hp⟩
theorem Rd8.same {g : Nat} {tl : List Value} {n a b : Nat} {d : Array UInt8} {w : World} {a' b' : Nat} {dk : Array UInt8} {wr w2 : World} (h : Rd8 g tl n a b d w a' b' dk wr) (hs : SB g tl dk w2) (ho : On g wr w2) : Rd8 g tl n a b d w a' b' dk w2 :=
  ⟨h.sz, h.bel, hs, h.on.trans ho, h.fin⟩
theorem Rd8.drewN {g : Nat} {tl : List Value} {n a b : Nat} {d : Array UInt8} {w : World} {a' b' : Nat} {dk : Array UInt8} {wr : World} (h : Rd8 g tl n a b d w a' b' dk wr) (k : Nat) : Rd8 g tl n a b d w a' b' dk (wr.drewN k) :=
  h.same h.sb ((On.refl g wr).drewN k)
theorem Rd8.done {g : Nat} {tl : List Value} {n a b : Nat} {d : Array UInt8} {w : World} {a' b' : Nat} {dk d2 : Array UInt8} {wr w2 : World} (h : Rd8 g tl n a b d w a' b' dk wr) (hp : Sort.PermIn a' b' dk d2) (hs : Sort.SortedIn ltB a' b' d2) (hb : SB g tl d2 w2) (ho : On g wr w2) : PdqPost g tl d a b w (.returned (.tuple #[])) w2 :=
  ⟨d2, rfl, (h.fin d2 hp hs).1, (h.fin d2 hp hs).2, hb, h.on.trans ho⟩
theorem Rd8.eqs {g : Nat} {tl : List Value} {n a b : Nat} {d : Array UInt8} {w : World} {a' b' pv mid : Nat} {dk d4 : Array UInt8} {wr w2 : World} (h : Rd8 g tl n a b d w a' b' dk wr) (hb : b' ≤ n) (h0 : 0 < a') (h1 : a' ≤ pv) (h2 : pv < b') (hl : ltB dk[a' - 1]! dk[pv]! = false) (hx : Sort.partitionEqual ltB dk a' b' pv = (mid, d4)) (hs : SB g tl d4 w2) (ho : On g wr w2) :
    a' < mid ∧ mid ≤ b' ∧ Rd8 g tl n a b d w mid b' d4 w2 := by
  obtain ⟨r1, r2, r3, r4, r5⟩ := Sort.round_eq swo8 (Sort.partitionEqual_holds ltB) h0 h1 h2 (by rw [h.sz]; exact hb) h.bel hl hx
  exact ⟨r1, r2, r3.trans h.sz, r4, hs, h.on.trans ho, fun R hR hsR => h.fin R (r5 R hR hsR).1 (r5 R hR hsR).2⟩
theorem Rd8.parts {g : Nat} {tl : List Value} {n a b : Nat} {d : Array UInt8} {w : World} {a' b' pv mid : Nat} {ap : Bool} {dk d4 : Array UInt8} {wr w2 : World} (h : Rd8 g tl n a b d w a' b' dk wr) (hb : b' ≤ n) (h1 : a' ≤ pv) (h2 : pv < b') (hx : Sort.partition ltB dk a' b' pv = (mid, ap, d4)) (_hs : SB g tl d4 w2) (ho : On g wr w2) :
    a' ≤ mid ∧ mid < b' ∧ d4.size = n ∧ Sort.Below ltB a' mid d4 ∧ Sort.Below ltB (mid + 1) b' d4 ∧
    (∀ w3, PdqPost g tl d4 a' mid w2 (.returned (.tuple #[])) w3 → ∃ L, Rd8 g tl n a b d w (mid + 1) b' L w3) ∧
    (∀ w3, PdqPost g tl d4 (mid + 1) b' w2 (.returned (.tuple #[])) w3 → ∃ L, Rd8 g tl n a b d w a' mid L w3) := by
  obtain ⟨r1, r2, r3, r4, r5, r6, r7⟩ := Sort.round_part swo8 (Sort.partition_holds ltB) h1 h2 (by rw [h.sz]; exact hb) h.bel hx
  refine ⟨r1, r2, r3.trans h.sz, r4, r5, ?_, ?_⟩
  · rintro w3 ⟨L, _, p1, p2, p3, p4⟩
    obtain ⟨q1, q2⟩ := r6 L p1 p2
    exact ⟨L, p1.1.trans (r3.trans h.sz), q1, p3, h.on.trans (ho.trans p4), fun R hR hsR => h.fin R (q2 R hR hsR).1 (q2 R hR hsR).2⟩
  · rintro w3 ⟨L, _, p1, p2, p3, p4⟩
    obtain ⟨q1, q2⟩ := r7 L p1 p2
    exact ⟨L, p1.1.trans (r3.trans h.sz), q1, p3, h.on.trans (ho.trans p4), fun R hR hsR => h.fin R (q2 R hR hsR).1 (q2 R hR hsR).2⟩
theorem Rd8.partsP {g : Nat} {tl : List Value} {n a b : Nat} {d : Array UInt8} {w : World} {a' b' pv : Nat} {dk : Array UInt8} {wr w2 : World} {e : Ending} (h : Rd8 g tl n a b d w a' b' dk wr) (hb : b' ≤ n) (h1 : a' ≤ pv) (h2 : pv < b') (hp : PartsPost g tl dk a' b' pv wr e w2) :
    ∃ (mid : Nat) (ap : Bool) (d4 : Array UInt8), e = .returned (.tuple #[.int .i64 mid, .bool ap]) ∧ a' ≤ mid ∧ mid < b' ∧ Hid (d4.size = n) ∧ Hid (Sort.Below ltB a' mid d4) ∧ Hid (Sort.Below ltB (mid + 1) b' d4) ∧
    Hid (∀ w3, PdqPost g tl d4 a' mid w2 (.returned (.tuple #[])) w3 → ∃ L, Rd8 g tl n a b d w (mid + 1) b' L w3) ∧
    Hid (∀ w3, PdqPost g tl d4 (mid + 1) b' w2 (.returned (.tuple #[])) w3 → ∃ L, Rd8 g tl n a b d w a' mid L w3) ∧ Hid (SB g tl d4 w2) := by
  obtain ⟨mid, ap, d4, hx, he, hs, ho⟩ := hp
  obtain ⟨r1, r2, r3, r4, r5, r6, r7⟩ := h.parts hb h1 h2 hx hs ho
  exact ⟨mid, ap, d4, he, r1, r2, r3, r4, r5, r6, r7, hs⟩
theorem Rd8.ins {g : Nat} {tl : List Value} {n a b : Nat} {d : Array UInt8} {w : World} {a' b' : Nat} {dk : Array UInt8} {wr w2 : World} {e : Ending} (h : Rd8 g tl n a b d w a' b' dk wr) (hab : a' ≤ b') (hb : b' ≤ n) (hp : SPost g tl (Sort.insertionSort ltB dk a' b') wr e w2) : e = .returned (.tuple #[]) ∧ PdqPost g tl d a b w (.returned (.tuple #[])) w2 := by
  obtain ⟨rfl, hs, ho⟩ := hp
  obtain ⟨q1, q2⟩ := Sort.insertionSort_holds swo8 dk a' b' hab (by rw [h.sz]; exact hb)
  exact ⟨rfl, h.done q1 q2 hs ho⟩
theorem Rd8.heap {g : Nat} {tl : List Value} {n a b : Nat} {d : Array UInt8} {w : World} {a' b' : Nat} {dk : Array UInt8} {wr w2 : World} {e : Ending} (h : Rd8 g tl n a b d w a' b' dk wr) (hab : a' ≤ b') (hb : b' ≤ n) (hp : SPost g tl (Sort.heapSort ltB dk a' b') wr e w2) : e = .returned (.tuple #[]) ∧ PdqPost g tl d a b w (.returned (.tuple #[])) w2 := by
  obtain ⟨rfl, hs, ho⟩ := hp
  obtain ⟨q1, q2⟩ := Sort.heapSort_holds swo8 dk a' b' hab (by rw [h.sz]; exact hb)
  exact ⟨rfl, h.done q1 q2 hs ho⟩
theorem Rd8.rev {g : Nat} {tl : List Value} {n a b : Nat} {d : Array UInt8} {w : World} {a' b' : Nat} {dk : Array UInt8} {wr w2 : World} {e : Ending} (h : Rd8 g tl n a b d w a' b' dk wr) (hab : a' ≤ b') (hb : b' ≤ n) (hp : SPost g tl (Sort.reverseRange dk a' b') wr e w2) : e = .returned (.tuple #[]) ∧ ∃ d2, Rd8 g tl n a b d w a' b' d2 w2 := by
  obtain ⟨rfl, hs, ho⟩ := hp
  have q1 := Sort.reverseRange_holds dk a' b' hab (by rw [h.sz]; exact hb)
  exact ⟨rfl, _, h.step hb q1 hs ho⟩
theorem Rd8.brk {g : Nat} {tl : List Value} {n a b : Nat} {d : Array UInt8} {w : World} {a' b' : Nat} {dk : Array UInt8} {wr w2 : World} {e : Ending} (h : Rd8 g tl n a b d w a' b' dk wr) (hb : b' ≤ n) (hp : BrkPost g tl dk a' b' wr e w2) : e = .returned (.tuple #[]) ∧ ∃ d2, Rd8 g tl n a b d w a' b' d2 w2 := by
  obtain ⟨d2, rfl, hpp, hs, ho⟩ := hp
  exact ⟨rfl, _, h.step hb hpp hs ho⟩

end Go.Proofs.YtgolhfmmlanmlaaGreatDoor

/- Walks: the library's sort at bytes: round by round. -/
namespace Go.Proofs.YtgolhfmmlanmlaaGreatDoor
open Go.RowKit Pth

set_option maxRecDepth 20000 in
set_option maxHeartbeats 4000000 in
theorem pdq8 (g : Nat) (tl : List Value) (n cap : Nat) (hc : n ≤ cap) (hN : n < 50) : ∀ (N a b limit : Nat) (d : Array UInt8) (w : World), b - a < N → SB g tl d w → d.size = n → a ≤ b → b ≤ n → limit ≤ 1000 → Sort.Below ltB a b d →
    Calls Tryz.prog 172 #[.slice (some ⟨g, 0, none⟩) n cap, .int .i64 a, .int .i64 b, .int .i64 limit] w (PdqPost g tl d a b w) := by
  intro N
  induction N with
  | zero => intro _ _ _ _ _ h; exact absurd h (Nat.not_lt_zero _)
  | succ N ih =>
  have IH := Lib.hid ih
  clear ih
  intro a b limit d w hNb h hsz hab hb hlimit hBel0
  have HR0 := Lib.hid (Rd8.mk (w := w) (a := a) (b := b) (d := d) hsz hBel0 h (On.refl g w) (fun R h1 h2 => ⟨h1, h2⟩))
  clear h hsz hBel0
  go_enter Tryz.func172, Tryz.ntmps172
  go_wp2_with fail
  go_loopw [1, 2, 3, 8, 9] (fun s1 s2 s3 s8 s9 wr => ∃ (a' b' lim : Nat) (wb wp : Bool) (dk : Array UInt8), s1 = .int .i64 a' ∧ s2 = .int .i64 b' ∧ s3 = .int .i64 lim ∧ s8 = .bool wb ∧ s9 = .bool wp ∧
      a' ≤ b' ∧ b' ≤ n ∧ b' - a' ≤ b - a ∧ lim ≤ limit ∧ Hid (Rd8 g tl n a b d w a' b' dk wr)) (fun p q _ _ _ _ => (intOf q - intOf p).toNat)
  case atStart => exact ⟨a, b, limit, true, true, d, rfl, rfl, rfl, rfl, rfl, hab, hb, Nat.le_refl _, Nat.le_refl _, HR0⟩
  case round =>
    clear HR0
    obtain ⟨a', b', lim, wb, wp, dk, rfl, rfl, rfl, rfl, rfl, hab', hb', hk, hlim, HR⟩ := hrel
    by_cases h12 : b' - a' ≤ 12
    · have h12z : (b' : Int) - (a' : Int) ≤ 12 := by omega
      have HC := Lib.hid (insertion8 g tl dk n cap a' b' wr HR.out.sb HR.out.sz hc hb' (by omega) (by omega))
      go_wp2_with (go_at_call 174; refine HC.out.mono ?_; intro e w1 hp; obtain ⟨rfl, hpp⟩ := HR.out.ins hab' hb' hp)
      (try simp only [Exit.inBlock, Exit.then]); refine bodyPost_ret (results_none rfl _ _ _) rfl ?_
      exact hpp
    have h12z : ¬ ((b' : Int) - (a' : Int) ≤ 12) := by omega
    by_cases hl0 : lim = 0
    · subst hl0
      have HC := Lib.hid (heap8 g tl dk n cap a' b' wr HR.out.sb HR.out.sz hc hb' (by omega) (by omega))
      go_wp2_with (go_at_call 175; refine HC.out.mono ?_; intro e w1 hp; obtain ⟨rfl, hpp⟩ := HR.out.heap hab' hb' hp)
      (try simp only [Exit.inBlock, Exit.then]); refine bodyPost_ret (results_none rfl _ _ _) rfl ?_
      exact hpp
    have hl0z : ¬ ((lim : Int) = 0) := by omega
    go_upto_if 35 with fail
    go_cut [3] from 19 (fun s3 wx => ∃ (li : Nat) (d1 : Array UInt8), s3 = .int .i64 li ∧ li ≤ limit ∧ Hid (Rd8 g tl n a b d w a' b' d1 wx))
    case first =>
      rcases wb with _ | _
      · have HC := Lib.hid (break8 g tl dk n cap a' b' wr HR.out.sb HR.out.sz hc hb' (by omega) (by omega) (by omega))
        go_wp2_with (go_at_call 176; refine HC.out.mono ?_; intro e w1 hp; obtain ⟨rfl, d2, hp⟩ := HR.out.brk hb' hp)
        go_meet
        case rel => exact ⟨lim - 1, d2, by congr 1; omega, by omega, hp⟩
      · go_wp2_with fail
        go_meet
        case rel => exact ⟨lim, dk, rfl, hlim, HR⟩
    case rest =>
    obtain ⟨li, d1, rfl, hli, HR1⟩ := hcut
    clear HR
    have HC := Lib.hid (pivot8 g tl d1 n cap a' b' wc HR1.out.sb HR1.out.sz hc hb' (by omega) (by omega) (by omega))
    go_upto_if 50 with (go_at_call 177; refine HC.out.mono ?_; rintro e w2 ⟨p, q, hp1, hp2, hq, rfl, hs, ho⟩)
    have HR2 := Lib.hid (HR1.out.same hs ho)
    clear HR1 HC hs ho
    go_cut [11, 12] from 19 (fun s11 s12 wx => ∃ (pv q : Nat) (d2 : Array UInt8), s11 = .int .i64 pv ∧ s12 = .int .i64 q ∧ a' ≤ pv ∧ pv < b' ∧ q ≤ 2 ∧ Hid (Rd8 g tl n a b d w a' b' d2 wx))
    case first =>
      by_cases hq2 : q = 2
      · subst hq2
        have HC := Lib.hid (reverse8 g tl d1 n cap a' b' w2 HR2.out.sb HR2.out.sz hc hb' (by omega) (by omega))
        go_wp2_with (go_at_call 178; refine HC.out.mono ?_; intro e w1 hp; obtain ⟨rfl, d2, hp⟩ := HR2.out.rev hab' hb' hp)
        go_meet
        case rel => exact ⟨b' - 1 - (p - a'), 1, d2, by congr 1; omega, rfl, by omega, by omega, by omega, hp⟩
      · have hq2z : ¬ ((q : Int) = 2) := by omega
        go_wp2_with fail
        go_meet
        case rel => exact ⟨p, q, d1, rfl, rfl, hp1, hp2, hq, HR2⟩
    case rest =>
    clear HR2 hp1 hp2 hq
    obtain ⟨pv, q, d2, rfl, rfl, hp1, hp2, hq, HR3⟩ := hcut
    clear p
    go_upto_region 15 with fail
    go_cut [12, 68] from 19 (fun s12 s68 wx => s12 = .int .i64 q ∧ ∃ r : Bool, s68 = .bool r ∧ Hid (Rd8 g tl n a b d w a' b' d2 wx))
    case first =>
      by_cases hq1 : q = 1
      · subst hq1
        rcases wb with _ | _ <;> rcases wp with _ | _ <;>
          (go_wp2_with fail
           go_meet
           exact ⟨rfl, _, rfl, HR3⟩)
      · have hq1z : ¬ ((q : Int) = 1) := by omega
        rcases wb with _ | _ <;> rcases wp with _ | _ <;>
          (go_wp2_with fail
           go_meet
           exact ⟨rfl, _, rfl, HR3⟩)
    case rest =>
    clear HR3
    obtain ⟨rfl, r, rfl, HR4⟩ := hcut
    go_upto_if 68 with fail
    go_cut [] from 19 (fun wx => Hid (Rd8 g tl n a b d w a' b' d2 wx))
    case first =>
      rcases r with _ | _
      · go_wp2_with fail
        go_meet
        case rel => exact HR4
      · have HC := Lib.hid (partial8 g tl d2 n cap a' b' wc HR4.out.sb HR4.out.sz hc hb' (by omega) (by omega) (by omega))
        go_wp2_with (go_at_call 179; refine HC.out.mono ?_; rintro e w4 ⟨x, rfl, hx, hs, ho⟩; rcases x with _ | _)
        · go_meet
          exact HR4.out.same hs ho
        · (try simp only [Exit.inBlock, Exit.then]); refine bodyPost_ret (results_none rfl _ _ _) rfl ?_
          exact HR4.out.done (Sort.permIn_refl _ _ _) (hx trivial) hs ho
    case rest =>
    clear HR4
    have HR5 := Lib.hid hcut
    clear hcut
    go_upto_region 17 with fail
    go_cut [87] from 19 (fun s87 wx => ∃ t : Bool, s87 = .bool t ∧ Hid (t = true → 0 < a' ∧ ltB d2[a' - 1]! d2[pv]! = false) ∧ Hid (Rd8 g tl n a b d w a' b' d2 wx))
    case first =>
      rcases Nat.eq_zero_or_pos a' with ha0 | ha0
      · have ha0z : decide ((a' : Int) > 0) = false := decide_eq_false (by omega)
        go_wp2_with fail
        go_quiet (fail)
        go_wp2_with fail
        go_meet
        case rel => exact ⟨false, rfl, (fun h => by cases h), HR5.out.drewN _⟩
      · obtain ⟨m, rfl⟩ : ∃ m, a' = m + 1 := ⟨a' - 1, by omega⟩
        have ha0z : decide (((m : Int) + 1) > 0) = true := decide_eq_true (by omega)
        have c1 := HR5.out.sb.cell (i := m) (by rw [HR5.out.sz]; omega)
        have c0 := HR5.out.sb.cell (i := pv) (by rw [HR5.out.sz]; omega)
        obtain ⟨lb, hlb⟩ : ∃ lb, ltB d2[m]! d2[pv]! = lb := ⟨_, rfl⟩
        have HL := Lib.hid (fun W => less_q hlb W)
        have HT : Hid ((!lb) = true → 0 < m + 1 ∧ ltB d2[m + 1 - 1]! d2[pv]! = false) := fun h => ⟨by omega, by rw [show m + 1 - 1 = m by omega, hlb]; simpa using h⟩
        have hx0 : (m : Int) < (n : Int) := by omega
        have hxp : (pv : Int) < (n : Int) := by omega
        have hw1 : IntKind.i64.wrap (m : Int) = (m : Int) := IntWalk.i64_in _ (by omega)
        obtain ⟨x, hxe⟩ : ∃ x, x = d2[m]! := ⟨_, rfl⟩
        obtain ⟨y, hye⟩ : ∃ y, y = d2[pv]! := ⟨_, rfl⟩
        rw [← hxe] at c1 HL
        rw [← hye] at c0 HL
        clear hxe hye hlb
        go_wp2_with fail
        go_quiet ((go_at_call 180; exact Calls.quiet_of_same (HL.out _)))
        go_wp2_with fail
        go_meet
        case rel => exact ⟨!lb, rfl, HT, HR5.out.drewN _⟩
    case rest =>
    clear HR5
    obtain ⟨t, rfl, HT, HR6⟩ := hcut
    rcases t with _ | _
    · clear HT
      have HC := Lib.hid (partition8 g tl d2 n cap a' b' pv wc HR6.out.sb HR6.out.sz hc hb' (by omega) hp1 hp2 (by omega))
      go_upto_if 113 with (go_at_call 182; refine HC.out.mono ?_; intro e w7 hpq; obtain ⟨mid, ap, d4, rfl, r1, r2, R3, R4, R5, R6, R7, HS7⟩ := HR6.out.partsP hb' hp1 hp2 hpq; clear hpq)
      clear HC HR6
      by_cases h4 : mid - a' < b' - mid
      · have h4z : (mid : Int) - (a' : Int) < (b' : Int) - (mid : Int) := by omega
        have HC := Lib.hid (IH.out a' mid li d4 w7 (by omega) HS7.out R3.out (by omega) (by omega) (by omega) R4.out)
        go_wp2_with (go_at_call 172; refine HC.out.mono ?_; intro e w8 hp; obtain ⟨L, rfl, hpp⟩ := hp)
        obtain ⟨L', hr⟩ := R6.out w8 ⟨L, rfl, hpp⟩
        go_roundw
        case rel => exact ⟨mid + 1, b', li, _, ap, L', by go_num, rfl, rfl, rfl, rfl, by omega, hb', by omega, hli, hr⟩
        case measure => simp [intOf]; omega
      · have h4z : ¬ ((mid : Int) - (a' : Int) < (b' : Int) - (mid : Int)) := by omega
        have HC := Lib.hid (IH.out (mid + 1) b' li d4 w7 (by omega) HS7.out R3.out (by omega) (by omega) (by omega) R5.out)
        go_wp2_with (go_at_call 172; refine HC.out.mono ?_; intro e w8 hp; obtain ⟨L, rfl, hpp⟩ := hp)
        obtain ⟨L', hr⟩ := R7.out w8 ⟨L, rfl, hpp⟩
        go_roundw
        case rel => exact ⟨a', mid, li, _, ap, L', rfl, rfl, rfl, rfl, rfl, by omega, by omega, by omega, hli, hr⟩
        case measure => simp [intOf]; omega
    · have HC := Lib.hid (partEq8 g tl d2 n cap a' b' pv wc HR6.out.sb HR6.out.sz hc hb' (by omega) hp1 hp2 (by omega))
      go_wp2_with (go_at_call 181; refine HC.out.mono ?_; rintro e w7 ⟨mid, d4, hx, rfl, hs, ho⟩)
      obtain ⟨r1, r2, r3⟩ := HR6.out.eqs hb' (HT.out trivial).1 hp1 hp2 (HT.out trivial).2 hx hs ho
      go_roundw
      case rel => exact ⟨mid, b', li, wb, wp, d4, rfl, rfl, rfl, rfl, rfl, r2, hb', by omega, hli, r3⟩
      case measure => simp [intOf]; omega

end Go.Proofs.YtgolhfmmlanmlaaGreatDoor

/- Walks: the library's slices.Sort at bytes. -/
namespace Go.Proofs.YtgolhfmmlanmlaaGreatDoor
open Go.RowKit Pth

theorem sorted_T {d d' : Array UInt8} {n : Nat} (hn : d.size = n) (hp : Sort.PermIn 0 n d d') (hs : Sort.SortedIn ltB 0 n d') : d'.toList = sortT d.toList := by
  subst hn
  obtain ⟨hz, _, hperm⟩ := hp
  have e1 : d'.extract 0 d.size = d' := by rw [← hz]; exact Array.extract_size
  rw [e1, Array.extract_size] at hperm
  refine sortT_is hperm ?_
  rw [Sorted8, List.pairwise_iff_getElem]
  intro i j hi hj hij
  have h1 := hs i j (Nat.zero_le _) hij (by rw [← hz]; simpa using hj)
  have hi' : i < d'.size := by simpa using hi
  have hj' : j < d'.size := by simpa using hj
  simp only [getElem!_pos, hi', hj'] at h1
  simp only [ltB, decide_eq_false_iff_not, Nat.not_lt] at h1
  simpa [UInt8.le_iff_toNat_le] using h1
theorem len_small {n : Nat} (h : n < 50) : Lib.bitLen n ≤ 1000 := Nat.le_trans (Lib.bitLen_le8 ⟨n, by omega⟩) (by omega)
/-- The block holds the bytes in order. -/
def SortPost (g : Nat) (tl : List Value) (l : List UInt8) (w : World) (e : Ending) (w' : World) : Prop := e = .returned (.tuple #[]) ∧ SB g tl (sortT l).toArray w' ∧ On g w w'

set_option maxRecDepth 20000 in
set_option maxHeartbeats 1000000 in
theorem sort8 (g : Nat) (tl : List Value) (d : Array UInt8) (n cap : Nat) (w : World) (h : SB g tl d w) (hn : d.size = n) (hc : n ≤ cap) (hN : n < 50) :
    Calls Tryz.prog 170 #[.slice (some ⟨g, 0, none⟩) n cap] w (SortPost g tl d.toList w) := by
  have HC := Lib.hid (Tryz.bits_Len (n : Int) w (by omega) (by omega))
  have HB := Lib.hid (len_small hN)
  have HP := Lib.hid (fun li (hl : li ≤ 1000) => pdq8 g tl n cap hc hN (n + 1) 0 n li d w (by omega) h hn (Nat.zero_le _) (Nat.le_refl _) hl (.inl rfl))
  have HZ := Lib.hid hn
  clear h hn
  go_enter Tryz.func170, Tryz.ntmps170
  go_wp2_with fail
  refine HC.out.mono ?_
  rintro e w' ⟨rfl, rfl⟩
  have HPP := Lib.hid (HP.out _ HB.out)
  go_wp2_with fail
  refine HPP.out.mono ?_
  rintro e w' ⟨d', rfl, hp, hs, hb, ho⟩
  have hq := sorted_T HZ.out hp hs
  clear hp hs
  go_wp2_with fail
  (try simp only [Exit.inBlock, Exit.then]); refine bodyPost_ret (results_none rfl _ _ _) rfl ?_
  exact ⟨rfl, by rw [← hq]; exact hb, ho⟩

end Go.Proofs.YtgolhfmmlanmlaaGreatDoor

/- Walks: texts as bytes and back: the program's sortBytes. -/
namespace Go.Proofs.YtgolhfmmlanmlaaGreatDoor
open Go.RowKit Pth

theorem to_bytes (l : List UInt8) (w : World) : ∃ (cap : Nat) (tl : List Value) (w1 : World), (convert 9 130 (.string ⟨l.toArray⟩)).run Tryz.prog w = .ok (.slice (some ⟨w.heap.size, 0, none⟩) l.length cap) w1 ∧ l.length ≤ cap ∧ SB w.heap.size tl l.toArray w1 ∧ Below w.heap.size w w1 ∧ w1.heap.size = w.heap.size + 1 := by
  refine ⟨grownCap w l.length 0 5, (Array.replicate (grownCap w l.length 0 5 - l.length) (Value.int .u8 0)).toList, _, run_bytes_of_string (P := Tryz.prog) w 9 130 5 ⟨l.toArray⟩ Tryz.underlying9 Tryz.underlying130 Tryz.underlying5, grownCap_ge _ _ _ _, ?_, ?_, ?_⟩
  · have e : ((⟨l.toArray⟩ : ByteArray)).size = l.length := by simp [ByteArray.size]
    unfold SB
    rw [e]
    show (w.heap.push _)[w.heap.size]? = _
    rw [Array.getElem?_push_size]
    simp only [bytesRow, e]
    congr 2
    · apply Array.ext'
      simp [enc8]
    · simp
  · exact ⟨rfl, rfl, rfl, by (show w.heap.size ≤ (w.heap.push _).size; rw [Array.size_push]; omega), fun k hk => Below.heap_alloc w _ k hk⟩
  · exact Array.size_push _
theorem of_bytes {g : Nat} {tl : List Value} {d : Array UInt8} {w : World} (h : SB g tl d w) {n : Nat} (hn : d.size = n) (cap : Nat) : (convert 130 9 (.slice (some ⟨g, 0, none⟩) n cap)).run Tryz.prog w = .ok (.string ⟨d.toList.toArray⟩) w := by
  subst hn
  have := run_convert_bytes_back (P := Tryz.prog) w 130 9 5 ⟨g, 0, none⟩ cap d.toList Tryz.underlying130 Tryz.underlying5 Tryz.underlying9 (fun j hj => by
    have := h.cell (i := j) (by simpa using hj)
    have hj' : j < d.size := by simpa using hj
    simp only [getElem!_pos, hj'] at this
    have e : (⟨g, 0, none⟩ : Addr).add j = ⟨g, j, none⟩ := by
      by_cases h0 : j = 0
      · subst h0; rfl
      · simp [Addr.add, h0]
    rw [e, this]; simp)
  simpa using this
theorem below_on {w w1 w2 : World} (h : Below w.heap.size w w1) (k : On w.heap.size w1 w2) : Below w.heap.size w w2 :=
  ⟨k.os.trans h.os, k.tape.trans h.tape, k.output.trans h.output, Nat.le_trans h.size k.size, fun i hi => (k.block i (Nat.lt_of_lt_of_le hi h.size) (by simp; omega)).trans (h.block i hi)⟩
/-- This text is handed back, and only new memory is written. -/
def TextPost (t : List UInt8) (w : World) (e : Ending) (w' : World) : Prop := e = .returned (.string ⟨t.toArray⟩) ∧ Below w.heap.size w w'

set_option maxRecDepth 20000 in
set_option maxHeartbeats 1000000 in
theorem sortBytes_any (l : List UInt8) (w : World) (hl : l.length < 50) : Calls Tryz.prog 168 #[.string ⟨l.toArray⟩] w (TextPost (sortT l) w) := by
  obtain ⟨cap, tl, w1, K1, hc, hs, hb, hz⟩ := to_bytes l w
  have HC := Lib.hid (sort8 w.heap.size tl l.toArray l.length cap w1 hs (by simp) hc hl)
  have HB := Lib.hid hb
  clear hs hb
  go_enter Tryz.func168, Tryz.ntmps168
  go_wp2_with fail
  refine HC.out.mono ?_
  rintro e w2 ⟨rfl, hs2, ho⟩
  have K2 := of_bytes hs2 (n := l.length) (by simp [sortT_len]) cap
  have HO := Lib.hid ho
  clear ho hs2
  go_wp2_with fail
  go_ret
  exact ⟨by simp, below_on HB.out HO.out⟩

end Go.Proofs.YtgolhfmmlanmlaaGreatDoor

/- Walks: letters made great. -/
namespace Go.Proofs.YtgolhfmmlanmlaaGreatDoor
open Go.RowKit Pth

/-- The first k letters are great. -/
def upAt (l : List UInt8) (k : Nat) : Array UInt8 := (upT (l.take k) ++ l.drop k).toArray
theorem upAt_size (l : List UInt8) (k : Nat) : (upAt l k).size = l.length := by
  simp [upAt, upT]; omega
theorem upAt_zero (l : List UInt8) : upAt l 0 = l.toArray := by simp [upAt, upT]
theorem upAt_all (l : List UInt8) : (upAt l l.length).toList = upT l := by simp [upAt]
theorem upAt_get {l : List UInt8} {k : Nat} (h : k < l.length) : (upAt l k)[k]! = l[k] := by
  have hk : k < (upAt l k).size := by rw [upAt_size]; exact h
  rw [getElem!_pos (upAt l k) k hk]
  simp [upAt, upT, List.getElem_append_right, Nat.min_eq_left (Nat.le_of_lt h)]
theorem upAt_step {l : List UInt8} {k : Nat} (h : k < l.length) : upAt l (k + 1) = (upAt l k).setIfInBounds k (upB l[k]) := by
  apply Array.ext'
  have hlen : (upT (List.take k l)).length = k := by simp [upT]; omega
  simp only [upAt, Array.toList_setIfInBounds, List.set_append]
  rw [if_neg (by rw [hlen]; omega), hlen, Nat.sub_self, List.drop_eq_getElem_cons h]
  simp only [List.set_cons_zero]
  rw [List.take_add_one, List.getElem?_eq_getElem h]
  simp only [upT, List.map_append, Option.toList_some, List.map_cons, List.map_nil, List.append_assoc, List.cons_append, List.nil_append]
theorem upAt_same {l : List UInt8} {k : Nat} (h : k < l.length) (hu : upB l[k] = l[k]) : upAt l (k + 1) = upAt l k := by
  rw [upAt_step h, hu]
  apply Array.ext
  · simp
  · intro i h1 h2
    by_cases e : k = i
    · subst e
      have := upAt_get h
      rw [getElem!_pos (upAt l k) k h2] at this
      simp [this]
    · rw [Array.getElem_setIfInBounds]
      rw [if_neg e]

theorem up_letter {x : UInt8} (h1 : 97 ≤ x.toNat) (h2 : x.toNat ≤ 122) : ((upB x).toNat : Int) = (x.toNat : Int) - 32 := by
  rw [upB, if_pos ⟨h1, h2⟩, UInt8.toNat_sub_of_le _ _ (by rw [UInt8.le_iff_toNat_le]; show 32 ≤ x.toNat; omega)]
  show ((x.toNat - 32 : Nat) : Int) = _
  omega
theorem up_other {x : UInt8} (h : ¬ (97 ≤ x.toNat ∧ x.toNat ≤ 122)) : upB x = x := if_neg h

set_option maxRecDepth 20000 in
set_option maxHeartbeats 2000000 in
theorem upperS_any (l : List UInt8) (w : World) (hl : l.length < 50) : Calls Tryz.prog 131 #[.string ⟨l.toArray⟩] w (TextPost (upT l) w) := by
  obtain ⟨cap, tl, w1, K1, hc, hs, hb, hz⟩ := to_bytes l w
  have HB := Lib.hid hb
  have HS0 : Hid (SB w.heap.size tl (upAt l 0) w1) := by rw [upAt_zero]; exact hs
  clear hs hb
  go_enter Tryz.func131, Tryz.ntmps131
  go_wp2_with fail
  go_loopw [10] (fun p wr => ∃ i : Nat, i ≤ l.length ∧ p = .int .i64 i ∧ Hid (SB w.heap.size tl (upAt l i) wr) ∧ Hid (On w.heap.size w1 wr)) (fun p _ => l.length - (intOf p).toNat)
  case atStart => exact ⟨0, Nat.zero_le _, by go_num, HS0, On.refl _ _⟩
  case round =>
    clear HS0
    obtain ⟨i, hi, rfl, HS, HO⟩ := hrel
    by_cases hlt : i < l.length
    · have hltz : (i : Int) < (l.length : Int) := by omega
      have c1 := HS.out.cell (i := i) (by rw [upAt_size]; exact hlt)
      have f1 := HS.out.frozen i (by rw [upAt_size]; exact hlt)
      rw [upAt_get hlt] at c1
      have HU := Lib.hid (fun x (_ : x = l[i]) => HS.out.set (i := i) (by rw [upAt_size]; exact hlt) (upB x))
      have HE : Hid (∀ x, x = l[i] → upAt l (i + 1) = (upAt l i).setIfInBounds i (upB x)) := fun x e => by rw [e]; exact upAt_step hlt
      have HF : Hid (∀ x, x = l[i] → upB x = x → upAt l (i + 1) = upAt l i) := fun x e h => upAt_same hlt (by rw [← e]; exact h)
      obtain ⟨x, hx⟩ : ∃ x, x = l[i] := ⟨_, rfl⟩
      rw [← hx] at c1
      have HX := Lib.hid hx
      clear hx
      have hx8 : x.toNat < 256 := x.toNat_lt
      by_cases hA : 97 ≤ x.toNat
      · have hAz : (97 : Int) ≤ (x.toNat : Int) := by omega
        by_cases hB : x.toNat ≤ 122
        · have hBz : (x.toNat : Int) ≤ 122 := by omega
          have hU := HU.out x HX.out
          rw [up_letter hA hB] at hU
          have HU2 : Hid (SB w.heap.size tl (upAt l (i + 1)) (wr.setCell ⟨w.heap.size, i, none⟩ (.int .u8 ((x.toNat : Int) - 32)))) := by rw [HE.out x HX.out]; exact hU
          clear hU
          go_wp2_with fail
          go_roundw
          case rel => exact ⟨i + 1, by omega, by go_num, HU2.out, HO.out.set _ _⟩
          case measure => simp [intOf]; omega
        · have hBz : ¬ ((x.toNat : Int) ≤ 122) := by omega
          have HS2 : Hid (SB w.heap.size tl (upAt l (i + 1)) wr) := by rw [HF.out x HX.out (up_other (by omega))]; exact HS.out
          go_wp2_with fail
          go_roundw
          case rel => exact ⟨i + 1, by omega, by go_num, HS2, HO⟩
          case measure => simp [intOf]; omega
      · have hAz : ¬ ((97 : Int) ≤ (x.toNat : Int)) := by omega
        have HS2 : Hid (SB w.heap.size tl (upAt l (i + 1)) wr) := by rw [HF.out x HX.out (up_other (by omega))]; exact HS.out
        go_wp2_with fail
        go_roundw
        case rel => exact ⟨i + 1, by omega, by go_num, HS2, HO⟩
        case measure => simp [intOf]; omega
    · have hltz : ¬ ((i : Int) < (l.length : Int)) := by omega
      have K2 := of_bytes HS.out (n := l.length) (upAt_size _ _) cap
      rw [show i = l.length by omega, upAt_all] at K2
      go_wp2_with fail
      go_ret
      exact ⟨by simp, below_on HB.out HO.out⟩

set_option maxRecDepth 20000 in
set_option maxHeartbeats 2000000 in
theorem upper_any (l : List UInt8) (w : World) (hl : l.length < 50) : Calls Tryz.prog 167 #[.string ⟨l.toArray⟩] w (TextPost (upT l) w) := by
  obtain ⟨cap, tl, w1, K1, hc, hs, hb, hz⟩ := to_bytes l w
  have HB := Lib.hid hb
  have HS0 : Hid (SB w.heap.size tl (upAt l 0) w1) := by rw [upAt_zero]; exact hs
  clear hs hb
  go_enter Tryz.func167, Tryz.ntmps167
  go_wp2_with fail
  go_loopw [10] (fun p wr => ∃ i : Nat, i ≤ l.length ∧ p = .int .i64 i ∧ Hid (SB w.heap.size tl (upAt l i) wr) ∧ Hid (On w.heap.size w1 wr)) (fun p _ => l.length - (intOf p).toNat)
  case atStart => exact ⟨0, Nat.zero_le _, by go_num, HS0, On.refl _ _⟩
  case round =>
    clear HS0
    obtain ⟨i, hi, rfl, HS, HO⟩ := hrel
    by_cases hlt : i < l.length
    · have hltz : (i : Int) < (l.length : Int) := by omega
      have c1 := HS.out.cell (i := i) (by rw [upAt_size]; exact hlt)
      have f1 := HS.out.frozen i (by rw [upAt_size]; exact hlt)
      rw [upAt_get hlt] at c1
      have HU := Lib.hid (fun x (_ : x = l[i]) => HS.out.set (i := i) (by rw [upAt_size]; exact hlt) (upB x))
      have HE : Hid (∀ x, x = l[i] → upAt l (i + 1) = (upAt l i).setIfInBounds i (upB x)) := fun x e => by rw [e]; exact upAt_step hlt
      have HF : Hid (∀ x, x = l[i] → upB x = x → upAt l (i + 1) = upAt l i) := fun x e h => upAt_same hlt (by rw [← e]; exact h)
      obtain ⟨x, hx⟩ : ∃ x, x = l[i] := ⟨_, rfl⟩
      rw [← hx] at c1
      have HX := Lib.hid hx
      clear hx
      have hx8 : x.toNat < 256 := x.toNat_lt
      by_cases hA : 97 ≤ x.toNat
      · have hAz : (97 : Int) ≤ (x.toNat : Int) := by omega
        by_cases hB : x.toNat ≤ 122
        · have hBz : (x.toNat : Int) ≤ 122 := by omega
          have hU := HU.out x HX.out
          rw [up_letter hA hB] at hU
          have HU2 : Hid (SB w.heap.size tl (upAt l (i + 1)) (wr.setCell ⟨w.heap.size, i, none⟩ (.int .u8 ((x.toNat : Int) - 32)))) := by rw [HE.out x HX.out]; exact hU
          clear hU
          go_wp2_with fail
          go_roundw
          case rel => exact ⟨i + 1, by omega, by go_num, (by have := HU2.out; first | exact this | (rw [show (x.toNat : Int) - 32 = (x.toNat : Int) - 97 + 65 by omega] at this; exact this)), HO.out.set _ _⟩
          case measure => simp [intOf]; omega
        · have hBz : ¬ ((x.toNat : Int) ≤ 122) := by omega
          have HS2 : Hid (SB w.heap.size tl (upAt l (i + 1)) wr) := by rw [HF.out x HX.out (up_other (by omega))]; exact HS.out
          go_wp2_with fail
          go_roundw
          case rel => exact ⟨i + 1, by omega, by go_num, HS2, HO⟩
          case measure => simp [intOf]; omega
      · have hAz : ¬ ((97 : Int) ≤ (x.toNat : Int)) := by omega
        have HS2 : Hid (SB w.heap.size tl (upAt l (i + 1)) wr) := by rw [HF.out x HX.out (up_other (by omega))]; exact HS.out
        go_wp2_with fail
        go_roundw
        case rel => exact ⟨i + 1, by omega, by go_num, HS2, HO⟩
        case measure => simp [intOf]; omega
    · have hltz : ¬ ((i : Int) < (l.length : Int)) := by omega
      have K2 := of_bytes HS.out (n := l.length) (upAt_size _ _) cap
      rw [show i = l.length by omega, upAt_all] at K2
      go_wp2_with fail
      go_ret
      exact ⟨by simp, below_on HB.out HO.out⟩

end Go.Proofs.YtgolhfmmlanmlaaGreatDoor

/- Walks: the reference's sort of a text's bytes. -/
namespace Go.Proofs.YtgolhfmmlanmlaaGreatDoor
open Go.RowKit Pth

theorem ins_zero (n : Nat) (d : Array UInt8) : Sort.insOuter ltB 0 n 0 d = Sort.insertionSort ltB d 0 n := by
  by_cases h : 0 < n
  · rw [insOuter_go h, insInner_low (Nat.le_refl _)]; rfl
  · rw [insOuter_stop h]
    show d = Sort.insOuter ltB 0 n (0 + 1) d
    rw [insOuter_stop (by omega)]
theorem ins_sortT {l : List UInt8} {c : Array UInt8} (h : Sort.insOuter ltB 0 l.length 0 l.toArray = c) : c.toList = sortT l := by
  rw [ins_zero] at h
  obtain ⟨q1, q2⟩ := Sort.insertionSort_holds swo8 l.toArray 0 l.length (Nat.zero_le _) (by simp)
  rw [h] at q1 q2
  simpa using sorted_T (d := l.toArray) (n := l.length) (by simp) q1 q2

set_option maxRecDepth 20000 in
set_option maxHeartbeats 4000000 in
theorem sortS_any (l : List UInt8) (w : World) (hl : l.length < 50) : Calls Tryz.prog 132 #[.string ⟨l.toArray⟩] w (TextPost (sortT l) w) := by
  obtain ⟨cap, tl, w1, K1, hc, hs, hb, hz⟩ := to_bytes l w
  obtain ⟨n, hn⟩ : ∃ n, n = l.length := ⟨_, rfl⟩
  have HB := Lib.hid hb
  have HS := Lib.hid hs
  have HZ := Lib.hid (show l.toArray.size = n by simp [hn])
  obtain ⟨g, hg⟩ : ∃ g, g = w.heap.size := ⟨_, rfl⟩
  rw [← hg] at HS K1
  rw [← hn] at K1 hl
  have HN := Lib.hid hn
  have HG := Lib.hid hg
  clear hs hb hn hg
  go_enter Tryz.func132, Tryz.ntmps132
  go_wp2_with fail
  go_loopw [11] (fun q wr => ∃ (i : Nat) (d : Array UInt8), i ≤ n ∧ q = .int .i64 i ∧ Hid (SB g tl d wr) ∧ Hid (On g w1 wr) ∧ Hid (d.size = n) ∧ Hid (Sort.insOuter ltB 0 n 0 l.toArray = Sort.insOuter ltB 0 n i d)) (fun q _ => n - (intOf q).toNat)
  case atStart => exact ⟨0, l.toArray, Nat.zero_le _, by go_num, HS, On.refl _ _, HZ, rfl⟩
  case round =>
    clear HS HZ
    obtain ⟨i, d, hi, rfl, HS, HO, HZ, HE⟩ := hrel
    by_cases hlt : i < n
    · have HE1 := Lib.hid (HE.out.trans (insOuter_go hlt))
      have hltz : (i : Int) < (n : Int) := by omega
      clear HE
      go_wp2_with fail
      go_loopw [5] (fun q wq => ∃ (j : Nat) (c : Array UInt8), j ≤ i ∧ q = .int .i64 j ∧ Hid (SB g tl c wq) ∧ Hid (On g w1 wq) ∧ Hid (c.size = n) ∧ Hid (Sort.insInner ltB 0 i d = Sort.insInner ltB 0 j c)) (fun q _ => (intOf q).toNat)
      case atStart => exact ⟨i, d, Nat.le_refl _, rfl, HS, HO, HZ, rfl⟩
      case round =>
        clear HS HO HZ
        obtain ⟨j, c, hj, rfl, HS, HO, HZ, HF⟩ := hrel
        by_cases hja : 0 < j
        · obtain ⟨m, rfl⟩ : ∃ m, j = m + 1 := ⟨j - 1, by omega⟩
          have hg1 : decide ((0 : Int) < (m : Int) + 1) = true := decide_eq_true (by omega)
          have c1 := HS.out.cell (i := m + 1) (by rw [HZ.out]; omega)
          have c0 := HS.out.cell (i := m) (by rw [HZ.out]; omega)
          have hx1 : (m : Int) + 1 < (n : Int) := by omega
          have hx0 : (m : Int) < (n : Int) := by omega
          have hx2 : (0 : Int) ≤ (m : Int) + 1 := by omega
          have hn1 : ((m : Int) + 1).toNat = m + 1 := by omega
          have hw1 : IntKind.i64.wrap (m : Int) = (m : Int) := IntWalk.i64_in _ (by omega)
          by_cases hlb : ltB c[m + 1]! c[m]! = true
          · have HF1 := Lib.hid (HF.out.trans (insInner_go hja hlb))
            have HS1 := Lib.hid (HS.out.swap (i := m + 1) (j := m) (by rw [HZ.out]; omega) (by rw [HZ.out]; omega))
            have HZ1 : Hid ((Sort.swp c (m + 1) m).size = n) := (swp_sz _ _ _).trans HZ.out
            have f1 := HS.out.frozen (m + 1) (by rw [HZ.out]; omega)
            have f0 := HS.out.frozen m (by rw [HZ.out]; omega)
            have hq : (c[m + 1]!.toNat : Int) < (c[m]!.toNat : Int) := by simp only [ltB, decide_eq_true_eq] at hlb; omega
            generalize Sort.swp c (m + 1) m = c' at HS1 HF1 HZ1
            clear HF hlb
            generalize c[m + 1]! = x at c1 hq HS1
            generalize c[m]! = y at c0 hq HS1
            go_wp2_with fail
            go_quiet (fail)
            go_wp2_with fail
            go_roundw
            case rel => exact ⟨m, c', by omega, by go_num, HS1.out, (HO.out.drewN _).swap _ _ _ _, HZ1, HF1⟩
            case measure => simp [intOf]
          · have HF1 := Lib.hid (HF.out.trans (insInner_stop (by simpa using hlb)))
            have hq : ¬ ((c[m + 1]!.toNat : Int) < (c[m]!.toNat : Int)) := by simp only [ltB, decide_eq_true_eq] at hlb; omega
            clear HF hlb
            generalize c[m + 1]! = x at c1 hq
            generalize c[m]! = y at c0 hq
            go_wp2_with fail
            go_quiet (fail)
            go_wp2_with fail
            go_roundw
            case rel => exact ⟨i + 1, c, by omega, by go_num, HS.out.drewN _, HO.out.drewN _, HZ, by rw [HE1.out, HF1.out]; rfl⟩
            case measure => simp [intOf]; omega
        · have hg1 : decide ((0 : Int) < (j : Int)) = false := decide_eq_false (by omega)
          have HF1 := Lib.hid (HF.out.trans (insInner_low (by omega)))
          clear HF
          go_wp2_with fail
          go_quiet (fail)
          go_wp2_with fail
          go_roundw
          case rel => exact ⟨i + 1, c, by omega, by go_num, HS.out.drewN _, HO.out.drewN _, HZ, by rw [HE1.out, HF1.out]; rfl⟩
          case measure => simp [intOf]; omega
    · have hltz : ¬ ((i : Int) < (n : Int)) := by omega
      have HE1 := Lib.hid (HE.out.trans (insOuter_stop hlt))
      clear HE
      have K2 := of_bytes HS.out (n := n) HZ.out cap
      have hq : d.toList = sortT l := ins_sortT (by rw [← HN.out]; exact HE1.out)
      rw [hq] at K2
      clear hq
      go_wp2_with fail
      go_ret
      exact ⟨by simp, below_on HB.out (by rw [← HG.out]; exact HO.out)⟩

end Go.Proofs.YtgolhfmmlanmlaaGreatDoor

/- Walks: numbers as text, the lesser of two, texts that are too long. -/
namespace Go.Proofs.YtgolhfmmlanmlaaGreatDoor
open Go.RowKit Pth

theorem least_any (a b : Nat) (w : World) (_ha : a ≤ 1000) (_hb : b ≤ 1000) : Calls Tryz.prog 133 #[.int .i64 a, .int .i64 b] w fun e w' => e = .returned (.int .i64 ((min a b : Nat) : Int)) ∧ w' = w := by
  by_cases h : a < b
  · have hz : (a : Int) < (b : Int) := by omega
    go_enter Tryz.func133, Tryz.ntmps133
    go_wp2
    go_ret
    exact ⟨by rw [Nat.min_eq_left (Nat.le_of_lt h)]; rfl, rfl⟩
  · have hz : ¬ ((a : Int) < (b : Int)) := by omega
    go_enter Tryz.func133, Tryz.ntmps133
    go_wp2
    go_ret
    exact ⟨by rw [Nat.min_eq_right (by omega)]; rfl, rfl⟩
theorem long_any (l : List UInt8) (w : World) (_hl : l.length ≤ maxLen) : Calls Tryz.prog 82 #[.string ⟨l.toArray⟩] w fun e w' => e = .returned (.bool (decide (40 < l.length))) ∧ w' = w := by
  go_enter Tryz.func82, Tryz.ntmps82
  go_wp2
  go_ret
  refine ⟨?_, rfl⟩
  congr 2
  simp
  omega
theorem clone_text (l : List UInt8) (w : World) (hl : l.length ≤ 1000) : Calls Tryz.prog 116 #[.string ⟨l.toArray⟩] w (TextPost l w) := by
  have HC := Lib.hid (Tryz.stringslite_Clone ⟨l.toArray⟩ w (by simp [ByteArray.size]; omega))
  go_enter Tryz.func116, Tryz.ntmps116
  go_wp2_with fail
  refine HC.out.mono ?_
  rintro e w' ⟨rfl, hb⟩
  go_wp2_with fail
  go_ret
  exact ⟨rfl, hb⟩
theorem dig_num : ∀ n : Fin 100, Lib.decDigits n.val = numT n.val := by decide +kernel
theorem itoa_any (n : Nat) (w : World) (hn : n < 100) : Calls Tryz.prog 169 #[.int .i64 n] w fun e w' => e = .returned (.string ⟨(numT n).toArray⟩) ∧ w' = w := by
  rw [← dig_num ⟨n, hn⟩]
  exact Tryz.strconv_Itoa_small n hn w
theorem dig_to {n : Nat} (h : n < 10) : ((digB n).toNat : Int) = 48 + n := by
  simp only [digB, UInt8.toNat_ofNat']
  omega
set_option maxHeartbeats 1000000 in
theorem num_low (n : Nat) (N : Int) (hN : N = n) (w : World) (hn : n < 10) : Calls Tryz.prog 134 #[.int .i64 N] w (TextPost (numT n) w) := by
  have hz : N < 10 := by omega
  have h0 : 0 ≤ N := by omega
  have hc := run_one_byte (digB n) w
  rw [dig_to hn, ← hN] at hc
  have HT := Lib.hid (show numT n = [digB n] from if_pos hn)
  clear hN
  go_enter Tryz.func134, Tryz.ntmps134
  go_wp2_with fail
  go_ret
  exact ⟨by rw [HT.out]; rfl, (Below.refl _ _).alloc (Nat.le_refl _) _⟩

end Go.Proofs.YtgolhfmmlanmlaaGreatDoor

/- Walks: numbers of two digits as text. -/
namespace Go.Proofs.YtgolhfmmlanmlaaGreatDoor
open Go.RowKit Pth

theorem of_one (c : UInt8) (w : World) (g : Nat) (h : w.cell? ⟨g, 0, none⟩ = some (.int .u8 (c.toNat : Int))) : (convert 130 9 (.slice (some ⟨g, 0, none⟩) 1 1)).run Tryz.prog w = .ok (.string ⟨#[c]⟩) w :=
  run_convert_bytes_back _ 130 9 5 ⟨g, 0, none⟩ 1 [c] Tryz.underlying130 Tryz.underlying5 Tryz.underlying9 (fun j hj => by
    have hj0 : j = 0 := by simp at hj; omega
    subst hj0
    exact h)
theorem cell_up {w w' : World} {r : Nat} (hb0 : Below (w.alloc (.cells #[.int .u8 (48 + (r : Int))] 5)).drew.heap.size (w.alloc (.cells #[.int .u8 (48 + (r : Int))] 5)).drew w') (hr : r < 10) : (convert 130 9 (.slice (some ⟨w.heap.size, 0, none⟩) 1 1)).run Tryz.prog w' = .ok (.string ⟨#[digB r]⟩) w' ∧ Below w.heap.size w w' := by
  have hb : Below (w.alloc (.cells #[.int .u8 (48 + (r : Int))] 5)).heap.size (w.alloc (.cells #[.int .u8 (48 + (r : Int))] 5)) w' := ⟨hb0.os, hb0.tape, hb0.output, hb0.size, hb0.block⟩
  refine ⟨of_one _ _ _ ?_, ?_⟩
  · rw [hb.cell (by simp), dig_to hr]
    exact one_new w _ _ 0 _ rfl
  · exact ⟨hb.os, hb.tape, hb.output, Nat.le_trans (by simp) hb.size, fun k hk => (hb.block k (by simp; omega)).trans (Below.heap_alloc w _ k hk)⟩
theorem cell_up2 {W w' : World} {g r : Nat} (hb : Below W.heap.size W w') (hr : r < 10) (hk : W.cell? ⟨g, 0, none⟩ = some (.int .u8 (48 + (r : Int)))) (hg : g < W.heap.size) : (convert 130 9 (.slice (some ⟨g, 0, none⟩) 1 1)).run Tryz.prog w' = .ok (.string ⟨#[digB r]⟩) w' :=
  of_one _ _ _ (by rw [hb.cell hg, hk, dig_to hr])
set_option maxRecDepth 20000 in
set_option maxHeartbeats 4000000 in
theorem num_two (n : Nat) (w : World) (h1 : 10 ≤ n) (h2 : n < 100) : Calls Tryz.prog 134 #[.int .i64 n] w (TextPost (numT n) w) := by
  have HC : Hid (∀ W, Calls Tryz.prog 134 #[.int .i64 ((n / 10 : Nat) : Int)] W (TextPost [digB (n / 10)] W)) := fun W => by
    have := num_low (n / 10) _ rfl W (by omega)
    rwa [show numT (n / 10) = [digB (n / 10)] from if_pos (by omega)] at this
  have hz : ¬ ((n : Int) < 10) := by omega
  have ht : Int.tdiv (n : Int) 10 = ((n / 10 : Nat) : Int) := (Int.ofNat_tdiv n 10).symm
  have hm : Int.tmod (n : Int) 10 = ((n % 10 : Nat) : Int) := (Int.ofNat_tmod n 10).symm
  have hc := fun W => run_one_byte (digB (n % 10)) W
  have hd := fun (W : World) => of_one (digB (n % 10)) (W.alloc (.cells #[.int .u8 ((digB (n % 10)).toNat : Int)] 5)).drew W.heap.size (one_new W _ _ 0 _ rfl)
  rw [dig_to (show n % 10 < 10 by omega)] at hd
  rw [dig_to (show n % 10 < 10 by omega)] at hc
  have HT : Hid (numT n = [digB (n / 10), digB (n % 10)]) := by
    show numT n = _
    unfold numT; rw [if_neg (by omega)]
  have hq : n / 10 < 10 := by omega
  have hr : n % 10 < 10 := by omega
  have w1 : IntKind.i64.wrap ((n / 10 : Nat) : Int) = ((n / 10 : Nat) : Int) := IntWalk.i64_in _ (by omega)
  have w2 : IntKind.i64.wrap ((n % 10 : Nat) : Int) = ((n % 10 : Nat) : Int) := IntWalk.i64_in _ (by omega)
  have w3 : IntKind.i64.wrap (48 + ((n % 10 : Nat) : Int)) = 48 + ((n % 10 : Nat) : Int) := IntWalk.i64_in _ (by omega)
  have w4 : IntKind.u8.wrap (48 + ((n % 10 : Nat) : Int)) = 48 + ((n % 10 : Nat) : Int) := by
    rw [IntWalk.u8_in _ (by omega)]
  obtain ⟨q, hq'⟩ : ∃ q, q = n / 10 := ⟨_, rfl⟩
  obtain ⟨r, hr'⟩ : ∃ r, r = n % 10 := ⟨_, rfl⟩
  rw [← hq'] at ht HC HT hq w1
  rw [← hr'] at hm hc hd HT hr w2 w3 w4
  clear hq' hr'
  go_enter Tryz.func134, Tryz.ntmps134
  go_wp2_with fail
  go_region_with (go_at_call 134; refine (HC.out _).mono ?_; rintro e w' ⟨rfl, hb⟩; first | (obtain ⟨ka, kb⟩ := cell_up hb hr; clear hb) | (have kb := hb; clear hb))
  all_goals
    have hB : Below w.heap.size w w' := ⟨kb.os, kb.tape, kb.output, kb.size, kb.block⟩
    go_wp2_with fail
    go_ret
    refine ⟨by rw [HT.out]; rfl, ?_⟩
    first | exact hB | exact hB.alloc (by have := hB.size; omega) _ | exact ⟨hB.os, hB.tape, hB.output, hB.size, hB.block⟩

theorem num_any (n : Nat) (w : World) (h : n < 100) : Calls Tryz.prog 134 #[.int .i64 n] w (TextPost (numT n) w) := by
  by_cases h1 : n < 10
  · exact num_low n _ rfl w h1
  · exact num_two n w (by omega) h

end Go.Proofs.YtgolhfmmlanmlaaGreatDoor

/- Walks: whether texts are short enough. -/
namespace Go.Proofs.YtgolhfmmlanmlaaGreatDoor
open Go.RowKit Pth

theorem all_long {l : List (List UInt8)} {k : Nat} (h : k < l.length) (hx : 40 < l[k].length) : l.all (fun x => decide (x.length ≤ 40)) = false := by
  rw [List.all_eq_false]
  exact ⟨l[k], List.getElem_mem h, by simp; omega⟩
theorem take_next {l : List (List UInt8)} {k : Nat} (h : k < l.length) (ha : ∀ x ∈ l.take k, x.length ≤ 40) (hx : l[k].length ≤ 40) : ∀ x ∈ l.take (k + 1), x.length ≤ 40 := by
  intro x hm
  rw [List.take_succ_eq_append_getElem h, List.mem_append, List.mem_singleton] at hm
  rcases hm with h | h
  · exact ha x h
  · rw [h]; exact hx

set_option maxHeartbeats 1000000 in
theorem texts_any (l : List (List UInt8)) (v : Value) (w : World) (hrow : RowV w v (S l)) (hx : ∀ x ∈ l, x.length ≤ maxLen) :
    Calls Tryz.prog 130 #[v] w fun e w' => e = .returned (.bool (textsL l)) ∧ w = w' := by
  obtain ⟨a, cap, rfl, hc1, hc2, hat⟩ := hrow.texts
  clear hrow
  unfold maxLen at hc2 hx
  go_enter Tryz.func130, Tryz.ntmps130
  go_wp2_with fail
  go_loop [7] (fun i => ∃ k : Nat, k ≤ l.length ∧ i = .int .i64 k ∧ Hid (∀ x ∈ l.take k, x.length ≤ 40)) (fun i => l.length - (intOf i).toNat)
  case atStart => exact ⟨0, Nat.zero_le _, by go_num, by simp [Hid]⟩
  case round =>
    obtain ⟨k, hk, rfl, HO⟩ := hrel
    by_cases hlt : k < l.length
    · obtain ⟨g, o, rfl, hg, hcell⟩ := hat k hlt
      have hxl := hx l[k] (List.getElem_mem hlt)
      by_cases hy : (l[k]).length ≤ 40
      · have HS := Lib.hid (take_next hlt HO.out hy)
        generalize l[k] = x at hcell hxl hy
        have hyz : ¬ ((40 : Int) < (x.length : Int)) := by omega
        clear hat HO hx
        go_wp2_with fail
        go_round
        case rel => exact ⟨k + 1, by omega, by go_num, HS⟩
        case measure => simp [intOf]; omega
      · have HS := Lib.hid (all_long hlt (by omega))
        generalize l[k] = x at hcell hxl hy
        have hyz : ((40 : Int) < (x.length : Int)) := by omega
        clear hat HO hx
        go_wp2_with fail
        go_ret
        exact ⟨by rw [textsL, HS.out]; rfl, rfl⟩
    · have HS : Hid (l.all (fun x => decide (x.length ≤ 40)) = true) := by
        rw [Hid, List.all_eq_true]
        intro x hm
        have := HO.out x (by rw [List.take_of_length_le (by omega)]; exact hm)
        simpa using this
      have hltz : ¬ ((k : Int) < (l.length : Int)) := by omega
      clear hat HO hx
      go_wp2_with fail
      go_ret
      refine ⟨?_, rfl⟩
      rw [textsL, HS.out, Bool.true_and]
      show Ending.returned (.bool (decide ((l.length : Int) ≤ 10))) = _
      congr 2
      simp only [decide_eq_decide]
      omega

end Go.Proofs.YtgolhfmmlanmlaaGreatDoor
