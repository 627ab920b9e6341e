/- Texts of one claim, joined in their order. -/
import Derived.Lib.SlicesCompact
import Derived.Shelf.Small.Bits
import Derived.Shelf.Strconv.Itoa0
import Derived.Shelf.Sort.Plain
import Derived.Ground.Names2Prog
import Derived.Shelf.Slices.Delete
import Derived.Shelf.Slices.Cells
import Derived.Shelf.Slices.In.SortNone
import Derived.Test.YtpjmdljjmknpkaaProg
import Derived.Lib.OwnBridge
import Derived.Sort.OwnSortedInts
import Derived.Laws.EntriesVeiled
import Derived.Test.YtpjmdljjmknpkaaM6
import Derived.Test.YtpjmdljjmknpkaaM1
import Derived.Test.YtpjmdljjmknpkaaM5

/- Plain mathematics: what is sorted and has no two alike any more; no program. -/
namespace Go.Proofs.Ytpjmdljjmknpkaa
namespace Pth
open Go.Lib

def sortI (l : List Int) : List Int := l.mergeSort fun x y => decide (x ≤ y)
theorem sortI_perm (l : List Int) : (sortI l).Perm l := List.mergeSort_perm _ _
theorem sortI_sorted (l : List Int) : (sortI l).Pairwise (· ≤ ·) := by
  have := List.pairwise_mergeSort (le := fun a b : Int => decide (a ≤ b)) (fun a b c h1 h2 => by simp only [decide_eq_true_eq] at *; omega) (fun a b => by simp only [Bool.or_eq_true, decide_eq_true_eq]; omega) l
  exact this.imp (fun h => by simpa using h)
theorem get_bang {l : List Int} {j : Nat} (hj : j < l.length) : l.toArray[j]! = l[j] := by
  simp [hj]
theorem mem_compact {l : List Int} {x : Int} : x ∈ compact l ↔ x ∈ l := by
  unfold compact compactUpTo
  constructor
  · intro h
    obtain ⟨j, hj, rfl⟩ := List.mem_map.1 h
    have hj' := List.mem_range.1 (List.mem_filter.1 hj).1
    rw [get_bang hj']
    exact List.getElem_mem hj'
  · intro h
    have key : ∀ j : Nat, (hj : j < l.length) → l[j] = x → x ∈ ((List.range l.length).filter (keeps l.toArray)).map (l.toArray[·]!) := by
      intro j
      induction j with
      | zero =>
        intro hj hx
        refine List.mem_map.2 ⟨0, List.mem_filter.2 ⟨List.mem_range.2 hj, by simp [keeps]⟩, by rw [get_bang hj]; exact hx⟩
      | succ j ih =>
        intro hj hx
        by_cases he : l[j] = x
        · exact ih (by omega) he
        · refine List.mem_map.2 ⟨j + 1, List.mem_filter.2 ⟨List.mem_range.2 hj, ?_⟩, by rw [get_bang hj]; exact hx⟩
          apply keeps_pos
          rw [get_bang hj, Nat.add_sub_cancel, get_bang (by omega : j < l.length), hx]
          exact fun h => he h.symm
    obtain ⟨j, hj, hx⟩ := List.mem_iff_getElem.1 h
    exact key j hj hx
theorem compact_rise {l : List Int} (h : l.Pairwise (· ≤ ·)) : Rise (compact l) := by
  unfold compact compactUpTo Rise
  rw [List.pairwise_map]
  refine List.Pairwise.imp_of_mem (R := fun a b => a < b) ?_ (List.pairwise_lt_range.filter _)
  intro i j hi hj hlt
  have hi' := List.mem_range.1 (List.mem_filter.1 hi).1
  have hj' := List.mem_range.1 (List.mem_filter.1 hj).1
  have hk := (List.mem_filter.1 hj).2
  rw [get_bang hi', get_bang hj']
  have hne : l[j] ≠ l[j - 1] := by
    simp only [keeps, decide_eq_true_eq] at hk
    rcases hk with h0 | h0
    · omega
    · rwa [get_bang hj', get_bang (by omega : j - 1 < l.length)] at h0
  have h1 : l[j - 1] ≤ l[j] := List.pairwise_iff_getElem.1 h (j - 1) j (by omega) hj' (by omega)
  have h2 : l[i] ≤ l[j - 1] := by
    by_cases e : i = j - 1
    · subst e; exact Int.le_refl _
    · exact List.pairwise_iff_getElem.1 h i (j - 1) hi' (by omega) (by omega)
  omega
theorem compact_reads (r : List OpT) : compact (sortI (catsL r)) = readsL r :=
  reads_is (compact_rise (sortI_sorted _)) (fun x => by rw [mem_compact]; exact (sortI_perm _).mem_iff)

end Pth
end Go.Proofs.Ytpjmdljjmknpkaa

/- The library's contracts that the walks use, at this program: each an application of the shelf's; each structure's fields are facts of the loaded program. -/
namespace Go.Proofs
open Go.Shelf Go.RowKit Go.Sort
def Try.lays189_ren : Go.Shelf.Ren := ⟨fun | 189 => 74 | 125 => 121 | 257 => 120 | 128 => 137 | 129 => 138 | 294 => 128 | 295 => 129 | 296 => 130 | 297 => 131 | 298 => 132 | 299 => 133 | 216 => 134 | 300 => 135 | 301 => 136 | 328 => 141 | 329 => 142 | 330 => 143 | 331 => 144 | 332 => 145 | 215 => 146 | 343 => 147 | n => n, fun | 28 => 24 | 3 => 3 | 46 => 105 | 0 => 0 | 51 => 120 | 53 => 69 | 4 => 4 | 183 => 114 | 182 => 113 | 131 => 34 | 5 => 5 | 9 => 9 | 218 => 122 | 222 => 126 | 228 => 128 | 229 => 129 | n => n, fun | n => n⟩
theorem Try.lays189 : Go.Proofs.Lays.n189 Try.prog Try.lays189_ren := {
  mixed := by kernel_rfl
  f125 := Try.func121.trans (congrArg some (by kernel_rfl))
  f128 := Try.func137.trans (congrArg some (by kernel_rfl))
  f129 := Try.func138.trans (congrArg some (by kernel_rfl))
  f189 := Try.func74.trans (congrArg some (by kernel_rfl))
  f215 := Try.func146.trans (congrArg some (by kernel_rfl))
  f216 := Try.func134.trans (congrArg some (by kernel_rfl))
  f257 := Try.func120.trans (congrArg some (by kernel_rfl))
  f294 := Try.func128.trans (congrArg some (by kernel_rfl))
  f295 := Try.func129.trans (congrArg some (by kernel_rfl))
  f296 := Try.func130.trans (congrArg some (by kernel_rfl))
  f297 := Try.func131.trans (congrArg some (by kernel_rfl))
  f298 := Try.func132.trans (congrArg some (by kernel_rfl))
  f299 := Try.func133.trans (congrArg some (by kernel_rfl))
  f300 := Try.func135.trans (congrArg some (by kernel_rfl))
  f301 := Try.func136.trans (congrArg some (by kernel_rfl))
  f328 := Try.func141.trans (congrArg some (by kernel_rfl))
  f329 := Try.func142.trans (congrArg some (by kernel_rfl))
  f330 := Try.func143.trans (congrArg some (by kernel_rfl))
  f331 := Try.func144.trans (congrArg some (by kernel_rfl))
  f332 := Try.func145.trans (congrArg some (by kernel_rfl))
  f343 := Try.func147.trans (congrArg some (by kernel_rfl))
  t0 := Try.underlying0
  a0 := Try.isAgg0
  z0 := Try.sizeOf0
  v0 := Try.zeroValue0
  t3 := Try.underlying3
  a3 := Try.isAgg3
  z3 := Try.sizeOf3
  v3 := Try.zeroValue3
  t4 := Try.underlying4
  a4 := Try.isAgg4
  z4 := Try.sizeOf4
  v4 := Try.zeroValue4
  t5 := Try.underlying5
  a5 := Try.isAgg5
  z5 := Try.sizeOf5
  v5 := Try.zeroValue5
  t9 := Try.underlying9
  a9 := Try.isAgg9
  z9 := Try.sizeOf9
  v9 := Try.zeroValue9
  t28 := Try.underlying24
  a28 := Try.isAgg24
  z28 := Try.sizeOf24
  v28 := Try.zeroValue24
  t46 := Try.underlying105
  a46 := Try.isAgg105
  z46 := Try.sizeOf105
  v46 := Try.zeroValue105
  t51 := Try.underlying120
  a51 := Try.isAgg120
  z51 := Try.sizeOf120
  v51 := Try.zeroValue120
  t53 := Try.underlying69
  a53 := Try.isAgg69
  z53 := Try.sizeOf69
  v53 := Try.zeroValue69
  t131 := Try.underlying34
  a131 := Try.isAgg34
  z131 := Try.sizeOf34
  v131 := Try.zeroValue34
  t182 := Try.underlying113
  a182 := Try.isAgg113
  z182 := Try.sizeOf113
  v182 := Try.zeroValue113
  t183 := Try.underlying114
  a183 := Try.isAgg114
  z183 := Try.sizeOf114
  v183 := Try.zeroValue114
  t218 := Try.underlying122
  a218 := Try.isAgg122
  z218 := Try.sizeOf122
  v218 := Try.zeroValue122
  t222 := Try.underlying126
  a222 := Try.isAgg126
  z222 := Try.sizeOf126
  v222 := Try.zeroValue126
  t228 := Try.underlying128
  a228 := Try.isAgg128
  z228 := Try.sizeOf128
  v228 := Try.zeroValue128
  t229 := Try.underlying129
  a229 := Try.isAgg129
  z229 := Try.sizeOf129
  v229 := Try.zeroValue129 }
theorem Try.slices_Sort_int (blk off cap : Nat) (zs : List Int) (w : World) (hH : Holds (Value.int .i64) w blk off zs.toArray) (hblk : blk < w.heap.size) (hsz : zs.length < 4611686018427387904) :
    Calls Try.prog 74 #[.slice (some ⟨blk, off, none⟩) zs.length cap] w fun e w' =>
      e = .returned (.tuple #[]) ∧ ∃ n os, w' = grow (putRow (Value.int .i64) (Sort.ahead w n) blk off (zs.mergeSort fun x y => decide (x ≤ y)).toArray) os := Any.slices_Sort_int Try.lays189 blk off cap zs w hH hblk hsz
def Try.laysNm223_ren : Go.Shelf.Ren := ⟨fun | 23 => 89 | n => n, fun | 22 => 24 | 3 => 3 | 4 => 4 | 0 => 0 | n => n, fun | n => n⟩
theorem Try.laysNm223 : Go.Proofs.Lays2.n23 Try.prog Try.laysNm223_ren := {
  mixed := by kernel_rfl
  f23 := Try.func89.trans (congrArg some (by kernel_rfl))
  t0 := Try.underlying0
  a0 := Try.isAgg0
  z0 := Try.sizeOf0
  v0 := Try.zeroValue0
  t3 := Try.underlying3
  a3 := Try.isAgg3
  z3 := Try.sizeOf3
  v3 := Try.zeroValue3
  t4 := Try.underlying4
  a4 := Try.isAgg4
  z4 := Try.sizeOf4
  v4 := Try.zeroValue4
  t22 := Try.underlying24
  a22 := Try.isAgg24
  z22 := Try.sizeOf24
  v22 := Try.zeroValue24
  i3 := by kernel_rfl }
theorem Try.slices_Delete_int (blk off cap i j : Nat) (zs : List Int) (w : World) (hH : Holds (Value.int .i64) w blk off zs.toArray) (hcap : zs.length ≤ cap) (hm : cap ≤ 9223372036854775807) (hij : i ≤ j) (hj : j ≤ zs.length) :
    Calls Try.prog 89 #[.slice (some ⟨blk, off, none⟩) zs.length cap, .int .i64 i, .int .i64 j] w fun e w' => e = .returned (.slice (some ⟨blk, off, none⟩) (zs.length - (j - i)) cap) ∧ ∃ q, w' = putRow (Value.int .i64) (Sort.ahead w q) blk off (zs.take i ++ zs.drop j ++ List.replicate (j - i) 0).toArray := Any.slices_Delete_int Try.laysNm223 blk off cap i j zs w hH hcap hm hij hj
theorem Try.slices_Sort_int_none (p : Option Addr) (cap : Nat) (w : World) :
    Calls Try.prog 74 #[.slice p 0 cap] w fun e w' => e = .returned (.tuple #[]) ∧ w' = w := Any.slices_Sort_int_none Try.lays189 p cap w
end Go.Proofs

/- Numbers in memory of the call's own: sorted, and without two alike, by the library. -/
namespace Go.Proofs.Ytpjmdljjmknpkaa
open Go.RowKit Pth Go.Lib Go.Sort

theorem I_enc (l : List Int) : I l = l.map (Value.int .i64) := rfl
theorem sortI_len (l : List Int) : (sortI l).length = l.length := (sortI_perm l).length_eq
theorem sortInts_any (l : List Int) (v : Value) (B : Nat) (w : World) (hown : w.ownsRow B 3 1 v l.length (I l)) (hl : l.length ≤ 1000000) (hB : B ≤ w.heap.size) :
    Calls Try.prog 74 #[v] w fun e w' => e = .returned (.tuple #[]) ∧ w'.ownsRow B 3 1 v (sortI l).length (I (sortI l)) ∧ Below B w w' := by
  rcases hown.2 with ⟨hv, h0⟩ | ⟨g, cap, cur, hv, hBg, hh, h1, h2, h3, h4⟩
  · subst hv
    have h00 : l = [] := List.eq_nil_of_length_eq_zero h0
    subst h00
    refine (Try.slices_Sort_int_none none 0 w).mono fun e w' ⟨he, hw⟩ => ?_
    subst hw
    rw [show sortI [] = [] by simp [sortI]]
    exact ⟨he, hown, Below.refl _ _⟩
  · subst hv
    have hH := holds_of_blockI (ss := l) hh (by rw [Nat.mul_one] at h4; rw [← I_enc]; exact h4)
    refine (Try.slices_Sort_int g 0 cap l w hH (lt_of_block hh) (by omega)).mono ?_
    rintro e w' ⟨he, n, os, rfl⟩
    refine ⟨he, ?_, (Below.refl B w).grown (grownBy_sortedI _) hB (fun k hk => by cases hk; exact hBg)⟩
    have := ownsRow_sortedI (base := B) (n := n) (os := os) (ss := l) (ts := sortI l) (sortI_len l) hBg hh h1 h2 h3
    rw [sortI_len, I_enc]
    exact this
theorem compact_len (l : List Int) : (compact l).length ≤ l.length := compact_length_le l
end Go.Proofs.Ytpjmdljjmknpkaa

/- Walks: risingWhere, areTasks, slices.ContainsFunc at a function value, the test whether a number is among some. -/
namespace Go.Proofs.Ytpjmdljjmknpkaa
open Go.RowKit Pth

theorem rising_is {ls : List (List Int)} {l : List Int} (hg : GoodP ls l) (p : Int → Bool) : sortI (l.filter p) = (upto ls.length).filter p :=
  sort_filter hg.nodup (fun _ => hg.all) (sortI_perm _) (sortI_sorted _)

set_option maxRecDepth 20000 in
set_option maxHeartbeats 2000000 in
theorem rising_any (ls : List (List Int)) (l : List Int) (p : Int → Bool) (v fv : Value) (w : World) (hst : GraphV w v ls l) (ht : TestV w fv (· ∈ l) p) (hg : GoodP ls l) :
    Calls Try.prog 93 #[v, fv] w (IntsPost w.heap.size ((upto ls.length).filter p) w) := by
  have HV := Lib.hid hst
  have HT := Lib.hid ht
  have HE := Lib.hid (rising_is hg p)
  have h10 : l.length ≤ 10 := by have := hg.same; have := hg.high; omega
  obtain ⟨nv, ov, rfl, h1, h2⟩ := hst
  obtain ⟨an, cn, rfl, hn1, hn2, _⟩ := h1.lists
  obtain ⟨ao, co, rfl, ho1, ho2, _⟩ := h2.ints
  clear h1 h2 ht hg
  unfold maxLen at hn2 ho2
  obtain ⟨wa, hwa⟩ : ∃ wa, wa = w.alloc (.cells #[.slice an ls.length cn, .slice ao l.length co] 26) := ⟨_, rfl⟩
  have P0 : Hid (Blk2 wa w.heap.size 26 (.slice an ls.length cn) (.slice ao l.length co)) := by rw [hwa]; exact Blk2.new
  have HA : Hid (Below w.heap.size w wa) := by rw [hwa]; exact (Below.refl w.heap.size w).alloc (Nat.le_refl _) _
  have HWA := Lib.hid hwa
  have c0 := P0.out.cells.1
  have c1 := P0.out.cells.2
  have HC := Lib.hid (ordered_any ls l p _ fv wa (HV.out.below HA.out) (HT.out.below HA.out) (by omega))
  have hfl : (l.filter p).length ≤ 10 := by have := List.length_filter_le p l; omega
  have HS := Lib.hid (fun u B W ho hB => sortInts_any (l.filter p) u B W ho (by omega) hB)
  clear hwa hfl
  generalize l.filter p = m at *
  go_enter Try.func93, Try.ntmps93
  go_wp2_with fail
  rw [← HWA.out]
  refine HC.out.mono ?_
  rintro e w1 ⟨v1, rfl, ho1', hb1⟩
  have HB1 := Lib.hid (bth HA.out hb1 (Nat.le_refl _))
  have HO1 := Lib.hid ho1'
  obtain ⟨qa, qc, hq⟩ := own_slice ho1'
  subst hq
  have hs1 := hb1.size
  clear ho1' hb1 c0 c1 HC
  go_wp2_with fail
  refine (HS.out _ wa.heap.size w1 HO1.out hs1).mono ?_
  rintro e w2 ⟨rfl, ho2', hb2⟩
  have HO2 := Lib.hid ho2'
  rw [HE.out] at HO2
  have HB2 := Lib.hid (HB1.out.trans (hb2.mono HA.out.size))
  clear ho2' hb2
  go_wp2_with fail
  go_ret
  exact ⟨_, rfl, own_base HO2.out HA.out.size, HB2.out⟩

set_option maxRecDepth 20000 in
set_option maxHeartbeats 4000000 in
theorem areTasks_any (ls : List (List Int)) (l cs : List Int) (v u : Value) (w : World) (hst : GraphV w v ls l) (hrow : RowV w u (I cs)) :
    Calls Try.prog 92 #[v, u] w (BoolB (riseB 0 ((ls.length : Int) - 1) cs) w) := by
  have HV := Lib.hid hst
  obtain ⟨nv, ov, rfl, h1, h2⟩ := hst
  obtain ⟨an, cn, rfl, hn1, hn2, _⟩ := h1.lists
  obtain ⟨ao, co, rfl, ho1, ho2, _⟩ := h2.ints
  obtain ⟨a, cap, rfl, hc1, hc2, hat⟩ := hrow.ints
  clear h1 h2 hrow
  unfold maxLen at hn2 ho2 hc2
  have HAT := Lib.hid hat
  obtain ⟨wa, hwa⟩ : ∃ wa, wa = w.alloc (.cells #[.slice an ls.length cn, .slice ao l.length co] 26) := ⟨_, rfl⟩
  have P0 : Hid (Blk2 wa w.heap.size 26 (.slice an ls.length cn) (.slice ao l.length co)) := by rw [hwa]; exact Blk2.new
  have HA : Hid (Below w.heap.size w wa) := by rw [hwa]; exact (Below.refl w.heap.size w).alloc (Nat.le_refl _) _
  have hsz : w.heap.size < wa.heap.size := by rw [hwa]; simp
  have HWA := Lib.hid hwa
  clear hwa hat
  go_enter Try.func92, Try.ntmps92
  go_wp2_with fail
  rw [← HWA.out]
  go_loopw [9] (fun i wr => ∃ k : Nat, k ≤ cs.length ∧ i = .int .i64 k ∧ Hid (Rise (cs.take k) ∧ Within 0 ((ls.length : Int) - 1) (cs.take k)) ∧ Hid (Below wa.heap.size wa wr)) (fun i _ => cs.length - (intOf i).toNat)
  case atStart => exact ⟨0, Nat.zero_le _, rfl, by simp [Rise, Hid, Within], Below.refl _ _⟩
  case round =>
    obtain ⟨k, hk, rfl, HO, HB⟩ := hrel
    have HBW := Lib.hid (bth HA.out HB.out (Nat.le_refl _))
    by_cases hlt : k < cs.length
    · obtain ⟨g, o, rfl, hg, hcell0⟩ := HAT.out k hlt
      have hcell : wr.cell? ⟨g, o + k, none⟩ = some (.int .i64 cs[k]) := by rw [HBW.out.cell (p := ⟨g, o + k, none⟩) hg]; exact hcell0
      obtain ⟨d0, d1⟩ := (P0.out.below HB.out hsz).cells
      clear hcell0
      by_cases hr : 0 ≤ cs[k] ∧ cs[k] < (ls.length : Int)
      · have CT := Lib.hid (isTask_b (HV.out.below HBW.out) (show (decide (0 ≤ cs[k]) && decide (cs[k] < (ls.length : Int))) = true by simp [hr]))
        by_cases h0 : 0 < k
        · obtain ⟨g', o', hA, hg', hcell1⟩ := HAT.out (k - 1) (by omega)
          obtain ⟨rfl, rfl⟩ := addr_inj hA
          clear hA
          have hk0 : decide ((k : Int) > 0) = true := by simp; omega
          have HPR : Hid (∀ W, Below wr.heap.size wr W → W.cell? ⟨g, o + (k - 1), none⟩ = some (.int .i64 cs[k - 1])) := fun W hW => by
            rw [(bth HBW.out hW (Nat.le_refl _)).cell (p := ⟨g, o + (k - 1), none⟩) hg']; exact hcell1
          clear hcell1
          by_cases hy : cs[k - 1] < cs[k]
          · have HR : Hid (Rise (cs.take (k + 1)) ∧ Within 0 ((ls.length : Int) - 1) (cs.take (k + 1))) := rise_next hlt HO.out hr.1 (by omega) (fun _ => hy)
            have hy1 : decide (cs[k - 1] ≥ cs[k]) = false := by simp; omega
            clear HO hr hy
            generalize cs[k] = x at *
            generalize cs[k - 1] = y at *
            go_wp2_with fail
            refine CT.out.mono ?_
            rintro e w1 ⟨rfl, hb1⟩
            have HB1 := Lib.hid (bth HB.out hb1 (Nat.le_refl _))
            have hc3 := HPR.out w1 hb1
            clear hb1 d0 d1 hcell
            go_wp2_with fail
            go_roundw
            case rel => exact ⟨k + 1, by omega, by go_num, HR, HB1⟩
            case measure => simp [intOf]; omega
          · have HR : Hid (riseB 0 ((ls.length : Int) - 1) cs = false) := rise_fall hlt h0 (by omega)
            have hy1 : decide (cs[k - 1] ≥ cs[k]) = true := by simp; omega
            clear HO hr hy
            generalize cs[k] = x at *
            generalize cs[k - 1] = y at *
            go_wp2_with fail
            refine CT.out.mono ?_
            rintro e w1 ⟨rfl, hb1⟩
            have HB1 := Lib.hid (bth HBW.out hb1 (Nat.le_refl _))
            have hc3 := HPR.out w1 hb1
            clear hb1 d0 d1 hcell
            go_wp2_with fail
            go_ret
            exact ⟨ret_bool HR.out.symm, HB1.out⟩
        · have HR : Hid (Rise (cs.take (k + 1)) ∧ Within 0 ((ls.length : Int) - 1) (cs.take (k + 1))) := rise_next hlt HO.out hr.1 (by omega) (fun h => absurd h h0)
          have hk0 : decide ((k : Int) > 0) = false := by simp; omega
          clear HO hr
          generalize cs[k] = x at *
          go_wp2_with fail
          refine CT.out.mono ?_
          rintro e w1 ⟨rfl, hb1⟩
          have HB1 := Lib.hid (bth HB.out hb1 (Nat.le_refl _))
          clear hb1 d0 d1 hcell
          go_wp2_with fail
          go_roundw
          case rel => exact ⟨k + 1, by omega, by go_num, HR, HB1⟩
          case measure => simp [intOf]; omega
      · have HR : Hid (riseB 0 ((ls.length : Int) - 1) cs = false) := rise_out hlt (by omega)
        have CT := Lib.hid (isTask_b (HV.out.below HBW.out) (show (decide (0 ≤ cs[k]) && decide (cs[k] < (ls.length : Int))) = false by rw [Bool.eq_false_iff]; intro h; rw [Bool.and_eq_true, decide_eq_true_iff, decide_eq_true_iff] at h; exact hr h))
        clear HO hr
        generalize cs[k] = x at *
        go_wp2_with fail
        refine CT.out.mono ?_
        rintro e w1 ⟨rfl, hb1⟩
        have HB1 := Lib.hid (bth HBW.out hb1 (Nat.le_refl _))
        clear hb1 d0 d1 hcell
        go_wp2_with fail
        go_ret
        exact ⟨ret_bool HR.out.symm, HB1.out⟩
    · have HR : Hid (riseB 0 ((ls.length : Int) - 1) cs = true) := by have := HO.out; rw [List.take_of_length_le (by omega)] at this; exact riseB_iff.2 this
      clear HO
      go_wp2_with fail
      go_ret
      exact ⟨ret_bool HR.out.symm, HBW.out⟩

/-- A place, or a number below 0 where there is none. -/
def PlaceB (b : Bool) (w : World) (e : Ending) (w' : World) : Prop := ∃ i : Int, e = .returned (.int .i64 i) ∧ (0 ≤ i ↔ b = true) ∧ Below w.heap.size w w'

set_option maxRecDepth 20000 in
set_option maxHeartbeats 2000000 in
theorem indexFunc_any (l : List Int) (p : Int → Bool) (D : Int → Prop) (v fv : Value) (w : World) (hrow : RowV w v (I l)) (ht : TestV w fv D p) (hD : ∀ x ∈ l, D x) :
    Calls Try.prog 125 #[v, fv] w (PlaceB (l.any p) w) := by
  obtain ⟨a, cap0, rfl, hc1, hc2, hat⟩ := hrow.ints
  obtain ⟨K, cap, rfl, hent, ht⟩ := ht
  have HT := Lib.hid ht
  have HAT := Lib.hid hat
  have HD := Lib.hid hD
  clear hrow hat ht hD
  unfold maxLen at hc2
  go_enter Try.func125, Try.ntmps125
  go_wp2_with fail
  go_loopw [8] (fun i wr => ∃ k : Nat, k ≤ l.length ∧ i = .int .i64 k ∧ Hid ((l.take k).any p = false) ∧ Hid (Below w.heap.size w wr)) (fun i _ => l.length - (intOf i).toNat)
  case atStart => exact ⟨0, Nat.zero_le _, by go_num, by simp [Hid], Below.refl _ _⟩
  case round =>
    obtain ⟨k, hk, rfl, HO, HB⟩ := hrel
    by_cases hlt : k < l.length
    · obtain ⟨g, o, rfl, hg, hcell0⟩ := HAT.out k hlt
      have hcell : wr.cell? ⟨g, o + k, none⟩ = some (.int .i64 l[k]) := by rw [HB.out.cell (p := ⟨g, o + k, none⟩) hg]; exact hcell0
      have hltz : (k : Int) < (l.length : Int) := by omega
      have HC := HT.out wr HB.out l[k] (HD.out _ (List.getElem_mem hlt))
      clear hcell0
      rcases hb : p l[k] with _ | _
      · have HS : Hid ((l.take (k + 1)).any p = false) := by
          show _ = _
          rw [List.take_succ_eq_append_getElem hlt, List.any_append, HO.out]
          simp [hb]
        rw [hb] at HC
        have HCC := Lib.hid HC
        clear HC hb HO
        generalize l[k] = x at *
        go_wp2_with fail
        refine HCC.out.mono ?_
        rintro e w1 ⟨rfl, hb1⟩
        have HB1 := Lib.hid (bth HB.out hb1 (Nat.le_refl _))
        clear hb1
        go_wp2_with fail
        go_roundw
        case rel => exact ⟨k + 1, by omega, by go_num, HS, HB1⟩
        case measure => simp [intOf]; omega
      · have HS : Hid (l.any p = true) := by
          show _ = _
          rw [List.any_eq_true]
          exact ⟨l[k], List.getElem_mem hlt, hb⟩
        rw [hb] at HC
        have HCC := Lib.hid HC
        clear HC hb HO
        generalize l[k] = x at *
        go_wp2_with fail
        refine HCC.out.mono ?_
        rintro e w1 ⟨rfl, hb1⟩
        have HB1 := Lib.hid (bth HB.out hb1 (Nat.le_refl _))
        clear hb1
        go_wp2_with fail
        go_ret
        exact ⟨(k : Int), rfl, by rw [HS.out]; simp, HB1.out⟩
    · have HS : Hid (l.any p = false) := by
        show _ = _
        have := HO.out
        rwa [List.take_of_length_le (by omega)] at this
      have hltz : ¬ ((k : Int) < (l.length : Int)) := by omega
      clear HO
      go_wp2_with fail
      go_ret
      exact ⟨-1, rfl, by rw [HS.out]; simp, HB.out⟩

set_option maxRecDepth 20000 in
set_option maxHeartbeats 1000000 in
theorem containsFunc_any (l : List Int) (p : Int → Bool) (D : Int → Prop) (v fv : Value) (w : World) (hrow : RowV w v (I l)) (ht : TestV w fv D p) (hD : ∀ x ∈ l, D x) :
    Calls Try.prog 98 #[v, fv] w (BoolB (l.any p) w) := by
  have HC := Lib.hid (indexFunc_any l p D v fv w hrow ht hD)
  clear hrow ht hD
  go_enter Try.func98, Try.ntmps98
  go_wp2_with fail
  refine HC.out.mono ?_
  rintro e w1 ⟨i, rfl, hi, hb⟩
  have HI := Lib.hid hi
  have HB := Lib.hid hb
  clear hi hb HC
  go_wp2_with fail
  go_ret
  refine ⟨?_, HB.out⟩
  show Ending.returned (.bool (decide (0 ≤ i))) = _
  congr 2
  rw [Bool.eq_iff_iff, decide_eq_true_eq]
  exact HI.out

/-- A block of one cell. -/
def Blk1 (w : World) (b t : Nat) (x : Value) : Prop := w.heap[b]? = some (.cells #[x] t (0, 0))
theorem Blk1.cell {w : World} {b t : Nat} {x : Value} (h : Blk1 w b t x) : w.cell? ⟨b, 0, none⟩ = some x := by rw [cell_of_row w b _ _ t (0, 0) h]; rfl
theorem Blk1.below {w w' : World} {B b t : Nat} {x : Value} (h : Blk1 w b t x) (hb : Below B w w') (hlt : b < B) : Blk1 w' b t x := (hb.block b hlt).trans h
theorem Blk1.new {w : World} {t : Nat} {x : Value} : Blk1 (w.alloc (.cells #[x] t)) w.heap.size t x := heap_alloc_new w _

set_option maxRecDepth 20000 in
set_option maxHeartbeats 1000000 in
theorem among1_any (cs : List Int) (x : Int) (b : Nat) (u : Value) (w : World) (hrow : RowV w u (I cs)) (hb : Blk1 w b 24 u) :
    Calls Try.prog 124 #[.int .i64 x, .pointer (some ⟨b, 0, none⟩)] w (BoolB (hasL cs x) w) := by
  have HC := Lib.hid (contains_any cs x u w hrow)
  have hc := hb.cell
  obtain ⟨a, cap, rfl, hc1, hc2, _⟩ := hrow.ints
  clear hrow hb
  go_enter Try.func124, Try.ntmps124
  go_wp2_with fail
  refine HC.out.mono ?_
  rintro e w1 ⟨rfl, rfl⟩
  go_wp2_with fail
  go_ret
  exact ⟨rfl, Below.refl _ _⟩

/-- A function value is handed back that tells whether p. -/
def TestPost (D : Int → Prop) (p : Int → Bool) (w : World) (e : Ending) (w' : World) : Prop := ∃ fv, e = .returned fv ∧ TestV w' fv D p ∧ Below w.heap.size w w' ∧ ∃ K b, fv = .func (.func K) #[] #[.pointer (some ⟨b, 0, none⟩)]

set_option maxRecDepth 20000 in
set_option maxHeartbeats 1000000 in
theorem among_any (cs : List Int) (u : Value) (w : World) (hrow : RowV w u (I cs)) :
    Calls Try.prog 97 #[u] w (TestPost (fun _ => True) (hasL cs) w) := by
  have HR := Lib.hid hrow
  obtain ⟨a, cap, rfl, hc1, hc2, _⟩ := hrow.ints
  clear hrow
  have hmf : ∀ (fn : Fn) (first cap : Array Value) (w : World), (Instr.makeFunc fn first cap).run Try.prog w = .ok (.func fn first cap) w := fun _ _ _ _ => rfl
  have HB : Hid (Below w.heap.size w (w.alloc (.cells #[.slice a cs.length cap] 24))) := (Below.refl w.heap.size w).alloc (Nat.le_refl _) _
  go_enter Try.func97, Try.ntmps97
  go_wp2_with fail
  go_ret
  refine ⟨_, rfl, ⟨124, #[.pointer (some ⟨w.heap.size, 0, none⟩)], rfl, enters_of Try.func124 (by kernel_rfl) rfl, fun W hW x _ => ?_⟩, HB.out, _, _, rfl⟩
  exact among1_any cs x w.heap.size _ W (HR.out.below (bth HB.out hW (Nat.le_refl _))) (Blk1.below Blk1.new hW (by simp))
end Go.Proofs.Ytpjmdljjmknpkaa

/- What is touched, needed, ready, closed, as answers; IsClosed and ReadyWith of the program. -/
namespace Go.Proofs.Ytpjmdljjmknpkaa
open Go.RowKit Pth

/-- A good graph, and rising tasks of it. -/
noncomputable def someG (ls : List (List Int)) (l cs : List Int) : Bool := goodG ls l && riseB 0 ((ls.length : Int) - 1) cs
theorem some_eq (ls : List (List Int)) (l cs : List Int) : (goodG ls l && riseB 0 ((ls.length : Int) - 1) cs) = someG ls l cs := rfl
theorem some_eq2 (ls : List (List Int)) (l cs ds : List Int) : (goodG ls l && riseB 0 ((ls.length : Int) - 1) cs && riseB 0 ((ls.length : Int) - 1) ds) = (someG ls l cs && someG ls l ds) := by
  unfold someG
  cases goodG ls l <;> simp
theorem some_yes {ls : List (List Int)} {l cs : List Int} (h : someG ls l cs = true) : GoodG ls l ∧ (Rise cs ∧ ∀ x ∈ cs, 0 ≤ x ∧ x < (ls.length : Int)) := by
  unfold someG at h
  rw [Bool.and_eq_true] at h
  have := riseB_iff.1 h.2
  exact ⟨goodG_iff.1 h.1, this.1, fun x hx => by have := this.2 x hx; omega⟩
theorem some_yes2 {ls : List (List Int)} {l cs ds : List Int} (h : (someG ls l cs && someG ls l ds) = true) : GoodG ls l ∧ (Rise cs ∧ ∀ x ∈ cs, 0 ≤ x ∧ x < (ls.length : Int)) ∧ (Rise ds ∧ ∀ x ∈ ds, 0 ≤ x ∧ x < (ls.length : Int)) := by
  rw [Bool.and_eq_true] at h
  exact ⟨(some_yes h.1).1, (some_yes h.1).2, (some_yes h.2).2⟩
/-- One that is not among some, and all that it needs is. -/
def readyP (ls : List (List Int)) (cs : List Int) (k : Int) : Bool := !hasL cs k && !(needsAt ls k).any (fun x => !hasL cs x)
noncomputable def touchA_v (ls : List (List Int)) (_l cs : List Int) : List Int := touchS ls cs
noncomputable def touchA (ls : List (List Int)) (l cs : List Int) : List Int := if someG ls l cs then touchA_v ls l cs else []
theorem touchA_no {ls : List (List Int)} {l cs : List Int} (h : someG ls l cs = false) : touchA ls l cs = [] := by unfold touchA; rw [h]; rfl
theorem touchA_yes {ls : List (List Int)} {l cs : List Int} (h : someG ls l cs = true) : touchA ls l cs = touchA_v ls l cs := by unfold touchA; rw [h]; rfl
theorem touchA_short (ls : List (List Int)) (l cs : List Int) : (touchA ls l cs).length ≤ 1000000 := by
  rcases h : someG ls l cs with _ | _
  · rw [touchA_no h]; simp
  · rw [touchA_yes h]
    have h1 := (some_yes h).1.high
    exact Nat.le_trans (touchS_len ls cs) (by omega)
noncomputable def needA_v (ls : List (List Int)) (_l cs : List Int) : List Int := needS ls cs
noncomputable def needA (ls : List (List Int)) (l cs : List Int) : List Int := if someG ls l cs then needA_v ls l cs else []
theorem needA_no {ls : List (List Int)} {l cs : List Int} (h : someG ls l cs = false) : needA ls l cs = [] := by unfold needA; rw [h]; rfl
theorem needA_yes {ls : List (List Int)} {l cs : List Int} (h : someG ls l cs = true) : needA ls l cs = needA_v ls l cs := by unfold needA; rw [h]; rfl
theorem needA_short (ls : List (List Int)) (l cs : List Int) : (needA ls l cs).length ≤ 1000000 := by
  rcases h : someG ls l cs with _ | _
  · rw [needA_no h]; simp
  · rw [needA_yes h]
    have h1 := (some_yes h).1.high
    exact Nat.le_trans (needS_len ls cs) (by omega)
noncomputable def readyA_v (ls : List (List Int)) (_l cs : List Int) : List Int := (upto ls.length).filter (readyP ls cs)
noncomputable def readyA (ls : List (List Int)) (l cs : List Int) : List Int := if someG ls l cs then readyA_v ls l cs else []
theorem readyA_no {ls : List (List Int)} {l cs : List Int} (h : someG ls l cs = false) : readyA ls l cs = [] := by unfold readyA; rw [h]; rfl
theorem readyA_yes {ls : List (List Int)} {l cs : List Int} (h : someG ls l cs = true) : readyA ls l cs = readyA_v ls l cs := by unfold readyA; rw [h]; rfl
theorem readyA_short (ls : List (List Int)) (l cs : List Int) : (readyA ls l cs).length ≤ 1000000 := by
  rcases h : someG ls l cs with _ | _
  · rw [readyA_no h]; simp
  · rw [readyA_yes h]
    have h1 := (some_yes h).1.high
    exact Nat.le_trans (Nat.le_trans (List.length_filter_le _ _) (Nat.le_of_eq (upto_len _))) (by omega)
noncomputable def shutA_v (ls : List (List Int)) (_l cs : List Int) : Bool := shutB ls cs
noncomputable def shutA (ls : List (List Int)) (l cs : List Int) : Bool := if someG ls l cs then shutA_v ls l cs else false
theorem shutA_no {ls : List (List Int)} {l cs : List Int} (h : someG ls l cs = false) : shutA ls l cs = false := by unfold shutA; rw [h]; rfl
theorem shutA_yes {ls : List (List Int)} {l cs : List Int} (h : someG ls l cs = true) : shutA ls l cs = shutA_v ls l cs := by unfold shutA; rw [h]; rfl
/-- Two yes-or-noes. -/
def PairOk (p b : Bool) (w : World) (e : Ending) (w' : World) : Prop := e = .returned (.tuple #[.bool p, .bool b]) ∧ Below w.heap.size w w'
theorem shut_yes {ls : List (List Int)} {cs : List Int} (h : Pth.Shut ls cs) : shutB ls cs = true := by unfold shutB; exact @decide_eq_true _ (Classical.propDecidable _) h
theorem shut_no {ls : List (List Int)} {cs : List Int} (h : ¬ Pth.Shut ls cs) : shutB ls cs = false := by unfold shutB; exact @decide_eq_false _ (Classical.propDecidable _) h
theorem any_has {l cs : List Int} : l.any (hasL cs) = true ↔ ∃ x ∈ l, x ∈ cs := by
  rw [List.any_eq_true]
  constructor
  · rintro ⟨x, hx, h⟩; exact ⟨x, hx, by simpa [hasL] using h⟩
  · rintro ⟨x, hx, h⟩; exact ⟨x, hx, by simpa [hasL] using h⟩

set_option maxRecDepth 20000 in
set_option maxHeartbeats 8000000 in
theorem implClosed_any (ls : List (List Int)) (l cs : List Int) (v ucs : Value) (w : World) (hst : GraphV w v ls l) (hcs : RowV w ucs (I cs)) :
    Calls Try.prog 41 #[v, ucs] w (PairOk (shutA ls l cs) (someG ls l cs) w) := by
  have HV := Lib.hid hst
  obtain ⟨nv, ov, rfl, h1, h2⟩ := hst
  obtain ⟨an, cn, rfl, hn1, hn2, hat⟩ := h1.lists
  obtain ⟨ao, co, rfl, ho1, ho2, hao⟩ := h2.ints
  clear h1 h2
  unfold maxLen at hn2 ho2
  have HAT := Lib.hid hat
  have HAO := Lib.hid hao
  clear hat hao
  obtain ⟨wa, hwa⟩ : ∃ wa, wa = w.alloc (.cells #[.slice an ls.length cn, .slice ao l.length co] 26) := ⟨_, rfl⟩
  have P0 : Hid (Blk2 wa w.heap.size 26 (.slice an ls.length cn) (.slice ao l.length co)) := by rw [hwa]; exact Blk2.new
  have HA : Hid (Below w.heap.size w wa) := by rw [hwa]; exact (Below.refl w.heap.size w).alloc (Nat.le_refl _) _
  have hsa : wa.heap.size = w.heap.size + 1 := by rw [hwa]; simp
  have HSA := Lib.hid hsa
  have hsz : w.heap.size < wa.heap.size := by omega
  have HWA := Lib.hid hwa
  obtain ⟨c0, c1⟩ := P0.out.cells
  have HUcs := Lib.hid hcs
  obtain ⟨xacs, xccs, rfl, hxlcs, hxmcs, _⟩ := hcs.ints
  clear hcs
  unfold maxLen at hxmcs
  have HGD := Lib.hid (fun W (h : Below wa.heap.size wa W) => implGood_any ls l _ W (HV.out.below (bth HA.out h (Nat.le_refl _))))
  have HTcs := Lib.hid (fun W (h : Below wa.heap.size wa W) => areTasks_any ls l cs _ _ W (HV.out.below (bth HA.out h (Nat.le_refl _))) (HUcs.out.below (bth HA.out h (Nat.le_refl _))))
  have HEQ : Hid ((goodG ls l && riseB 0 ((ls.length : Int) - 1) cs) = someG ls l cs) := some_eq _ _ _
  have HNo : Hid ((goodG ls l && riseB 0 ((ls.length : Int) - 1) cs) = false → shutA ls l cs = false ∧ someG ls l cs = false) := fun h => by
    rw [HEQ.out] at h
    exact ⟨shutA_no h, h⟩
  have HYes : Hid ((goodG ls l && riseB 0 ((ls.length : Int) - 1) cs) = true → shutA ls l cs = shutA_v ls l cs ∧ someG ls l cs = true ∧ GoodG ls l ∧ (Rise cs ∧ ∀ x ∈ cs, 0 ≤ x ∧ x < (ls.length : Int))) := fun h => by
    rw [HEQ.out] at h
    exact ⟨shutA_yes h, h, some_yes h⟩
  clear HEQ
  generalize someG ls l cs = bb at *
  generalize shutA ls l cs = R at *
  generalize goodG ls l = b0 at *
  generalize riseB 0 ((ls.length : Int) - 1) cs = bcs at *
  clear hwa
  go_enter Try.func41, Try.ntmps41
  go_wp2_with fail
  rw [← HWA.out]
  refine (HGD.out wa (Below.refl _ _)).mono ?_
  rintro e w1 ⟨rfl, hb1⟩
  have K1 := Lib.hid hb1
  obtain ⟨p1, q1⟩ := (P0.out.below K1.out hsz).cells
  clear hb1 c0 c1
  cases b0 with
  | false =>
    have hR := HNo.out rfl
    obtain ⟨rfl, rfl⟩ := hR
    clear HNo HYes HGD HTcs
    go_wp2_with fail
    go_ret2
    exact ⟨rfl, bth HA.out K1.out (Nat.le_refl _)⟩
  | true =>
    go_wp2_with fail
    refine (HTcs.out w1 K1.out).mono ?_
    rintro e w2 ⟨rfl, hb2⟩
    have K2 := Lib.hid (bth K1.out hb2 (Nat.le_refl _))
    obtain ⟨p2, q2⟩ := (P0.out.below K2.out hsz).cells
    clear hb2 p1 q1
    cases bcs with
    | false =>
      have hR := HNo.out rfl
      obtain ⟨rfl, rfl⟩ := hR
      clear HNo HYes HGD HTcs
      go_wp2_with fail
      go_ret2
      exact ⟨rfl, bth HA.out K2.out (Nat.le_refl _)⟩
    | true =>
      obtain ⟨hR, rfl, hG, hccs⟩ := HYes.out rfl
      clear HNo HYes HGD HTcs
      have HKW := Lib.hid (bth HA.out K2.out (Nat.le_refl _))
      have PW := Lib.hid (P0.out.below K2.out hsz)
      have hszW := Nat.lt_of_lt_of_le hsz K2.out.size
      have HR : Hid (R = shutB ls cs) := hR
      have HAM := Lib.hid (among_any cs _ w2 (HUcs.out.below HKW.out))
      have hn10 := hG.high
      clear hR hG hccs
      go_wp2_with fail
      refine HAM.out.mono ?_
      rintro e wm ⟨fv, rfl, htv, hbm, KF, bF, hfv⟩
      have HTV := Lib.hid htv
      have HKM := Lib.hid (bth HKW.out hbm (Nat.le_refl _))
      obtain ⟨KF', capF, hfv', hent, htf⟩ := htv
      have HTF := Lib.hid htf
      subst hfv'
      have d0 := (PW.out.below hbm hszW).cells.1
      clear hbm htf hfv p2 q2
      go_wp2_with fail
      clear d0
      go_loopw [23] (fun i wr => ∃ k : Nat, k ≤ ls.length ∧ i = .int .i64 k ∧ Hid (∀ u : Nat, u < k → (u : Int) ∉ cs → ∀ x ∈ needsAt ls u, x ∉ cs) ∧ Hid (Below wm.heap.size wm wr)) (fun i _ => ls.length - (intOf i).toNat)
      case atStart => exact ⟨0, Nat.zero_le _, rfl, fun u hu => by omega, Below.refl _ _⟩
      case round =>
        obtain ⟨k, hk, rfl, HO, HB⟩ := hrel
        have HBW := Lib.hid (bth HKM.out HB.out (Nat.le_refl _))
        by_cases hlt : k < ls.length
        · obtain ⟨g, o, a2, c2, hgo, hg, hcell0, hrow⟩ := HAT.out k hlt
          subst hgo
          have hcell : wr.cell? ⟨g, o + k, none⟩ = some (.slice a2 ls[k].length c2) := (HBW.out.cell (p := ⟨g, o + k, none⟩) hg).trans hcell0
          have HRW : Hid (∀ W, Below w.heap.size w W → RowV W (.slice a2 ls[k].length c2) (I ls[k])) := fun W h => hrow.below h
          have HCA := HTF.out wr HB.out (k : Int) trivial
          clear hcell0 hrow
          rcases hh : hasL cs (k : Int) with _ | _
          · rw [hh] at HCA
            have HCC := Lib.hid HCA
            have hnm : (k : Int) ∉ cs := by simpa [hasL] using hh
            have HCF := Lib.hid (fun W (h : Below wr.heap.size wr W) => containsFunc_any ls[k] (hasL cs) (fun _ => True) _ _ W (HRW.out W (bth HBW.out h (Nat.le_refl _))) (HTV.out.below (bth HB.out h (Nat.le_refl _))) (fun _ _ => trivial))
            clear HCA hh
            rcases ha : ls[k].any (hasL cs) with _ | _
            · have HS : Hid (∀ u : Nat, u < k + 1 → (u : Int) ∉ cs → ∀ x ∈ needsAt ls u, x ∉ cs) := fun u hu hn x hx hm => by
                rcases Nat.lt_or_ge u k with h | h
                · exact HO.out u h hn x hx hm
                · obtain rfl : u = k := by omega
                  rw [needsAt_get hlt] at hx
                  have := any_has.2 ⟨x, hx, hm⟩
                  rw [ha] at this
                  cases this
              rw [ha] at HCF
              clear ha HO hnm
              generalize ls[k].length = n1 at *
              go_wp2_with fail
              refine HCC.out.mono ?_
              rintro e w8 ⟨rfl, hb8⟩
              have HC8 := Lib.hid (HCF.out w8 hb8)
              have HB8 := Lib.hid (bth HB.out hb8 (Nat.le_refl _))
              clear hb8
              go_wp2_with fail
              refine HC8.out.mono ?_
              rintro e w9 ⟨rfl, hb9⟩
              have HB9 := Lib.hid (bth HB8.out hb9 (Nat.le_refl _))
              clear hb9
              go_wp2_with fail
              go_roundw
              case rel => exact ⟨k + 1, by omega, by go_num, HS, HB9⟩
              case measure => simp [intOf]; omega
            · have HS : Hid (R = false) := by
                show _ = _
                rw [HR.out]
                refine shut_no (fun h => ?_)
                obtain ⟨x, hx, hm⟩ := any_has.1 ha
                exact h k hlt hnm x (by rw [needsAt_get hlt]; exact hx) hm
              rw [ha] at HCF
              clear ha HO hnm
              generalize ls[k].length = n1 at *
              go_wp2_with fail
              refine HCC.out.mono ?_
              rintro e w8 ⟨rfl, hb8⟩
              have HC8 := Lib.hid (HCF.out w8 hb8)
              have HB8 := Lib.hid (bth HBW.out hb8 (Nat.le_refl _))
              clear hb8
              go_wp2_with fail
              refine HC8.out.mono ?_
              rintro e w9 ⟨rfl, hb9⟩
              have HB9 := Lib.hid (bth HB8.out hb9 (Nat.le_refl _))
              clear hb9
              go_wp2_with fail
              go_ret2
              exact ⟨by rw [HS.out]; rfl, HB9.out⟩
          · rw [hh] at HCA
            have HCC := Lib.hid HCA
            have HS : Hid (∀ u : Nat, u < k + 1 → (u : Int) ∉ cs → ∀ x ∈ needsAt ls u, x ∉ cs) := fun u hu hn x hx hm => by
              rcases Nat.lt_or_ge u k with h | h
              · exact HO.out u h hn x hx hm
              · obtain rfl : u = k := by omega
                exact hn (by simpa [hasL] using hh)
            clear HCA hh HO
            generalize ls[k].length = n1 at *
            go_wp2_with fail
            refine HCC.out.mono ?_
            rintro e w8 ⟨rfl, hb8⟩
            have HB8 := Lib.hid (bth HB.out hb8 (Nat.le_refl _))
            clear hb8
            go_wp2_with fail
            go_roundw
            case rel => exact ⟨k + 1, by omega, by go_num, HS, HB8⟩
            case measure => simp [intOf]; omega
        · have HS : Hid (R = true) := by
            show _ = _
            rw [HR.out]
            exact shut_yes (fun u hu hn x hx => HO.out u (by omega) hn x hx)
          clear HO
          go_wp2_with fail
          go_ret2
          exact ⟨by rw [HS.out]; rfl, HBW.out⟩
end Go.Proofs.Ytpjmdljjmknpkaa

/- Walks: tests that leave the world as it was; ReadyWith of the program. -/
namespace Go.Proofs.Ytpjmdljjmknpkaa
open Go.RowKit Pth

theorem GraphV.parts {w : World} {a b : Value} {ls : List (List Int)} {l : List Int} (h : GraphV w (.agg #[a, b]) ls l) : RowN w a ls ∧ RowV w b (I l) := by
  obtain ⟨nv, ov, hv, h1, h2⟩ := h
  injection hv with hv
  simp only [Array.mk.injEq, List.cons.injEq, and_true] at hv
  obtain ⟨rfl, rfl⟩ := hv
  exact ⟨h1, h2⟩
/-- A yes-or-no, and the world is as it was. -/
def BoolS (b : Bool) (w : World) (e : Ending) (w' : World) : Prop := e = .returned (.bool b) ∧ w' = w
/-- A function value that tells of each number of D whether p holds, and only reads. -/
def TestS (w0 : World) (fv : Value) (D : Int → Prop) (p : Int → Bool) : Prop :=
  ∃ K cap, fv = .func (.func K) #[] cap ∧ (∀ args w, (callFunc K args).run Try.prog w = .ok (.enter K args) w) ∧ ∀ W, Below w0.heap.size w0 W → ∀ x, D x → Calls Try.prog K (#[.int .i64 x] ++ cap) W (BoolS (p x) W)
theorem TestS.below {w w' : World} {fv : Value} {D : Int → Prop} {p : Int → Bool} (h : TestS w fv D p) (hb : Below w.heap.size w w') : TestS w' fv D p := by
  obtain ⟨K, cap, h1, h2, h3⟩ := h
  exact ⟨K, cap, h1, h2, fun W hW x hx => h3 W (bth hb hW (Nat.le_refl _)) x hx⟩
theorem TestS.toV {w : World} {fv : Value} {D : Int → Prop} {p : Int → Bool} (h : TestS w fv D p) : TestV w fv D p := by
  obtain ⟨K, cap, h1, h2, h3⟩ := h
  exact ⟨K, cap, h1, h2, fun W hW x hx => (h3 W hW x hx).mono fun e w' ⟨he, hw⟩ => ⟨he, by rw [hw]; exact Below.refl _ _⟩⟩

/-- A place, or a number below 0 where there is none; the world is as it was. -/
def PlaceS (b : Bool) (w : World) (e : Ending) (w' : World) : Prop := ∃ i : Int, e = .returned (.int .i64 i) ∧ (0 ≤ i ↔ b = true) ∧ w' = w

set_option maxRecDepth 20000 in
set_option maxHeartbeats 2000000 in
theorem indexFuncS_any (l : List Int) (p : Int → Bool) (D : Int → Prop) (v fv : Value) (w : World) (hrow : RowV w v (I l)) (ht : TestS w fv D p) (hD : ∀ x ∈ l, D x) :
    Calls Try.prog 125 #[v, fv] w (PlaceS (l.any p) w) := by
  obtain ⟨a, cap0, rfl, hc1, hc2, hat⟩ := hrow.ints
  obtain ⟨K, cap, rfl, hent, ht⟩ := ht
  have HT := Lib.hid (fun x hx => ht w (Below.refl _ _) x hx)
  have HAT := Lib.hid hat
  have HD := Lib.hid hD
  clear hrow hat ht hD
  unfold maxLen at hc2
  go_enter Try.func125, Try.ntmps125
  go_wp2_with fail
  go_loop [8] (fun i => ∃ k : Nat, k ≤ l.length ∧ i = .int .i64 k ∧ Hid ((l.take k).any p = false)) (fun i => l.length - (intOf i).toNat)
  case atStart => exact ⟨0, Nat.zero_le _, by go_num, by simp [Hid]⟩
  case round =>
    obtain ⟨k, hk, rfl, HO⟩ := hrel
    by_cases hlt : k < l.length
    · obtain ⟨g, o, rfl, hg, hcell⟩ := HAT.out k hlt
      have hltz : (k : Int) < (l.length : Int) := by omega
      have HC := HT.out l[k] (HD.out _ (List.getElem_mem hlt))
      rcases hb : p l[k] with _ | _
      · have HS : Hid ((l.take (k + 1)).any p = false) := by
          show _ = _
          rw [List.take_succ_eq_append_getElem hlt, List.any_append, HO.out]
          simp [hb]
        rw [hb] at HC
        have HCC := Lib.hid HC
        clear HC hb HO
        generalize l[k] = x at *
        go_wp2_with fail
        refine HCC.out.mono ?_
        rintro e w1 ⟨rfl, rfl⟩
        go_wp2_with fail
        go_round
        case rel => exact ⟨k + 1, by omega, by go_num, HS⟩
        case measure => simp [intOf]; omega
      · have HS : Hid (l.any p = true) := by
          show _ = _
          rw [List.any_eq_true]
          exact ⟨l[k], List.getElem_mem hlt, hb⟩
        rw [hb] at HC
        have HCC := Lib.hid HC
        clear HC hb HO
        generalize l[k] = x at *
        go_wp2_with fail
        refine HCC.out.mono ?_
        rintro e w1 ⟨rfl, rfl⟩
        go_wp2_with fail
        go_ret
        exact ⟨(k : Int), rfl, by rw [HS.out]; simp, rfl⟩
    · have HS : Hid (l.any p = false) := by
        show _ = _
        have := HO.out
        rwa [List.take_of_length_le (by omega)] at this
      have hltz : ¬ ((k : Int) < (l.length : Int)) := by omega
      clear HO
      go_wp2_with fail
      go_ret
      exact ⟨-1, rfl, by rw [HS.out]; simp, rfl⟩

set_option maxRecDepth 20000 in
set_option maxHeartbeats 1000000 in
theorem containsFuncS_any (l : List Int) (p : Int → Bool) (D : Int → Prop) (v fv : Value) (w : World) (hrow : RowV w v (I l)) (ht : TestS w fv D p) (hD : ∀ x ∈ l, D x) :
    Calls Try.prog 98 #[v, fv] w (BoolS (l.any p) w) := by
  have HC := Lib.hid (indexFuncS_any l p D v fv w hrow ht hD)
  clear hrow ht hD
  go_enter Try.func98, Try.ntmps98
  go_wp2_with fail
  refine HC.out.mono ?_
  rintro e w1 ⟨i, rfl, hi, rfl⟩
  have HI := Lib.hid hi
  clear hi HC
  go_wp2_with fail
  go_ret
  refine ⟨?_, rfl⟩
  show Ending.returned (.bool (decide (0 ≤ i))) = _
  congr 2
  rw [Bool.eq_iff_iff, decide_eq_true_eq]
  exact HI.out

set_option maxRecDepth 20000 in
set_option maxHeartbeats 1000000 in
theorem among1S_any (cs : List Int) (x : Int) (b : Nat) (u : Value) (w : World) (hrow : RowV w u (I cs)) (hb : Blk1 w b 24 u) :
    Calls Try.prog 124 #[.int .i64 x, .pointer (some ⟨b, 0, none⟩)] w (BoolS (hasL cs x) w) := by
  have HC := Lib.hid (contains_any cs x u w hrow)
  have hc := hb.cell
  obtain ⟨a, cap, rfl, hc1, hc2, _⟩ := hrow.ints
  clear hrow hb
  go_enter Try.func124, Try.ntmps124
  go_wp2_with fail
  refine HC.out.mono ?_
  rintro e w1 ⟨rfl, rfl⟩
  go_wp2_with fail
  go_ret
  exact ⟨rfl, rfl⟩

/-- A function value is handed back that tells whether p, and only reads. -/
def TestSPost (D : Int → Prop) (p : Int → Bool) (w : World) (e : Ending) (w' : World) : Prop := ∃ fv, e = .returned fv ∧ TestS w' fv D p ∧ Below w.heap.size w w'

set_option maxRecDepth 20000 in
set_option maxHeartbeats 1000000 in
theorem amongS_any (cs : List Int) (u : Value) (w : World) (hrow : RowV w u (I cs)) :
    Calls Try.prog 97 #[u] w (TestSPost (fun _ => True) (hasL cs) w) := by
  have HR := Lib.hid hrow
  obtain ⟨a, cap, rfl, hc1, hc2, _⟩ := hrow.ints
  clear hrow
  have hmf : ∀ (fn : Fn) (first cap : Array Value) (w : World), (Instr.makeFunc fn first cap).run Try.prog w = .ok (.func fn first cap) w := fun _ _ _ _ => rfl
  have HB : Hid (Below w.heap.size w (w.alloc (.cells #[.slice a cs.length cap] 24))) := (Below.refl w.heap.size w).alloc (Nat.le_refl _) _
  go_enter Try.func97, Try.ntmps97
  go_wp2_with fail
  go_ret
  refine ⟨_, rfl, ⟨124, #[.pointer (some ⟨w.heap.size, 0, none⟩)], rfl, enters_of Try.func124 (by kernel_rfl) rfl, fun W hW x _ => ?_⟩, HB.out⟩
  exact among1S_any cs x w.heap.size _ W (HR.out.below (bth HB.out hW (Nat.le_refl _))) (Blk1.below Blk1.new hW (by simp))

set_option maxRecDepth 20000 in
set_option maxHeartbeats 1000000 in
theorem left1_any (p : Int → Bool) (x : Int) (b : Nat) (fv : Value) (w : World) (hb : Blk1 w b 90 fv) (ht : TestS w fv (fun _ => True) p) :
    Calls Try.prog 106 #[.int .i64 x, .pointer (some ⟨b, 0, none⟩)] w (BoolS (!p x) w) := by
  have hc := hb.cell
  obtain ⟨K, cap, rfl, hent, ht⟩ := ht
  have HC := Lib.hid (ht w (Below.refl _ _) x trivial)
  clear ht hb
  generalize p x = y at *
  go_enter Try.func106, Try.ntmps106
  go_wp2_with fail
  refine HC.out.mono ?_
  rintro e w1 ⟨rfl, rfl⟩
  go_wp2_with fail
  go_ret
  exact ⟨rfl, rfl⟩

set_option maxRecDepth 20000 in
set_option maxHeartbeats 4000000 in
theorem ready2_any (ls : List (List Int)) (cs : List Int) (k : Nat) (b7 bg : Nat) (fv nv ov : Value) (w : World) (hk : k < ls.length) (hb : Blk1 w b7 90 fv) (hg : Blk2 w bg 26 nv ov) (hn : RowN w nv ls) (ht : TestS w fv (fun _ => True) (fun x => !hasL cs x)) :
    Calls Try.prog 107 #[.int .i64 (k : Int), .pointer (some ⟨b7, 0, none⟩), .pointer (some ⟨bg, 0, none⟩)] w (BoolB (readyP ls cs k) w) := by
  have hc := hb.cell
  have hc0 := hg.cells.1
  obtain ⟨an, cn, rfl, hn1, hn2, hat⟩ := hn.lists
  obtain ⟨g, o, a2, c2, rfl, hg2, hcell, hrow⟩ := hat k hk
  unfold maxLen at hn2
  have hk2 : (k : Int) < (ls.length : Int) := by omega
  have HTT := Lib.hid ht
  have HCF := Lib.hid (fun n => containsFuncS_any ls[k] (fun x => !hasL cs x) (fun _ => True) _ _ (w.drewN n) (hrow.below (below_drewN (Below.refl _ w) n)) (ht.below (below_drewN (Below.refl _ w) n)) (fun _ _ => trivial))
  obtain ⟨K, cap, rfl, hent, ht⟩ := ht
  have HC : Hid (∀ n, Calls Try.prog K (#[.int .i64 (k : Int)] ++ cap) (w.drewN n) (BoolS (!hasL cs (k : Int)) (w.drewN n))) := fun n => ht (w.drewN n) (below_drewN (Below.refl _ w) n) (k : Int) trivial
  have HP : Hid (readyP ls cs (k : Int) = (!hasL cs (k : Int) && !ls[k].any (fun x => !hasL cs x))) := by
    show _ = _
    unfold readyP; rw [needsAt_get hk]
  clear ht hb hg hn hat hrow
  rcases hx : (!hasL cs (k : Int)) with _ | _
  · rw [hx] at HC HP
    have HP2 : Hid (readyP ls cs (k : Int) = false) := by show _ = _; rw [HP.out]; rfl
    clear hx HP HCF
    generalize ls[k].length = n1 at *
    go_enter Try.func107, Try.ntmps107
    go_wp2_with fail
    go_quiet (refine Calls.quiet_of_same (HC.out _))
    go_wp2_with fail
    go_ret
    exact ⟨ret_bool HP2.out.symm, below_drewN (Below.refl _ w) _⟩
  · rw [hx] at HC HP
    have HP2 : Hid (readyP ls cs (k : Int) = (!ls[k].any (fun x => !hasL cs x))) := by show _ = _; rw [HP.out]; rfl
    clear hx HP
    generalize ls[k].any (fun x => !hasL cs x) = y at *
    generalize ls[k].length = n1 at *
    go_enter Try.func107, Try.ntmps107
    go_wp2_with fail
    go_quiet (first | (go_at_call 98; refine Calls.quiet_of_same (HCF.out _)) | (refine Calls.quiet_of_same (HC.out _)))
    go_wp2_with fail
    go_ret
    exact ⟨ret_bool HP2.out.symm, below_drewN (Below.refl _ w) _⟩

set_option maxRecDepth 20000 in
set_option maxHeartbeats 8000000 in
theorem implReady_any (ls : List (List Int)) (l cs : List Int) (v ucs : Value) (w : World) (hst : GraphV w v ls l) (hcs : RowV w ucs (I cs)) :
    Calls Try.prog 55 #[v, ucs] w (ListOk (readyA ls l cs) (someG ls l cs) w) := by
  have HV := Lib.hid hst
  obtain ⟨nv, ov, rfl, h1, h2⟩ := hst
  obtain ⟨an, cn, rfl, hn1, hn2, hat⟩ := h1.lists
  obtain ⟨ao, co, rfl, ho1, ho2, hao⟩ := h2.ints
  clear h1 h2
  unfold maxLen at hn2 ho2
  have HAT := Lib.hid hat
  have HAO := Lib.hid hao
  clear hat hao
  obtain ⟨wa, hwa⟩ : ∃ wa, wa = w.alloc (.cells #[.slice an ls.length cn, .slice ao l.length co] 26) := ⟨_, rfl⟩
  have P0 : Hid (Blk2 wa w.heap.size 26 (.slice an ls.length cn) (.slice ao l.length co)) := by rw [hwa]; exact Blk2.new
  have HA : Hid (Below w.heap.size w wa) := by rw [hwa]; exact (Below.refl w.heap.size w).alloc (Nat.le_refl _) _
  have hsa : wa.heap.size = w.heap.size + 1 := by rw [hwa]; simp
  have HSA := Lib.hid hsa
  have hsz : w.heap.size < wa.heap.size := by omega
  have HWA := Lib.hid hwa
  obtain ⟨c0, c1⟩ := P0.out.cells
  have HUcs := Lib.hid hcs
  obtain ⟨xacs, xccs, rfl, hxlcs, hxmcs, _⟩ := hcs.ints
  clear hcs
  unfold maxLen at hxmcs
  have HGD := Lib.hid (fun W (h : Below wa.heap.size wa W) => implGood_any ls l _ W (HV.out.below (bth HA.out h (Nat.le_refl _))))
  have HTcs := Lib.hid (fun W (h : Below wa.heap.size wa W) => areTasks_any ls l cs _ _ W (HV.out.below (bth HA.out h (Nat.le_refl _))) (HUcs.out.below (bth HA.out h (Nat.le_refl _))))
  have HEQ : Hid ((goodG ls l && riseB 0 ((ls.length : Int) - 1) cs) = someG ls l cs) := some_eq _ _ _
  have HNo : Hid ((goodG ls l && riseB 0 ((ls.length : Int) - 1) cs) = false → readyA ls l cs = [] ∧ someG ls l cs = false) := fun h => by
    rw [HEQ.out] at h
    exact ⟨readyA_no h, h⟩
  have HYes : Hid ((goodG ls l && riseB 0 ((ls.length : Int) - 1) cs) = true → readyA ls l cs = readyA_v ls l cs ∧ someG ls l cs = true ∧ GoodG ls l ∧ (Rise cs ∧ ∀ x ∈ cs, 0 ≤ x ∧ x < (ls.length : Int))) := fun h => by
    rw [HEQ.out] at h
    exact ⟨readyA_yes h, h, some_yes h⟩
  clear HEQ
  generalize someG ls l cs = bb at *
  generalize readyA ls l cs = R at *
  generalize goodG ls l = b0 at *
  generalize riseB 0 ((ls.length : Int) - 1) cs = bcs at *
  clear hwa
  go_enter Try.func55, Try.ntmps55
  go_wp2_with fail
  rw [← HWA.out]
  refine (HGD.out wa (Below.refl _ _)).mono ?_
  rintro e w1 ⟨rfl, hb1⟩
  have K1 := Lib.hid hb1
  obtain ⟨p1, q1⟩ := (P0.out.below K1.out hsz).cells
  clear hb1 c0 c1
  cases b0 with
  | false =>
    have hR := HNo.out rfl
    obtain ⟨rfl, rfl⟩ := hR
    clear HNo HYes HGD HTcs
    go_wp2_with fail
    go_ret2
    exact ⟨_, rfl, none_ownZ _ _ _, bth HA.out K1.out (Nat.le_refl _)⟩
  | true =>
    go_wp2_with fail
    refine (HTcs.out w1 K1.out).mono ?_
    rintro e w2 ⟨rfl, hb2⟩
    have K2 := Lib.hid (bth K1.out hb2 (Nat.le_refl _))
    obtain ⟨p2, q2⟩ := (P0.out.below K2.out hsz).cells
    clear hb2 p1 q1
    cases bcs with
    | false =>
      have hR := HNo.out rfl
      obtain ⟨rfl, rfl⟩ := hR
      clear HNo HYes HGD HTcs
      go_wp2_with fail
      go_ret2
      exact ⟨_, rfl, none_ownZ _ _ _, bth HA.out K2.out (Nat.le_refl _)⟩
    | true =>
      obtain ⟨hR, rfl, hG, hccs⟩ := HYes.out rfl
      clear HNo HYes HGD HTcs
      have HKW := Lib.hid (bth HA.out K2.out (Nat.le_refl _))
      have PW := Lib.hid (P0.out.below K2.out hsz)
      have hszW := Nat.lt_of_lt_of_le hsz K2.out.size
      have HR : Hid (R = (upto ls.length).filter (readyP ls cs)) := hR
      have HAM := Lib.hid (amongS_any cs _ w2 (HUcs.out.below HKW.out))
      have HGP := Lib.hid hG.toP
      have hmf : ∀ (fn : Fn) (first cap : Array Value) (w : World), (Instr.makeFunc fn first cap).run Try.prog w = .ok (.func fn first cap) w := fun _ _ _ _ => rfl
      clear hR hG hccs
      go_wp2_with fail
      refine HAM.out.mono ?_
      rintro e wm ⟨fv, rfl, htv, hbm⟩
      have HTV := Lib.hid htv
      have HKM := Lib.hid (bth HKW.out hbm (Nat.le_refl _))
      obtain ⟨KF, capF, hfv', hent, htf⟩ := htv
      subst hfv'
      have PM := Lib.hid (PW.out.below hbm hszW)
      have hszM := Nat.lt_of_lt_of_le hszW hbm.size
      clear hbm htf p2 q2
      obtain ⟨wx, hwx⟩ : ∃ wx, wx = wm.alloc (.cells #[.func (.func KF) #[] capF] 90) := ⟨_, rfl⟩
      have BX : Hid (Blk1 wx wm.heap.size 90 (.func (.func KF) #[] capF)) := by rw [hwx]; exact Blk1.new
      have KX : Hid (Below wm.heap.size wm wx) := by rw [hwx]; exact (Below.refl _ wm).alloc (Nat.le_refl _) _
      have hsx : wx.heap.size = wm.heap.size + 1 := by rw [hwx]; simp
      obtain ⟨wy, hwy⟩ : ∃ wy, wy = wx.alloc (.cells #[.func (.func 106) #[] #[.pointer (some ⟨wm.heap.size, 0, none⟩)]] 90) := ⟨_, rfl⟩
      have BY : Hid (Blk1 wy (wm.heap.size + 1) 90 (.func (.func 106) #[] #[.pointer (some ⟨wm.heap.size, 0, none⟩)])) := by rw [hwy, ← hsx]; exact Blk1.new
      have KY : Hid (Below wx.heap.size wx wy) := by rw [hwy]; exact (Below.refl _ wx).alloc (Nat.le_refl _) _
      have hsy : wy.heap.size = wm.heap.size + 2 := by rw [hwy, World.size_alloc, hsx]
      have KMY := Lib.hid (bth KX.out KY.out (Nat.le_refl _))
      have HTL : Hid (TestS wy (.func (.func 106) #[] #[.pointer (some ⟨wm.heap.size, 0, none⟩)]) (fun _ => True) (fun x => !hasL cs x)) :=
        ⟨_, _, rfl, enters_of Try.func106 (by kernel_rfl) rfl, fun W hW x _ => left1_any (hasL cs) x wm.heap.size _ W ((BX.out.below KY.out (by omega)).below hW (by omega)) (HTV.out.below (bth KMY.out hW (Nat.le_refl _)))⟩
      have HVY := Lib.hid (HV.out.below (bth HKM.out KMY.out (Nat.le_refl _)))
      have PY := Lib.hid (PM.out.below KMY.out hszM)
      have HTR : Hid (TestV wy (.func (.func 107) #[] #[.pointer (some ⟨wm.heap.size + 1, 0, none⟩), .pointer (some ⟨w.heap.size, 0, none⟩)]) (· ∈ l) (readyP ls cs)) := by
        refine ⟨_, _, rfl, enters_of Try.func107 (by kernel_rfl) rfl, fun W hW x hx => ?_⟩
        have hxr := HGP.out.range x hx
        obtain ⟨xn, rfl⟩ : ∃ xn : Nat, x = xn := ⟨x.toNat, by omega⟩
        have hN := (HVY.out.below hW).parts.1
        exact ready2_any ls cs xn (wm.heap.size + 1) w.heap.size _ _ _ W (by omega) (BY.out.below hW (by omega)) (PY.out.below hW (by omega)) hN (HTL.out.below hW)
      have HRI := Lib.hid (rising_any ls l (readyP ls cs) _ _ wy HVY.out HTR.out HGP.out)
      have KWY := Lib.hid (bth HKM.out KMY.out (Nat.le_refl _))
      rw [← HR.out] at HRI
      have HWX : Hid (wy = (wm.alloc (.cells #[.func (.func KF) #[] capF] 90)).alloc (.cells #[.func (.func 106) #[] #[.pointer (some ⟨wm.heap.size, 0, none⟩)]] 90)) := by show _ = _; rw [hwy, hwx]
      have d0 := PY.out.cells.1
      have d1 := PY.out.cells.2
      rw [HWX.out] at d0 d1
      clear hwx hwy hsx hsy
      go_wp2_with fail
      rw [← HWX.out]
      refine HRI.out.mono ?_
      rintro e wz ⟨vz, rfl, hoz, hbz⟩
      have HOZ := Lib.hid (own_base hoz KWY.out.size)
      have HBZ := Lib.hid (bth KWY.out hbz (Nat.le_refl _))
      clear hoz hbz d0 d1
      go_wp2_with fail
      go_ret2
      exact ⟨_, rfl, HOZ.out, HBZ.out⟩
end Go.Proofs.Ytpjmdljjmknpkaa

/- Walks: the reference's l6Some, l6Touched, TouchedBy, IsClosed. -/
namespace Go.Proofs.Ytpjmdljjmknpkaa
open Go.RowKit Pth

theorem touch1_in {n : Nat} {k : Int} (hk : 0 ≤ k ∧ k < (n : Int)) (nd : List Int) : ∀ {out : List Int}, (∀ x ∈ out, 0 ≤ x ∧ x < (n : Int)) → ∀ x ∈ touch1 k out nd, 0 ≤ x ∧ x < (n : Int) := by
  induction nd with
  | nil => intro out h; exact h
  | cons a b ih =>
    intro o ho
    refine ih (fun x hx0 => ?_)
    have hx : x ∈ (if hasL o a then putL o k else o) := hx0
    split at hx
    · rcases mem_put.1 hx with rfl | hx
      · exact hk
      · exact ho x hx
    · exact ho x hx
theorem short_in {l : List Int} {n : Nat} (hr : Rise l) (h : ∀ x ∈ l, 0 ≤ x ∧ x < (n : Int)) : l.length ≤ n := by
  have := rise_len (lo := 0) (hi := (n : Int) - 1) hr (fun x hx => by have := h x hx; omega) (by omega)
  omega

set_option maxRecDepth 20000 in
set_option maxHeartbeats 2000000 in
theorem l6Some_any (ls : List (List Int)) (l cs : List Int) (v u : Value) (w : World) (hst : GraphV w v ls l) (hrow : RowV w u (I cs)) :
    Calls Try.prog 95 #[v, u] w (BoolB (someG ls l cs) w) := by
  have HV := Lib.hid hst
  obtain ⟨nv, ov, rfl, h1, h2⟩ := hst
  obtain ⟨an, cn, rfl, hn1, hn2, hat⟩ := h1.lists
  obtain ⟨ao, co, rfl, ho1, ho2, hao⟩ := h2.ints
  clear h1 h2
  unfold maxLen at hn2 ho2
  have HAT := Lib.hid hat
  have HAO := Lib.hid hao
  clear hat hao
  obtain ⟨wa, hwa⟩ : ∃ wa, wa = w.alloc (.cells #[.slice an ls.length cn, .slice ao l.length co] 26) := ⟨_, rfl⟩
  have P0 : Hid (Blk2 wa w.heap.size 26 (.slice an ls.length cn) (.slice ao l.length co)) := by rw [hwa]; exact Blk2.new
  have HA : Hid (Below w.heap.size w wa) := by rw [hwa]; exact (Below.refl w.heap.size w).alloc (Nat.le_refl _) _
  have hsa : wa.heap.size = w.heap.size + 1 := by rw [hwa]; simp
  have HSA := Lib.hid hsa
  have hsz : w.heap.size < wa.heap.size := by omega
  have HWA := Lib.hid hwa
  obtain ⟨c0, c1⟩ := P0.out.cells
  have HU := Lib.hid hrow
  obtain ⟨ua, uc, rfl, hu1, hu2, _⟩ := hrow.ints
  clear hrow
  unfold maxLen at hu2
  have HC := specGood_any ls l _ wa (HV.out.below HA.out)
  have HE := Lib.hid (some_eq ls l cs)
  clear hwa
  rcases hG : goodG ls l with _ | _
  · rw [hG] at HC HE
    have HE2 : Hid (someG ls l cs = false) := HE.out.symm
    have HCC := Lib.hid HC
    clear HC hG HE
    go_enter Try.func95, Try.ntmps95
    go_wp2_with fail
    rw [← HWA.out]
    refine HCC.out.mono ?_
    rintro e w1 ⟨rfl, hb1⟩
    have HB1 := Lib.hid (bth HA.out hb1 (Nat.le_refl _))
    clear hb1 c0 c1
    go_wp2_with fail
    go_ret
    exact ⟨ret_bool HE2.out.symm, HB1.out⟩
  · rw [hG] at HC HE
    have HE2 : Hid (someG ls l cs = riseB 0 ((ls.length : Int) - 1) cs) := HE.out.symm
    have HCC := Lib.hid HC
    have hlow := (goodG_iff.1 hG).low
    have hhi := (goodG_iff.1 hG).high
    clear HC hG HE
    have HR := Lib.hid (fun W (h : Below w.heap.size w W) => l1Rising_any cs 0 ((ls.length : Int) - 1) _ W (HU.out.below h))
    generalize riseB 0 ((ls.length : Int) - 1) cs = b at *
    go_enter Try.func95, Try.ntmps95
    go_wp2_with fail
    rw [← HWA.out]
    refine HCC.out.mono ?_
    rintro e w1 ⟨rfl, hb1⟩
    have HB1 := Lib.hid (bth HA.out hb1 (Nat.le_refl _))
    have d0 := (P0.out.below hb1 hsz).cells.1
    have HR1 := Lib.hid (HR.out w1 HB1.out)
    clear hb1 c0 c1
    go_wp2_with fail
    refine HR1.out.mono ?_
    rintro e w2 ⟨rfl, rfl⟩
    go_wp2_with fail
    go_ret
    exact ⟨ret_bool HE2.out.symm, HB1.out⟩

set_option maxRecDepth 20000 in
set_option maxHeartbeats 8000000 in
theorem l6Touched_any (ls : List (List Int)) (l cs : List Int) (v u : Value) (w : World) (hst : GraphV w v ls l) (hrow : RowV w u (I cs)) (hG : GoodG ls l) (hr : Rise cs) (hc : ∀ x ∈ cs, 0 ≤ x ∧ x < (ls.length : Int)) :
    Calls Try.prog 96 #[v, u] w (IntsPost w.heap.size (touchS ls cs) w) := by
  have HIS := Lib.hid (touchL_is hG.toP hr hc)
  have HV := Lib.hid hst
  obtain ⟨nv, ov, rfl, h1, h2⟩ := hst
  obtain ⟨an, cn, rfl, hn1, hn2, hat⟩ := h1.lists
  obtain ⟨ao, co, rfl, ho1, ho2, hao⟩ := h2.ints
  clear h1 h2
  unfold maxLen at hn2 ho2
  have HAT := Lib.hid hat
  have HAO := Lib.hid hao
  clear hat hao
  obtain ⟨wa, hwa⟩ : ∃ wa, wa = w.alloc (.cells #[.slice an ls.length cn, .slice ao l.length co] 26) := ⟨_, rfl⟩
  have P0 : Hid (Blk2 wa w.heap.size 26 (.slice an ls.length cn) (.slice ao l.length co)) := by rw [hwa]; exact Blk2.new
  have HA : Hid (Below w.heap.size w wa) := by rw [hwa]; exact (Below.refl w.heap.size w).alloc (Nat.le_refl _) _
  have hsa : wa.heap.size = w.heap.size + 1 := by rw [hwa]; simp
  have HSA := Lib.hid hsa
  have hsz : w.heap.size < wa.heap.size := by omega
  have HWA := Lib.hid hwa
  have HU := Lib.hid hrow
  obtain ⟨ua, uc, rfl, hu1, hu2, _⟩ := hrow.ints
  clear hrow
  unfold maxLen at hu2
  have h10 := hG.high
  have hlow := hG.low
  have hsm := hG.same
  have HIN := Lib.hid (good_in hG)
  have HGG := Lib.hid hG
  have HSL := Lib.hid hsm
  have hl10 : l.length ≤ 10 := by omega
  have hcl : cs.length ≤ 10 := by have := short_in hr hc; omega
  have HCR := Lib.hid hr
  have HCI := Lib.hid hc
  clear hG hsm hr hc
  obtain ⟨qa, qc, w1, run1, o1, b1⟩ := lit_row cs ua uc wa _ rfl (HU.out.below HA.out) (by omega) 24
  have HRUN := Lib.hid run1
  have HO1 := Lib.hid o1
  have HB1 := Lib.hid b1
  have d0 := (P0.out.below b1 hsz).cells.1
  have d1 := (P0.out.below b1 hsz).cells.2
  clear o1 b1 run1 hwa hsa
  go_enter Try.func96, Try.ntmps96
  go_upto_region 1 with (fail)
  rw [← HWA.out]
  go_wp2_with (at_builtin; refine wpList_runApp rfl _ _ rfl rfl rfl HRUN.out ?_)
  clear d0 d1
  go_loopw [5, 16] (fun q i wr => ∃ k : Nat, k ≤ l.length ∧ i = .int .i64 (k : Int) ∧ Hid (wr.ownsRow wa.heap.size 3 1 q (touchL ls cs (l.take k)).length (I (touchL ls cs (l.take k)))) ∧ Hid (Below wa.heap.size wa wr)) (fun _ i _ => l.length - (intOf i).toNat)
  case atStart => exact ⟨0, Nat.zero_le _, rfl, HO1, HB1⟩
  case round =>
    clear HO1 HB1
    obtain ⟨k, hk, rfl, HO, HB⟩ := hrel
    by_cases hlt : k < l.length
    · obtain ⟨g, o, hgo, hg, hcell0⟩ := HAO.out k hlt
      subst hgo
      obtain ⟨un, hun⟩ : ∃ un : Nat, l[k] = un := ⟨l[k].toNat, by have := HGG.out.tasks l[k] (List.getElem_mem hlt); omega⟩
      have hul : un < ls.length := by have := HGG.out.tasks l[k] (List.getElem_mem hlt); omega
      have hul2 : (un : Int) < (ls.length : Int) := by omega
      have hcell : wr.cell? ⟨g, o + k, none⟩ = some (.int .i64 (un : Int)) := by rw [(bth HA.out HB.out (Nat.le_refl _)).cell (p := ⟨g, o + k, none⟩) hg, hcell0, hun]
      obtain ⟨d0, d1⟩ := (P0.out.below HB.out hsz).cells
      obtain ⟨g1, o1, a2, c2, hgn, hg1, hcell1, hrow⟩ := HAT.out un hul
      subst hgn
      have hcn : wr.cell? ⟨g1, o1 + un, none⟩ = some (.slice a2 ls[un].length c2) := ((bth HA.out HB.out (Nat.le_refl _)).cell (p := ⟨g1, o1 + un, none⟩) hg1).trans hcell1
      have HRW : Hid (∀ W, Below w.heap.size w W → RowV W (.slice a2 ls[un].length c2) (I ls[un])) := fun W h => hrow.below h
      have hnl : ls[un].length ≤ c2 ∧ c2 ≤ 2 ^ 63 - 1 := by
        obtain ⟨_, _, h, h', h4, _⟩ := hrow.ints
        unfold maxLen at h4
        injection h with _ _ h3; omega
      obtain ⟨hnl, hc2⟩ := hnl
      have HBK : Hid (touchL ls cs (l.take (k + 1)) = touch1 (un : Int) (touchL ls cs (l.take k)) ls[un]) := by
        show _ = _
        rw [List.take_succ_eq_append_getElem hlt, touchL_snoc, hun, needsAt_get hul]
      have HBR : Hid (Rise (touchL ls cs (l.take k)) ∧ ∀ x ∈ touchL ls cs (l.take k), 0 ≤ x ∧ x < (ls.length : Int)) := ⟨touchL_rise _ _ HCR.out, touchL_in ls.length (fun x hx => by have := HGG.out.tasks x (List.mem_of_mem_take hx); omega) HCI.out⟩
      generalize touchL ls cs (l.take k) = bk at *
      obtain ⟨ra, rc, hq⟩ := own_slice HO.out
      subst hq
      clear hcell0 hcell1 hrow hun
      go_wp2_with fail
      clear hcell hcn d0 d1
      go_loopw [5, 26] (fun q i wz => ∃ m : Nat, m ≤ ls[un].length ∧ i = .int .i64 (m : Int) ∧ Hid (wz.ownsRow wa.heap.size 3 1 q (touch1 (un : Int) bk (ls[un].take m)).length (I (touch1 (un : Int) bk (ls[un].take m)))) ∧ Hid (Below wa.heap.size wa wz)) (fun _ i _ => ls[un].length - (intOf i).toNat)
      case atStart => exact ⟨0, Nat.zero_le _, rfl, HO, HB⟩
      case round =>
        clear HO HB
        obtain ⟨m, hm, rfl, HO, HB⟩ := hrel
        by_cases hlt2 : m < ls[un].length
        · obtain ⟨ra, rc, hq⟩ := own_slice HO.out
          subst hq
          obtain ⟨gr, or, hra, hcr⟩ : ∃ gr or, a2 = some ⟨gr, or, none⟩ ∧ wr.cell? ⟨gr, or + m, none⟩ = some (.int .i64 ls[un][m]) := by
            obtain ⟨aa, cc, h, _, _, hc⟩ := (HRW.out wr (bth HA.out HB.out (Nat.le_refl _))).ints
            injection h with h1 _ _
            obtain ⟨gr, or, h2, _, h3⟩ := hc m hlt2
            exact ⟨gr, or, by rw [h1, h2], h3⟩
          subst hra
          have hlo : (touch1 (un : Int) bk (ls[un].take m)).length ≤ 10 := by
            have := short_in (touch1_rise (k := (un : Int)) (ls[un].take m) HBR.out.1) (touch1_in (n := ls.length) ⟨by omega, hul2⟩ _ HBR.out.2)
            omega
          have HE : Hid (touch1 (un : Int) bk (ls[un].take (m + 1)) = if hasL (touch1 (un : Int) bk (ls[un].take m)) ls[un][m] then putL (touch1 (un : Int) bk (ls[un].take m)) un else touch1 (un : Int) bk (ls[un].take m)) := by
            show _ = _
            rw [List.take_succ_eq_append_getElem hlt2, touch1_snoc]
          generalize touch1 (un : Int) bk (ls[un].take m) = bo at *
          generalize ls[un][m] = xm at *
          have HH := l1Has_any bo xm _ wr (RowV.of_own HO.out)
          rcases hh : hasL bo xm with _ | _
          · rw [hh] at HE HH
            have HE2 : Hid (touch1 (un : Int) bk (ls[un].take (m + 1)) = bo) := HE.out
            have HC := Lib.hid HH
            clear HH hh HE
            go_wp2_with fail
            refine HC.out.mono ?_
            rintro e w8 ⟨rfl, rfl⟩
            go_wp2_with fail
            go_roundw
            case rel => exact ⟨m + 1, by omega, by go_num, by rw [HE2.out]; exact HO, HB⟩
            case measure => simp [intOf]; omega
          · rw [hh] at HE HH
            have HE2 : Hid (touch1 (un : Int) bk (ls[un].take (m + 1)) = putL bo un) := HE.out
            have HC := Lib.hid HH
            have HP := Lib.hid (l1Put_any bo un wa.heap.size _ wr HO.out HB.out.size (by omega))
            clear HH hh HE
            go_wp2_with fail
            refine HC.out.mono ?_
            rintro e w8 ⟨rfl, rfl⟩
            go_wp2_with fail
            refine HP.out.mono ?_
            rintro e w9 ⟨v9, rfl, ho9, hb9⟩
            have HO9 := Lib.hid ho9
            have HB9 := Lib.hid (bth HB.out hb9 (Nat.le_refl _))
            clear ho9 hb9
            go_wp2_with fail
            go_roundw
            case rel => exact ⟨m + 1, by omega, by go_num, by rw [HE2.out]; exact HO9, HB9⟩
            case measure => simp [intOf]; omega
        · rw [List.take_of_length_le (by omega), ← HBK.out] at HO
          obtain ⟨ra, rc, hq⟩ := own_slice HO.out
          subst hq
          go_wp2_with fail
          go_roundw
          case rel => exact ⟨k + 1, by omega, by go_num, HO, HB⟩
          case measure => simp [intOf]; omega
    · rw [List.take_of_length_le (by omega), HIS.out] at HO
      obtain ⟨ra, rc, hq⟩ := own_slice HO.out
      subst hq
      go_wp2_with fail
      go_ret
      exact ⟨_, rfl, own_base HO.out (by omega), bth HA.out HB.out (Nat.le_refl _)⟩

set_option maxRecDepth 20000 in
set_option maxHeartbeats 8000000 in
theorem specTouched_any (ls : List (List Int)) (l cs : List Int) (v ucs : Value) (w : World) (hst : GraphV w v ls l) (hcs : RowV w ucs (I cs)) :
    Calls Try.prog 40 #[v, ucs] w (ListOk (touchA ls l cs) (someG ls l cs) w) := by
  have HV := Lib.hid hst
  obtain ⟨nv, ov, rfl, h1, h2⟩ := hst
  obtain ⟨an, cn, rfl, hn1, hn2, hat⟩ := h1.lists
  obtain ⟨ao, co, rfl, ho1, ho2, hao⟩ := h2.ints
  clear h1 h2
  unfold maxLen at hn2 ho2
  have HAT := Lib.hid hat
  have HAO := Lib.hid hao
  clear hat hao
  obtain ⟨wa, hwa⟩ : ∃ wa, wa = w.alloc (.cells #[.slice an ls.length cn, .slice ao l.length co] 26) := ⟨_, rfl⟩
  have P0 : Hid (Blk2 wa w.heap.size 26 (.slice an ls.length cn) (.slice ao l.length co)) := by rw [hwa]; exact Blk2.new
  have HA : Hid (Below w.heap.size w wa) := by rw [hwa]; exact (Below.refl w.heap.size w).alloc (Nat.le_refl _) _
  have hsa : wa.heap.size = w.heap.size + 1 := by rw [hwa]; simp
  have HSA := Lib.hid hsa
  have hsz : w.heap.size < wa.heap.size := by omega
  have HWA := Lib.hid hwa
  obtain ⟨c0, c1⟩ := P0.out.cells
  have HUcs := Lib.hid hcs
  obtain ⟨xacs, xccs, rfl, hxlcs, hxmcs, _⟩ := hcs.ints
  clear hcs
  unfold maxLen at hxmcs
  have HTcs := Lib.hid (fun W (h : Below wa.heap.size wa W) => l6Some_any ls l cs _ _ W (HV.out.below (bth HA.out h (Nat.le_refl _))) (HUcs.out.below (bth HA.out h (Nat.le_refl _))))
  have HNo : Hid ((someG ls l cs) = false → touchA ls l cs = []) := fun h => touchA_no h
  have HYes : Hid ((someG ls l cs) = true → touchA ls l cs = touchA_v ls l cs ∧ GoodG ls l ∧ (Rise cs ∧ ∀ x ∈ cs, 0 ≤ x ∧ x < (ls.length : Int))) := fun h => ⟨touchA_yes h, some_yes h⟩
  generalize touchA ls l cs = R at *
  generalize someG ls l cs = bcs at *
  clear hwa
  go_enter Try.func40, Try.ntmps40
  go_wp2_with fail
  rw [← HWA.out]
  refine (HTcs.out wa (Below.refl _ _)).mono ?_
  rintro e w1 ⟨rfl, hb1⟩
  have K1 := Lib.hid hb1
  obtain ⟨p1, q1⟩ := (P0.out.below K1.out hsz).cells
  clear hb1 c0 c1
  cases bcs with
  | false =>
    have hR := HNo.out rfl
    subst hR
    clear HNo HYes HTcs
    go_wp2_with fail
    go_ret2
    exact ⟨_, rfl, none_ownZ _ _ _, bth HA.out K1.out (Nat.le_refl _)⟩
  | true =>
    obtain ⟨hR, hG, hccs⟩ := HYes.out rfl
    clear HNo HYes HTcs
    have HKW := Lib.hid (bth HA.out K1.out (Nat.le_refl _))
    have PW := Lib.hid (P0.out.below K1.out hsz)
    have hszW := Nat.lt_of_lt_of_le hsz K1.out.size
    have HR : Hid (R = touchS ls cs) := hR
    have HC := Lib.hid (l6Touched_any ls l cs _ _ w1 (HV.out.below HKW.out) (HUcs.out.below HKW.out) hG hccs.1 hccs.2)
    rw [← HR.out] at HC
    clear hR hG hccs
    go_wp2_with fail
    refine HC.out.mono ?_
    rintro e wz ⟨vz, rfl, hoz, hbz⟩
    have HOZ := Lib.hid (own_base hoz HKW.out.size)
    have HBZ := Lib.hid (bth HKW.out hbz (Nat.le_refl _))
    clear hoz hbz p1 q1
    go_wp2_with fail
    go_ret2
    exact ⟨_, rfl, HOZ.out, HBZ.out⟩

set_option maxRecDepth 20000 in
set_option maxHeartbeats 8000000 in
theorem specClosed_any (ls : List (List Int)) (l cs : List Int) (v ucs : Value) (w : World) (hst : GraphV w v ls l) (hcs : RowV w ucs (I cs)) :
    Calls Try.prog 47 #[v, ucs] w (PairOk (shutA ls l cs) (someG ls l cs) w) := by
  have HV := Lib.hid hst
  obtain ⟨nv, ov, rfl, h1, h2⟩ := hst
  obtain ⟨an, cn, rfl, hn1, hn2, hat⟩ := h1.lists
  obtain ⟨ao, co, rfl, ho1, ho2, hao⟩ := h2.ints
  clear h1 h2
  unfold maxLen at hn2 ho2
  have HAT := Lib.hid hat
  have HAO := Lib.hid hao
  clear hat hao
  obtain ⟨wa, hwa⟩ : ∃ wa, wa = w.alloc (.cells #[.slice an ls.length cn, .slice ao l.length co] 26) := ⟨_, rfl⟩
  have P0 : Hid (Blk2 wa w.heap.size 26 (.slice an ls.length cn) (.slice ao l.length co)) := by rw [hwa]; exact Blk2.new
  have HA : Hid (Below w.heap.size w wa) := by rw [hwa]; exact (Below.refl w.heap.size w).alloc (Nat.le_refl _) _
  have hsa : wa.heap.size = w.heap.size + 1 := by rw [hwa]; simp
  have HSA := Lib.hid hsa
  have hsz : w.heap.size < wa.heap.size := by omega
  have HWA := Lib.hid hwa
  obtain ⟨c0, c1⟩ := P0.out.cells
  have HUcs := Lib.hid hcs
  obtain ⟨xacs, xccs, rfl, hxlcs, hxmcs, _⟩ := hcs.ints
  clear hcs
  unfold maxLen at hxmcs
  have HTcs := Lib.hid (fun W (h : Below wa.heap.size wa W) => l6Some_any ls l cs _ _ W (HV.out.below (bth HA.out h (Nat.le_refl _))) (HUcs.out.below (bth HA.out h (Nat.le_refl _))))
  have HNo : Hid ((someG ls l cs) = false → shutA ls l cs = false) := fun h => shutA_no h
  have HYes : Hid ((someG ls l cs) = true → shutA ls l cs = shutA_v ls l cs ∧ GoodG ls l ∧ (Rise cs ∧ ∀ x ∈ cs, 0 ≤ x ∧ x < (ls.length : Int))) := fun h => ⟨shutA_yes h, some_yes h⟩
  generalize shutA ls l cs = R at *
  generalize someG ls l cs = bcs at *
  clear hwa
  go_enter Try.func47, Try.ntmps47
  go_wp2_with fail
  rw [← HWA.out]
  refine (HTcs.out wa (Below.refl _ _)).mono ?_
  rintro e w1 ⟨rfl, hb1⟩
  have K1 := Lib.hid hb1
  obtain ⟨p1, q1⟩ := (P0.out.below K1.out hsz).cells
  clear hb1 c0 c1
  cases bcs with
  | false =>
    have hR := HNo.out rfl
    subst hR
    clear HNo HYes HTcs
    go_wp2_with fail
    go_ret2
    exact ⟨rfl, bth HA.out K1.out (Nat.le_refl _)⟩
  | true =>
    obtain ⟨hR, hG, hccs⟩ := HYes.out rfl
    clear HNo HYes HTcs
    have HKW := Lib.hid (bth HA.out K1.out (Nat.le_refl _))
    have PW := Lib.hid (P0.out.below K1.out hsz)
    have hszW := Nat.lt_of_lt_of_le hsz K1.out.size
    have HR : Hid (R = decide ((touchS ls cs).length = cs.length)) := hR.trans (shutB_len hccs.1 hccs.2).symm
    have HC := Lib.hid (l6Touched_any ls l cs _ _ w1 (HV.out.below HKW.out) (HUcs.out.below HKW.out) hG hccs.1 hccs.2)
    clear hR hG hccs
    go_wp2_with fail
    refine HC.out.mono ?_
    rintro e wz ⟨vz, rfl, hoz, hbz⟩
    have HBZ := Lib.hid (bth HKW.out hbz (Nat.le_refl _))
    obtain ⟨za, zc, hq⟩ := own_slice hoz
    subst hq
    clear hoz hbz p1 q1
    have HEB : Hid (((((touchS ls cs).length : Nat) : Int) == ((cs.length : Nat) : Int)) = R) := by
      show _ = _
      rw [HR.out, Bool.eq_iff_iff, decide_eq_true_iff, beq_iff_eq]
      omega
    generalize (touchS ls cs).length = n1 at *
    go_wp2_with fail
    go_ret2
    exact ⟨by rw [← HEB.out]; rfl, HBZ.out⟩
end Go.Proofs.Ytpjmdljjmknpkaa

/- Walks: the reference's l6Needed, NeededFor. -/
namespace Go.Proofs.Ytpjmdljjmknpkaa
open Go.RowKit Pth

set_option maxRecDepth 20000 in
set_option maxHeartbeats 8000000 in
theorem l6Needed_any (ls : List (List Int)) (l cs : List Int) (v u : Value) (w : World) (hst : GraphV w v ls l) (hrow : RowV w u (I cs)) (hG : GoodG ls l) (hr : Rise cs) (hc : ∀ x ∈ cs, 0 ≤ x ∧ x < (ls.length : Int)) :
    Calls Try.prog 102 #[v, u] w (IntsPost w.heap.size (needS ls cs) w) := by
  have HIS := Lib.hid (needF_is hG.toP hr hc)
  have HNR := Lib.hid hG.toP.needs_range
  have HV := Lib.hid hst
  obtain ⟨nv, ov, rfl, h1, h2⟩ := hst
  obtain ⟨an, cn, rfl, hn1, hn2, hat⟩ := h1.lists
  obtain ⟨ao, co, rfl, ho1, ho2, hao⟩ := h2.ints
  clear h1 h2
  unfold maxLen at hn2 ho2
  have HAT := Lib.hid hat
  have HAO := Lib.hid hao
  clear hat hao
  obtain ⟨wa, hwa⟩ : ∃ wa, wa = w.alloc (.cells #[.slice an ls.length cn, .slice ao l.length co] 26) := ⟨_, rfl⟩
  have P0 : Hid (Blk2 wa w.heap.size 26 (.slice an ls.length cn) (.slice ao l.length co)) := by rw [hwa]; exact Blk2.new
  have HA : Hid (Below w.heap.size w wa) := by rw [hwa]; exact (Below.refl w.heap.size w).alloc (Nat.le_refl _) _
  have hsa : wa.heap.size = w.heap.size + 1 := by rw [hwa]; simp
  have HSA := Lib.hid hsa
  have hsz : w.heap.size < wa.heap.size := by omega
  have HWA := Lib.hid hwa
  have HU := Lib.hid hrow
  obtain ⟨ua, uc, rfl, hu1, hu2, _⟩ := hrow.ints
  clear hrow
  unfold maxLen at hu2
  have h10 := hG.high
  have hlow := hG.low
  have hsm := hG.same
  have HIN := Lib.hid (good_in hG)
  have HGG := Lib.hid hG
  have HSL := Lib.hid hsm
  have hl10 : l.length ≤ 10 := by omega
  have hcl : cs.length ≤ 10 := by have := short_in hr hc; omega
  have HCR := Lib.hid hr
  have HCI := Lib.hid hc
  clear hG hsm hr hc
  obtain ⟨qa, qc, w1, run1, o1, b1⟩ := lit_row cs ua uc wa _ rfl (HU.out.below HA.out) (by omega) 24
  have HRUN := Lib.hid run1
  have HO1 := Lib.hid o1
  have HB1 := Lib.hid b1
  have d0 := (P0.out.below b1 hsz).cells.1
  have d1 := (P0.out.below b1 hsz).cells.2
  clear o1 b1 run1 hwa hsa
  go_enter Try.func102, Try.ntmps102
  go_upto_region 1 with (fail)
  rw [← HWA.out]
  go_wp2_with (at_builtin; refine wpList_runApp rfl _ _ rfl rfl rfl HRUN.out ?_)
  clear d0 d1
  go_loopw [5, 6] (fun q i wr => ∃ k : Nat, k ≤ l.length ∧ i = .int .i64 ((k : Int) - 1) ∧ Hid (wr.ownsRow wa.heap.size 3 1 q (needF ls cs (l.drop k)).length (I (needF ls cs (l.drop k)))) ∧ Hid (Below wa.heap.size wa wr)) (fun _ i _ => (intOf i + 1).toNat)
  case atStart => exact ⟨l.length, Nat.le_refl _, by go_num, by rw [List.drop_length]; exact HO1, HB1⟩
  case round =>
    clear HO1 HB1
    obtain ⟨k0, hk0, rfl, HO, HB⟩ := hrel
    by_cases hz : 0 < k0
    · obtain ⟨ra, rc, hq⟩ := own_slice HO.out
      subst hq
      obtain ⟨k, rfl⟩ : ∃ k, k0 = k + 1 := ⟨k0 - 1, by omega⟩
      have hkk : (((k + 1 : Nat) : Int) - 1) = (k : Int) := by omega
      rw [hkk]
      have hlt : k < l.length := by omega
      have hlt2 : (k : Int) < (l.length : Int) := by omega
      obtain ⟨g, o, hgo, hg, hcell0⟩ := HAO.out k hlt
      subst hgo
      obtain ⟨un, hun⟩ : ∃ un : Nat, l[k] = un := ⟨l[k].toNat, by have := HGG.out.tasks l[k] (List.getElem_mem hlt); omega⟩
      have hul : un < ls.length := by have := HGG.out.tasks l[k] (List.getElem_mem hlt); omega
      have hul2 : (un : Int) < (ls.length : Int) := by omega
      have hcell : wr.cell? ⟨g, o + k, none⟩ = some (.int .i64 (un : Int)) := by rw [(bth HA.out HB.out (Nat.le_refl _)).cell (p := ⟨g, o + k, none⟩) hg, hcell0, hun]
      obtain ⟨d0, d1⟩ := (P0.out.below HB.out hsz).cells
      obtain ⟨g1, o1, a2, c2, hgn, hg1, hcell1, hrow⟩ := HAT.out un hul
      subst hgn
      have hcn : wr.cell? ⟨g1, o1 + un, none⟩ = some (.slice a2 ls[un].length c2) := ((bth HA.out HB.out (Nat.le_refl _)).cell (p := ⟨g1, o1 + un, none⟩) hg1).trans hcell1
      have HRW : Hid (∀ W, Below w.heap.size w W → RowV W (.slice a2 ls[un].length c2) (I ls[un])) := fun W h => hrow.below h
      have hnl : ls[un].length ≤ c2 ∧ c2 ≤ 2 ^ 63 - 1 := by
        obtain ⟨_, _, h, h', h4, _⟩ := hrow.ints
        unfold maxLen at h4
        injection h with _ _ h3; omega
      obtain ⟨hnl, hc2⟩ := hnl
      have HBK : Hid (needF ls cs (l.drop k) = if hasL (needF ls cs (l.drop (k + 1))) (un : Int) then need1 (needF ls cs (l.drop (k + 1))) ls[un] else needF ls cs (l.drop (k + 1))) := by
        show _ = _
        rw [needF_drop hlt, hun, needsAt_get hul]
      have HBR : Hid (Rise (needF ls cs (l.drop (k + 1))) ∧ ∀ x ∈ needF ls cs (l.drop (k + 1)), 0 ≤ x ∧ x < (ls.length : Int)) := ⟨needF_rise _ _ HCR.out _, needF_in HNR.out HCI.out _ (fun x hx => by have := HGG.out.tasks x (List.mem_of_mem_drop hx); omega)⟩
      generalize needF ls cs (l.drop (k + 1)) = bk at *
      have HH := l1Has_any bk un _ wr (RowV.of_own HO.out)
      clear hcell0 hcell1 hrow hun
      rcases hh : hasL bk (un : Int) with _ | _
      · rw [hh] at HBK HH
        have HE2 : Hid (needF ls cs (l.drop k) = bk) := HBK.out
        have HC := Lib.hid HH
        clear HH hh HBK
        go_wp2_with fail
        refine HC.out.mono ?_
        rintro e w8 ⟨rfl, rfl⟩
        go_wp2_with fail
        go_roundw
        case rel => exact ⟨k, by omega, by go_num, by rw [HE2.out]; exact HO, HB⟩
        case measure => simp [intOf]
      · rw [hh] at HBK HH
        have HE2 : Hid (needF ls cs (l.drop k) = need1 bk ls[un]) := HBK.out
        have HC := Lib.hid HH
        clear HH hh HBK
        go_wp2_with fail
        refine HC.out.mono ?_
        rintro e w8 ⟨rfl, rfl⟩
        go_wp2_with fail
        clear hcell hcn d0 d1
        go_loopw [5, 35] (fun q i wz => ∃ m : Nat, m ≤ ls[un].length ∧ i = .int .i64 (m : Int) ∧ Hid (wz.ownsRow wa.heap.size 3 1 q (need1 bk (ls[un].take m)).length (I (need1 bk (ls[un].take m)))) ∧ Hid (Below wa.heap.size wa wz)) (fun _ i _ => ls[un].length - (intOf i).toNat)
        case atStart => exact ⟨0, Nat.zero_le _, rfl, HO, HB⟩
        case round =>
          clear HO HB
          obtain ⟨m, hm, rfl, HO, HB⟩ := hrel
          by_cases hlt3 : m < ls[un].length
          · obtain ⟨ra, rc, hq⟩ := own_slice HO.out
            subst hq
            obtain ⟨gr, or, hra, hcr⟩ : ∃ gr or, a2 = some ⟨gr, or, none⟩ ∧ wr.cell? ⟨gr, or + m, none⟩ = some (.int .i64 ls[un][m]) := by
              obtain ⟨aa, cc, h, _, _, hc⟩ := (HRW.out wr (bth HA.out HB.out (Nat.le_refl _))).ints
              injection h with h1 _ _
              obtain ⟨gr, or, h2, _, h3⟩ := hc m hlt3
              exact ⟨gr, or, by rw [h1, h2], h3⟩
            subst hra
            have hlo : (need1 bk (ls[un].take m)).length ≤ 10 := by
              have := short_in (need1_rise (ls[un].take m) HBR.out.1) (n := ls.length) (fun x hx => by
                rcases need1_mem.1 hx with h | h
                · exact HBR.out.2 x h
                · exact HIN.out un hul x (List.mem_of_mem_take h))
              omega
            have HE : Hid (need1 bk (ls[un].take (m + 1)) = putL (need1 bk (ls[un].take m)) ls[un][m]) := by
              show _ = _
              rw [List.take_succ_eq_append_getElem hlt3, need1_snoc]
            generalize need1 bk (ls[un].take m) = bo at *
            generalize ls[un][m] = xm at *
            have HP := Lib.hid (l1Put_any bo xm wa.heap.size _ wr HO.out HB.out.size (by omega))
            go_wp2_with fail
            refine HP.out.mono ?_
            rintro e w9 ⟨v9, rfl, ho9, hb9⟩
            have HO9 := Lib.hid ho9
            have HB9 := Lib.hid (bth HB.out hb9 (Nat.le_refl _))
            clear ho9 hb9
            go_wp2_with fail
            go_roundw
            case rel => exact ⟨m + 1, by omega, by go_num, by rw [HE.out]; exact HO9, HB9⟩
            case measure => simp [intOf]; omega
          · rw [List.take_of_length_le (by omega), ← HE2.out] at HO
            obtain ⟨ra, rc, hq⟩ := own_slice HO.out
            subst hq
            go_wp2_with fail
            go_roundw
            case rel => exact ⟨k, by omega, by go_num, HO, HB⟩
            case measure => simp [intOf]
    · obtain rfl : k0 = 0 := by omega
      have hz0 : (((0 : Nat) : Int) - 1) = -1 := by omega
      rw [hz0]
      rw [List.drop_zero, HIS.out] at HO
      obtain ⟨ra, rc, hq⟩ := own_slice HO.out
      subst hq
      go_wp2_with fail
      go_ret
      exact ⟨_, rfl, own_base HO.out (by omega), bth HA.out HB.out (Nat.le_refl _)⟩

set_option maxRecDepth 20000 in
set_option maxHeartbeats 8000000 in
theorem specNeeded_any (ls : List (List Int)) (l cs : List Int) (v ucs : Value) (w : World) (hst : GraphV w v ls l) (hcs : RowV w ucs (I cs)) :
    Calls Try.prog 58 #[v, ucs] w (ListOk (needA ls l cs) (someG ls l cs) w) := by
  have HV := Lib.hid hst
  obtain ⟨nv, ov, rfl, h1, h2⟩ := hst
  obtain ⟨an, cn, rfl, hn1, hn2, hat⟩ := h1.lists
  obtain ⟨ao, co, rfl, ho1, ho2, hao⟩ := h2.ints
  clear h1 h2
  unfold maxLen at hn2 ho2
  have HAT := Lib.hid hat
  have HAO := Lib.hid hao
  clear hat hao
  obtain ⟨wa, hwa⟩ : ∃ wa, wa = w.alloc (.cells #[.slice an ls.length cn, .slice ao l.length co] 26) := ⟨_, rfl⟩
  have P0 : Hid (Blk2 wa w.heap.size 26 (.slice an ls.length cn) (.slice ao l.length co)) := by rw [hwa]; exact Blk2.new
  have HA : Hid (Below w.heap.size w wa) := by rw [hwa]; exact (Below.refl w.heap.size w).alloc (Nat.le_refl _) _
  have hsa : wa.heap.size = w.heap.size + 1 := by rw [hwa]; simp
  have HSA := Lib.hid hsa
  have hsz : w.heap.size < wa.heap.size := by omega
  have HWA := Lib.hid hwa
  obtain ⟨c0, c1⟩ := P0.out.cells
  have HUcs := Lib.hid hcs
  obtain ⟨xacs, xccs, rfl, hxlcs, hxmcs, _⟩ := hcs.ints
  clear hcs
  unfold maxLen at hxmcs
  have HTcs := Lib.hid (fun W (h : Below wa.heap.size wa W) => l6Some_any ls l cs _ _ W (HV.out.below (bth HA.out h (Nat.le_refl _))) (HUcs.out.below (bth HA.out h (Nat.le_refl _))))
  have HNo : Hid ((someG ls l cs) = false → needA ls l cs = []) := fun h => needA_no h
  have HYes : Hid ((someG ls l cs) = true → needA ls l cs = needA_v ls l cs ∧ GoodG ls l ∧ (Rise cs ∧ ∀ x ∈ cs, 0 ≤ x ∧ x < (ls.length : Int))) := fun h => ⟨needA_yes h, some_yes h⟩
  generalize needA ls l cs = R at *
  generalize someG ls l cs = bcs at *
  clear hwa
  go_enter Try.func58, Try.ntmps58
  go_wp2_with fail
  rw [← HWA.out]
  refine (HTcs.out wa (Below.refl _ _)).mono ?_
  rintro e w1 ⟨rfl, hb1⟩
  have K1 := Lib.hid hb1
  obtain ⟨p1, q1⟩ := (P0.out.below K1.out hsz).cells
  clear hb1 c0 c1
  cases bcs with
  | false =>
    have hR := HNo.out rfl
    subst hR
    clear HNo HYes HTcs
    go_wp2_with fail
    go_ret2
    exact ⟨_, rfl, none_ownZ _ _ _, bth HA.out K1.out (Nat.le_refl _)⟩
  | true =>
    obtain ⟨hR, hG, hccs⟩ := HYes.out rfl
    clear HNo HYes HTcs
    have HKW := Lib.hid (bth HA.out K1.out (Nat.le_refl _))
    have PW := Lib.hid (P0.out.below K1.out hsz)
    have hszW := Nat.lt_of_lt_of_le hsz K1.out.size
    have HR : Hid (R = needS ls cs) := hR
    have HC := Lib.hid (l6Needed_any ls l cs _ _ w1 (HV.out.below HKW.out) (HUcs.out.below HKW.out) hG hccs.1 hccs.2)
    rw [← HR.out] at HC
    clear hR hG hccs
    go_wp2_with fail
    refine HC.out.mono ?_
    rintro e wz ⟨vz, rfl, hoz, hbz⟩
    have HOZ := Lib.hid (own_base hoz HKW.out.size)
    have HBZ := Lib.hid (bth HKW.out hbz (Nat.le_refl _))
    clear hoz hbz p1 q1
    go_wp2_with fail
    go_ret2
    exact ⟨_, rfl, HOZ.out, HBZ.out⟩
end Go.Proofs.Ytpjmdljjmknpkaa
