/- Texts of one claim, joined in their order. -/
import Derived.Lib.SlicesCompact
import Derived.Shelf.Small.Bits
import Derived.Shelf.Small.Wraps
import Derived.Shelf.Strconv.Itoa0
import Derived.Shelf.Strconv.Itoa1
import Derived.Shelf.LaysM
import Derived.Shelf.Strconv.Itoa2
import Derived.Shelf.Strconv.Itoa3
import Derived.Shelf.Strconv.Clone
import Derived.Shelf.Sort.Plain
import Derived.Shelf.Slices.In.SortNone
import Derived.Test.YtgolhfmmlanmlaaGreatDoorProg
import Derived.Lib.OwnBridge
import Derived.Sort.OwnSortedInts
import Derived.Test.YtgolhfmmlanmlaaGreatDoorRows
import Derived.WalkKit
import Derived.Deep.Quiet
import Derived.StillTail
import Derived.BigQuiet
import Derived.Test.YtgolhfmmlanmlaaGreatDoorM2
import Derived.Test.YtgolhfmmlanmlaaGreatDoorM1

/- Walks: digests of both programs; the reference's good recipes. -/
namespace Go.Proofs.YtgolhfmmlanmlaaGreatDoor
open Go.RowKit Pth

/-- A number and whether it was told. -/
def IntPost (x : Int) (b : Bool) (w : World) (e : Ending) (w' : World) : Prop := e = .returned (.tuple #[.int .i64 x, .bool b]) ∧ w = w'
theorem bytes_at {s : ByteArray} {k : Nat} (hk : k < s.size) : s.data.toList[k]'(by simpa using hk) = s[k] := rfl

/-- A bool is handed back; what lay there lies there. -/
def BoolPost (b : Bool) (w : World) (e : Ending) (w' : World) : Prop := e = .returned (.bool b) ∧ Below w.heap.size w w'
theorem in_l {n lo hi : Int} {b : Bool} (h : (decide (lo ≤ n) && decide (n ≤ hi)) = b) (w : World) : Calls Tryz.prog 124 #[.int .i64 n, .int .i64 lo, .int .i64 hi] w fun e w' => e = .returned (.bool b) ∧ w = w' := by
  have := l1In_any n lo hi w; rwa [h] at this
theorem nil_b {t : List UInt8} {b : Bool} (h : decide (t = []) = b) : (t == []) = b := by
  subst h; cases t <;> rfl

set_option maxRecDepth 20000 in
set_option maxHeartbeats 2000000 in
theorem l4Op_any (o : OpT) (ins : Int) (w : World) (h0 : 0 ≤ ins) (h1 : ins ≤ 10) (hx : o.2.2.length ≤ maxLen) :
    Calls Tryz.prog 128 #[opV o, .int .i64 ins] w (BoolPost (opOk ins o) w) := by
  obtain ⟨k, n, t⟩ := o
  unfold opV
  simp only at hx ⊢
  unfold maxLen at hx
  have HB := Lib.hid ((Below.refl w.heap.size w).alloc (Nat.le_refl _) (.cells #[.int .i64 k, .int .i64 n, .string ⟨t.toArray⟩] 141))
  by_cases k1 : k = 1
  · subst k1
    obtain ⟨b1, hb1⟩ : ∃ b, (decide (0 ≤ n) && decide (n ≤ ins - 1)) = b := ⟨_, rfl⟩
    obtain ⟨b2, hb2⟩ : ∃ b, decide (t = []) = b := ⟨_, rfl⟩
    have HT : Hid (opOk ins (1, n, t) = (b1 && b2)) := by rw [opOk_cat, hb1, hb2]; rfl
    have HC := Lib.hid (fun W => in_l hb1 W)
    have hn := nil_b hb2
    clear hb1 hb2
    rcases b1 with _ | _
    · go_enter Tryz.func128, Tryz.ntmps128
      go_wp2_with fail
      refine (HC.out _).mono ?_
      rintro e w1 ⟨rfl, rfl⟩
      go_wp2_with fail
      go_ret
      exact ⟨ret_bool HT.out.symm, HB.out⟩
    · go_enter Tryz.func128, Tryz.ntmps128
      go_wp2_with fail
      refine (HC.out _).mono ?_
      rintro e w1 ⟨rfl, rfl⟩
      go_wp2_with fail
      go_ret
      exact ⟨ret_bool HT.out.symm, HB.out⟩
  have e1 : (k == 1) = false := by simpa using k1
  by_cases k2 : k = 2
  · subst k2
    obtain ⟨b1, hb1⟩ : ∃ b, decide (n = 0) = b := ⟨_, rfl⟩
    obtain ⟨b2, hb2⟩ : ∃ b, decide (t.length ≤ 10) = b := ⟨_, rfl⟩
    have HT : Hid (opOk ins (2, n, t) = (b1 && b2)) := by rw [opOk_text, hb1, hb2]; rfl
    have hn1 : (n == 0) = b1 := hb1
    have hn2 : decide ((t.length : Int) ≤ 10) = b2 := by rw [← hb2]; exact decide_eq_decide.2 (by omega)
    clear hb1 hb2 e1 k1
    rcases b1 with _ | _ <;> rcases b2 with _ | _ <;>
      (go_enter Tryz.func128, Tryz.ntmps128
       go_wp2_with fail
       go_ret
       exact ⟨ret_bool HT.out.symm, HB.out⟩)
  have e2 : (k == 2) = false := by simpa using k2
  by_cases k5 : k = 5
  · subst k5
    obtain ⟨b1, hb1⟩ : ∃ b, (decide (0 ≤ n) && decide (n ≤ 40)) = b := ⟨_, rfl⟩
    obtain ⟨b2, hb2⟩ : ∃ b, decide (t = []) = b := ⟨_, rfl⟩
    have HT : Hid (opOk ins (5, n, t) = (b1 && b2)) := by rw [opOk_drop, hb1, hb2]; rfl
    have HC := Lib.hid (fun W => in_l hb1 W)
    have hn := nil_b hb2
    clear hb1 hb2 e1 k1 e2 k2
    rcases b1 with _ | _
    · go_enter Tryz.func128, Tryz.ntmps128
      go_wp2_with fail
      refine (HC.out _).mono ?_
      rintro e w1 ⟨rfl, rfl⟩
      go_wp2_with fail
      go_ret
      exact ⟨ret_bool HT.out.symm, HB.out⟩
    · go_enter Tryz.func128, Tryz.ntmps128
      go_wp2_with fail
      refine (HC.out _).mono ?_
      rintro e w1 ⟨rfl, rfl⟩
      go_wp2_with fail
      go_ret
      exact ⟨ret_bool HT.out.symm, HB.out⟩
  have e5 : (k == 5) = false := by simpa using k5
  by_cases k3 : k = 3 ∨ k = 4 ∨ k = 6 ∨ k = 7
  · obtain ⟨b1, hb1⟩ : ∃ b, decide (n = 0) = b := ⟨_, rfl⟩
    obtain ⟨b2, hb2⟩ : ∃ b, decide (t = []) = b := ⟨_, rfl⟩
    have HT : Hid (opOk ins (k, n, t) = (b1 && b2)) := by rw [opOk_bare k3, hb1, hb2]; rfl
    have hn1 : (n == 0) = b1 := hb1
    have hn := nil_b hb2
    clear hb1 hb2 k1 k2 k5 e1 e2 e5
    rcases k3 with rfl | rfl | rfl | rfl <;> rcases b1 with _ | _ <;>
      (go_enter Tryz.func128, Tryz.ntmps128
       go_wp2_with fail
       go_ret
       exact ⟨ret_bool HT.out.symm, HB.out⟩)
  · have k3' : k ≠ 3 ∧ k ≠ 4 ∧ k ≠ 6 ∧ k ≠ 7 := by omega
    have HT := Lib.hid (opOk_none (ins := ins) (n := n) (t := t) k1 k2 k3'.1 k3'.2.1 k5 k3'.2.2.1 k3'.2.2.2)
    have e3 : (k == 3) = false := by simpa using k3'.1
    have e4 : (k == 4) = false := by simpa using k3'.2.1
    have e6 : (k == 6) = false := by simpa using k3'.2.2.1
    have e7 : (k == 7) = false := by simpa using k3'.2.2.2
    clear k1 k2 k5 k3 k3'
    go_enter Tryz.func128, Tryz.ntmps128
    go_wp2_with fail
    go_ret
    exact ⟨ret_bool HT.out.symm, HB.out⟩

end Go.Proofs.YtgolhfmmlanmlaaGreatDoor

/- Walks: the reference's good recipes, what they read, their texts. -/
namespace Go.Proofs.YtgolhfmmlanmlaaGreatDoor
open Go.RowKit Pth

theorem l4Op_b {o : OpT} {ins : Int} {b : Bool} (h : opOk ins o = b) (h0 : 0 ≤ ins) (h1 : ins ≤ 10) (hx : o.2.2.length ≤ maxLen) (w : World) : Calls Tryz.prog 128 #[opV o, .int .i64 ins] w (BoolPost b w) := by
  have := l4Op_any o ins w h0 h1 hx; rwa [h] at this

set_option maxRecDepth 20000 in
set_option maxHeartbeats 2000000 in
theorem specGoodR_any (r : List OpT) (ins : Int) (v : Value) (w : World) (hrow : RowO w v r) (hx : ∀ f ∈ r, f.2.2.length ≤ maxLen) :
    Calls Tryz.prog 103 #[v, .int .i64 ins] w (BoolPost (goodR r ins) w) := by
  obtain ⟨a, cap, rfl, hc1, hc2, hat⟩ := hrow.ops
  clear hrow
  unfold maxLen at hc2
  by_cases hi : 0 ≤ ins ∧ ins ≤ 10
  · have HC0 := Lib.hid (fun W => in_l (n := ins) (lo := 0) (hi := 10) (b := true) (by simp [hi.1, hi.2]) W)
    by_cases h8 : 8 < r.length
    · have HT := Lib.hid (goodR_long (ins := ins) h8)
      have hd : decide ((r.length : Int) > 8) = true := decide_eq_true (by omega)
      clear hat hx
      go_enter Tryz.func103, Tryz.ntmps103
      go_wp2_with fail
      refine (HC0.out _).mono ?_
      rintro e w1 ⟨rfl, rfl⟩
      go_wp2_with fail
      go_ret
      exact ⟨ret_bool HT.out.symm, Below.refl _ _⟩
    · have hd : decide ((r.length : Int) > 8) = false := decide_eq_false (by omega)
      obtain ⟨hi0, hi1⟩ := hi
      go_enter Tryz.func103, Tryz.ntmps103
      go_wp2_with fail
      refine (HC0.out _).mono ?_
      rintro e w1 ⟨rfl, rfl⟩
      go_wp2_with fail
      go_loopw [17] (fun i wr => ∃ k : Nat, k ≤ r.length ∧ i = .int .i64 k ∧ Hid (Below w.heap.size w wr) ∧ Hid ((r.take k).all (opOk ins) = true)) (fun i _ => r.length - (intOf i).toNat)
      case atStart => exact ⟨0, Nat.zero_le _, rfl, Below.refl _ _, by simp [Hid]⟩
      case round =>
        obtain ⟨k, hk, rfl, HB, HO⟩ := hrel
        have hbs := HB.out.size
        by_cases hlt : k < r.length
        · obtain ⟨g, o, rfl, hg, hcell1, hcell2, hcell3⟩ := hat k hlt
          have s1 := (HB.out.cell (p := ⟨g, o + k * 3, none⟩) hg).trans hcell1
          have s2 := (HB.out.cell (p := ⟨g, o + k * 3 + 1, none⟩) hg).trans hcell2
          have s3 := (HB.out.cell (p := ⟨g, o + k * 3 + 2, none⟩) hg).trans hcell3
          have HBA := Lib.hid (HB.out.alloc hbs (.cells #[.int .i64 r[k].1, .int .i64 r[k].2.1, .string ⟨r[k].2.2.toArray⟩] 141))
          have hxl := hx r[k] (List.getElem_mem hlt)
          obtain ⟨b, hbE⟩ : ∃ b, opOk ins r[k] = b := ⟨_, rfl⟩
          have HC := Lib.hid (fun W => l4Op_b hbE hi0 hi1 hxl W)
          have HS : Hid (if b then (r.take (k + 1)).all (opOk ins) = true else goodR r ins = false) := by
            unfold Hid
            rcases b with _ | _
            · exact goodR_bad hlt hbE
            · exact all_next hlt HO.out hbE
          clear hcell1 hcell2 hcell3 hat HO hx hxl hbE
          generalize r[k] = x at s1 s2 s3 HC HBA
          obtain ⟨x1, x2, x3⟩ := x
          unfold opV at HC
          simp only at s1 s2 s3 HC HBA
          go_wp2_with fail
          refine (HC.out _).mono ?_
          rintro e w1 ⟨rfl, hb1⟩
          have HB1 := Lib.hid (HBA.out.trans (hb1.mono HBA.out.size))
          clear hb1 HC
          rcases b with _ | _
          · go_wp2_with fail
            go_ret
            exact ⟨ret_bool (by have := HS.out; simpa using this.symm), HB1.out⟩
          · go_wp2_with fail
            go_roundw
            case rel => exact ⟨k + 1, by omega, by go_num, HB1, by have := HS.out; simpa [Hid] using this⟩
            case measure => simp [intOf]; omega
        · have HT := Lib.hid (goodR_end hi0 hi1 (by omega) (by omega : r.length ≤ k) HO.out)
          clear HO hat hx
          go_wp2_with fail
          go_ret
          exact ⟨ret_bool HT.out.symm, HB.out⟩
  · have HC0 := Lib.hid (fun W => in_l (n := ins) (lo := 0) (hi := 10) (b := false) (by
      rcases Int.lt_or_le ins 0 with h | h
      · simp; omega
      · simp; omega) W)
    have HT := Lib.hid (goodR_ins (r := r) hi)
    clear hat hx
    go_enter Tryz.func103, Tryz.ntmps103
    go_wp2_with fail
    refine (HC0.out _).mono ?_
    rintro e w1 ⟨rfl, rfl⟩
    go_wp2_with fail
    go_ret
    exact ⟨ret_bool HT.out.symm, Below.refl _ _⟩

theorem specGood_b {r : List OpT} {ins : Int} {b : Bool} (h : goodR r ins = b) (v : Value) (w : World) (hrow : RowO w v r) (hx : ∀ f ∈ r, f.2.2.length ≤ maxLen) : Calls Tryz.prog 103 #[v, .int .i64 ins] w (BoolPost b w) := by
  have := specGoodR_any r ins v w hrow hx; rwa [h] at this

/-- Numbers and whether they stand are handed back, the numbers in memory of the call's own. -/
def IntsOk (l : List Int) (ok : Bool) (w : World) (e : Ending) (w' : World) : Prop :=
  ∃ v, e = .returned (.tuple #[v, .bool ok]) ∧ w'.ownsRow w.heap.size 3 1 v l.length (I l) ∧ Below w.heap.size w w'
/-- A text and whether it stands. -/
def TextOk (t : List UInt8) (ok : Bool) (w : World) (e : Ending) (w' : World) : Prop := e = .returned (.tuple #[.string ⟨t.toArray⟩, .bool ok]) ∧ Below w.heap.size w w'
theorem none_own (w : World) (B e : Nat) : w.ownsRow B e 1 (.slice none 0 0) 0 [] := ⟨rfl, .inl ⟨rfl, rfl⟩⟩
theorem read1_cat {out : List Int} {o : OpT} (h : (o.1 == 1) = true) : read1 out o = putL out o.2.1 := by
  rw [read1, if_pos (by simpa using h)]
theorem read1_not {out : List Int} {o : OpT} (h : (o.1 == 1) = false) : read1 out o = out := by
  rw [read1, if_neg (by simpa using h)]
theorem fold_len (r : List OpT) (out : List Int) : (r.foldl read1 out).length ≤ out.length + r.length := by
  induction r generalizing out with
  | nil => simp
  | cons o t ih =>
    have h1 := ih (read1 out o)
    have h2 : (read1 out o).length ≤ out.length + 1 := by
      unfold read1
      split
      · exact put_len _ _
      · omega
    simp only [List.foldl_cons, List.length_cons] at h1 ⊢
    omega

end Go.Proofs.YtgolhfmmlanmlaaGreatDoor

/- Plain mathematics: what is sorted and has no two alike any more; no program. -/
namespace Go.Proofs.YtgolhfmmlanmlaaGreatDoor
namespace Pth
open Go.Lib

def sortI (l : List Int) : List Int := l.mergeSort fun x y => decide (x ≤ y)
theorem sortI_perm (l : List Int) : (sortI l).Perm l := List.mergeSort_perm _ _
theorem sortI_sorted (l : List Int) : (sortI l).Pairwise (· ≤ ·) := by
  have := List.pairwise_mergeSort (le := fun a b : Int => decide (a ≤ b)) (fun a b c h1 h2 => by simp only [decide_eq_true_eq] at *; omega) (fun a b => by simp only [Bool.or_eq_true, decide_eq_true_eq]; omega) l
  exact this.imp (fun h => by simpa using h)
theorem get_bang {l : List Int} {j : Nat} (hj : j < l.length) : l.toArray[j]! = l[j] := by
  simp [hj]
theorem mem_compact {l : List Int} {x : Int} : x ∈ compact l ↔ x ∈ l := by
  unfold compact compactUpTo
  constructor
  · intro h
    obtain ⟨j, hj, rfl⟩ := List.mem_map.1 h
    have hj' := List.mem_range.1 (List.mem_filter.1 hj).1
    rw [get_bang hj']
    exact List.getElem_mem hj'
  · intro h
    have key : ∀ j : Nat, (hj : j < l.length) → l[j] = x → x ∈ ((List.range l.length).filter (keeps l.toArray)).map (l.toArray[·]!) := by
      intro j
      induction j with
      | zero =>
        intro hj hx
        refine List.mem_map.2 ⟨0, List.mem_filter.2 ⟨List.mem_range.2 hj, by simp [keeps]⟩, by rw [get_bang hj]; exact hx⟩
      | succ j ih =>
        intro hj hx
        by_cases he : l[j] = x
        · exact ih (by omega) he
        · refine List.mem_map.2 ⟨j + 1, List.mem_filter.2 ⟨List.mem_range.2 hj, ?_⟩, by rw [get_bang hj]; exact hx⟩
          apply keeps_pos
          rw [get_bang hj, Nat.add_sub_cancel, get_bang (by omega : j < l.length), hx]
          exact fun h => he h.symm
    obtain ⟨j, hj, hx⟩ := List.mem_iff_getElem.1 h
    exact key j hj hx
theorem compact_rise {l : List Int} (h : l.Pairwise (· ≤ ·)) : Rise (compact l) := by
  unfold compact compactUpTo Rise
  rw [List.pairwise_map]
  refine List.Pairwise.imp_of_mem (R := fun a b => a < b) ?_ (List.pairwise_lt_range.filter _)
  intro i j hi hj hlt
  have hi' := List.mem_range.1 (List.mem_filter.1 hi).1
  have hj' := List.mem_range.1 (List.mem_filter.1 hj).1
  have hk := (List.mem_filter.1 hj).2
  rw [get_bang hi', get_bang hj']
  have hne : l[j] ≠ l[j - 1] := by
    simp only [keeps, decide_eq_true_eq] at hk
    rcases hk with h0 | h0
    · omega
    · rwa [get_bang hj', get_bang (by omega : j - 1 < l.length)] at h0
  have h1 : l[j - 1] ≤ l[j] := List.pairwise_iff_getElem.1 h (j - 1) j (by omega) hj' (by omega)
  have h2 : l[i] ≤ l[j - 1] := by
    by_cases e : i = j - 1
    · subst e; exact Int.le_refl _
    · exact List.pairwise_iff_getElem.1 h i (j - 1) hi' (by omega) (by omega)
  omega
theorem compact_reads (r : List OpT) : compact (sortI (catsL r)) = readsL r :=
  reads_is (compact_rise (sortI_sorted _)) (fun x => by rw [mem_compact]; exact (sortI_perm _).mem_iff)

end Pth
end Go.Proofs.YtgolhfmmlanmlaaGreatDoor

/- The library's contracts that the walks use, at this program: each an application of the shelf's; each structure's fields are facts of the loaded program. -/
namespace Go.Proofs
open Go.Shelf Go.RowKit Go.Sort
def Tryz.lays125_ren : Go.Shelf.Ren := ⟨fun | 125 => 123 | 128 => 151 | 129 => 152 | n => n, fun | 46 => 158 | 3 => 3 | 51 => 182 | 53 => 184 | 4 => 4 | 5 => 5 | 9 => 9 | n => n, fun | n => n⟩
theorem Tryz.lays125 : Go.Proofs.Lays.n125 Tryz.prog Tryz.lays125_ren := {
  mixed := by kernel_rfl
  f125 := Tryz.func123.trans (congrArg some (by kernel_rfl))
  f128 := Tryz.func151.trans (congrArg some (by kernel_rfl))
  f129 := Tryz.func152.trans (congrArg some (by kernel_rfl))
  t3 := Tryz.underlying3
  a3 := Tryz.isAgg3
  z3 := Tryz.sizeOf3
  v3 := Tryz.zeroValue3
  t4 := Tryz.underlying4
  a4 := Tryz.isAgg4
  z4 := Tryz.sizeOf4
  v4 := Tryz.zeroValue4
  t5 := Tryz.underlying5
  a5 := Tryz.isAgg5
  z5 := Tryz.sizeOf5
  v5 := Tryz.zeroValue5
  t9 := Tryz.underlying9
  a9 := Tryz.isAgg9
  z9 := Tryz.sizeOf9
  v9 := Tryz.zeroValue9
  t46 := Tryz.underlying158
  a46 := Tryz.isAgg158
  z46 := Tryz.sizeOf158
  v46 := Tryz.zeroValue158
  t51 := Tryz.underlying182
  a51 := Tryz.isAgg182
  z51 := Tryz.sizeOf182
  v51 := Tryz.zeroValue182
  t53 := Tryz.underlying184
  a53 := Tryz.isAgg184
  z53 := Tryz.sizeOf184
  v53 := Tryz.zeroValue184 }
theorem Tryz.bits_Len (x : Int) (w : World) (h0 : 0 ≤ x) (h1 : x ≤ 18446744073709551615) :
    Calls Tryz.prog 123 #[.int .u64 x] w fun e w' => e = .returned (.int .i64 (Lib.bitLen x.toNat)) ∧ w' = w := Any.bits_Len Tryz.lays125 x w h0 h1
def Tryz.lays171_ren : Go.Shelf.Ren := ⟨fun | 171 => 169 | 243 => 171 | 246 => 173 | 283 => 183 | 284 => 184 | 285 => 185 | 286 => 186 | 129 => 152 | 317 => 191 | 318 => 192 | 319 => 193 | 320 => 194 | 337 => 196 | 338 => 197 | n => n, fun | 3 => 3 | 9 => 9 | 2 => 2 | 4 => 4 | 171 => 226 | 0 => 0 | 53 => 184 | 37 => 130 | 5 => 5 | 173 => 228 | 212 => 235 | 51 => 182 | 20 => 20 | 213 => 236 | 46 => 158 | 232 => 238 | 233 => 239 | n => n, fun | 17 => 0 | 18 => 1 | 19 => 2 | n => n⟩
theorem Tryz.lays171 : Go.Proofs.Lays.n171 Tryz.prog Tryz.lays171_ren := {
  mixed := by kernel_rfl
  f129 := Tryz.func152.trans (congrArg some (by kernel_rfl))
  f171 := Tryz.func169.trans (congrArg some (by kernel_rfl))
  f243 := Tryz.func171.trans (congrArg some (by kernel_rfl))
  f246 := Tryz.func173.trans (congrArg some (by kernel_rfl))
  f283 := Tryz.func183.trans (congrArg some (by kernel_rfl))
  f284 := Tryz.func184.trans (congrArg some (by kernel_rfl))
  f285 := Tryz.func185.trans (congrArg some (by kernel_rfl))
  f286 := Tryz.func186.trans (congrArg some (by kernel_rfl))
  f317 := Tryz.func191.trans (congrArg some (by kernel_rfl))
  f318 := Tryz.func192.trans (congrArg some (by kernel_rfl))
  f319 := Tryz.func193.trans (congrArg some (by kernel_rfl))
  f320 := Tryz.func194.trans (congrArg some (by kernel_rfl))
  f337 := Tryz.func196.trans (congrArg some (by kernel_rfl))
  f338 := Tryz.func197.trans (congrArg some (by kernel_rfl))
  t0 := Tryz.underlying0
  a0 := Tryz.isAgg0
  z0 := Tryz.sizeOf0
  v0 := Tryz.zeroValue0
  t2 := Tryz.underlying2
  a2 := Tryz.isAgg2
  z2 := Tryz.sizeOf2
  v2 := Tryz.zeroValue2
  t3 := Tryz.underlying3
  a3 := Tryz.isAgg3
  z3 := Tryz.sizeOf3
  v3 := Tryz.zeroValue3
  t4 := Tryz.underlying4
  a4 := Tryz.isAgg4
  z4 := Tryz.sizeOf4
  v4 := Tryz.zeroValue4
  t5 := Tryz.underlying5
  a5 := Tryz.isAgg5
  z5 := Tryz.sizeOf5
  v5 := Tryz.zeroValue5
  t9 := Tryz.underlying9
  a9 := Tryz.isAgg9
  z9 := Tryz.sizeOf9
  v9 := Tryz.zeroValue9
  t20 := Tryz.underlying20
  a20 := Tryz.isAgg20
  z20 := Tryz.sizeOf20
  v20 := Tryz.zeroValue20
  t37 := Tryz.underlying130
  a37 := Tryz.isAgg130
  z37 := Tryz.sizeOf130
  v37 := Tryz.zeroValue130
  t46 := Tryz.underlying158
  a46 := Tryz.isAgg158
  z46 := Tryz.sizeOf158
  v46 := Tryz.zeroValue158
  t51 := Tryz.underlying182
  a51 := Tryz.isAgg182
  z51 := Tryz.sizeOf182
  v51 := Tryz.zeroValue182
  t53 := Tryz.underlying184
  a53 := Tryz.isAgg184
  z53 := Tryz.sizeOf184
  v53 := Tryz.zeroValue184
  t171 := Tryz.underlying226
  a171 := Tryz.isAgg226
  z171 := Tryz.sizeOf226
  v171 := Tryz.zeroValue226
  t173 := Tryz.underlying228
  a173 := Tryz.isAgg228
  z173 := Tryz.sizeOf228
  v173 := Tryz.zeroValue228
  t212 := Tryz.underlying235
  a212 := Tryz.isAgg235
  z212 := Tryz.sizeOf235
  v212 := Tryz.zeroValue235
  t213 := Tryz.underlying236
  a213 := Tryz.isAgg236
  z213 := Tryz.sizeOf236
  t232 := Tryz.underlying238
  a232 := Tryz.isAgg238
  z232 := Tryz.sizeOf238
  v232 := Tryz.zeroValue238
  t233 := Tryz.underlying239
  a233 := Tryz.isAgg239
  z233 := Tryz.sizeOf239
  v233 := Tryz.zeroValue239
  g17 := by kernel_rfl
  g18 := by kernel_rfl
  g19 := by kernel_rfl }
theorem Tryz.strconv_Itoa_small (i : Nat) (hi : i < 100) (w : World) :
    Calls Tryz.prog 169 #[.int .i64 i] w fun e w' => e = .returned (.string ⟨(Lib.decDigits i).toArray⟩) ∧ w' = w := Any.strconv_Itoa_small Tryz.lays171 i hi w
def Tryz.laysM316_ren : Go.Shelf.Ren := ⟨fun | 316 => 139 | n => n, fun | 9 => 9 | 3 => 3 | 4 => 4 | 37 => 130 | 0 => 0 | 127 => 192 | 5 => 5 | n => n, fun | n => n⟩
theorem Tryz.laysM316 : Go.Proofs.LaysM.n316 Tryz.prog Tryz.laysM316_ren := {
  mixed := by kernel_rfl
  f316 := Tryz.func139.trans (congrArg some (by kernel_rfl))
  t0 := Tryz.underlying0
  a0 := Tryz.isAgg0
  z0 := Tryz.sizeOf0
  v0 := Tryz.zeroValue0
  t3 := Tryz.underlying3
  a3 := Tryz.isAgg3
  z3 := Tryz.sizeOf3
  v3 := Tryz.zeroValue3
  t4 := Tryz.underlying4
  a4 := Tryz.isAgg4
  z4 := Tryz.sizeOf4
  v4 := Tryz.zeroValue4
  t9 := Tryz.underlying9
  a9 := Tryz.isAgg9
  z9 := Tryz.sizeOf9
  v9 := Tryz.zeroValue9
  t37 := Tryz.underlying130
  a37 := Tryz.isAgg130
  z37 := Tryz.sizeOf130
  v37 := Tryz.zeroValue130
  t127 := Tryz.underlying192
  a127 := Tryz.isAgg192
  z127 := Tryz.sizeOf192
  v127 := Tryz.zeroValue192
  t5 := Tryz.underlying5
  a5 := Tryz.isAgg5
  z5 := Tryz.sizeOf5
  v5 := Tryz.zeroValue5
  i0 := by kernel_rfl
  i3 := by kernel_rfl
  i4 := by kernel_rfl
  i5 := by kernel_rfl
  i9 := by kernel_rfl
  i37 := by kernel_rfl
  i127 := by kernel_rfl }
theorem Tryz.stringslite_Clone (s : ByteArray) (w : World) (hlim : s.size ≤ 281474976710656) :
    Calls Tryz.prog 139 #[.string s] w fun e w' => e = .returned (.string s) ∧ Below w.heap.size w w' := Any.stringslite_Clone Tryz.laysM316 s w hlim
def Tryz.lays189_ren : Go.Shelf.Ren := ⟨fun | 189 => 99 | 125 => 123 | 257 => 122 | 128 => 151 | 129 => 152 | 294 => 142 | 295 => 143 | 296 => 144 | 297 => 145 | 298 => 146 | 299 => 147 | 216 => 148 | 300 => 149 | 301 => 150 | 328 => 159 | 329 => 160 | 330 => 161 | 331 => 162 | 332 => 163 | 215 => 164 | 343 => 166 | n => n, fun | 28 => 23 | 3 => 3 | 46 => 158 | 0 => 0 | 51 => 182 | 53 => 184 | 4 => 4 | 183 => 176 | 182 => 175 | 131 => 121 | 5 => 5 | 9 => 9 | 218 => 196 | 222 => 200 | 228 => 214 | 229 => 215 | n => n, fun | n => n⟩
theorem Tryz.lays189 : Go.Proofs.Lays.n189 Tryz.prog Tryz.lays189_ren := {
  mixed := by kernel_rfl
  f125 := Tryz.func123.trans (congrArg some (by kernel_rfl))
  f128 := Tryz.func151.trans (congrArg some (by kernel_rfl))
  f129 := Tryz.func152.trans (congrArg some (by kernel_rfl))
  f189 := Tryz.func99.trans (congrArg some (by kernel_rfl))
  f215 := Tryz.func164.trans (congrArg some (by kernel_rfl))
  f216 := Tryz.func148.trans (congrArg some (by kernel_rfl))
  f257 := Tryz.func122.trans (congrArg some (by kernel_rfl))
  f294 := Tryz.func142.trans (congrArg some (by kernel_rfl))
  f295 := Tryz.func143.trans (congrArg some (by kernel_rfl))
  f296 := Tryz.func144.trans (congrArg some (by kernel_rfl))
  f297 := Tryz.func145.trans (congrArg some (by kernel_rfl))
  f298 := Tryz.func146.trans (congrArg some (by kernel_rfl))
  f299 := Tryz.func147.trans (congrArg some (by kernel_rfl))
  f300 := Tryz.func149.trans (congrArg some (by kernel_rfl))
  f301 := Tryz.func150.trans (congrArg some (by kernel_rfl))
  f328 := Tryz.func159.trans (congrArg some (by kernel_rfl))
  f329 := Tryz.func160.trans (congrArg some (by kernel_rfl))
  f330 := Tryz.func161.trans (congrArg some (by kernel_rfl))
  f331 := Tryz.func162.trans (congrArg some (by kernel_rfl))
  f332 := Tryz.func163.trans (congrArg some (by kernel_rfl))
  f343 := Tryz.func166.trans (congrArg some (by kernel_rfl))
  t0 := Tryz.underlying0
  a0 := Tryz.isAgg0
  z0 := Tryz.sizeOf0
  v0 := Tryz.zeroValue0
  t3 := Tryz.underlying3
  a3 := Tryz.isAgg3
  z3 := Tryz.sizeOf3
  v3 := Tryz.zeroValue3
  t4 := Tryz.underlying4
  a4 := Tryz.isAgg4
  z4 := Tryz.sizeOf4
  v4 := Tryz.zeroValue4
  t5 := Tryz.underlying5
  a5 := Tryz.isAgg5
  z5 := Tryz.sizeOf5
  v5 := Tryz.zeroValue5
  t9 := Tryz.underlying9
  a9 := Tryz.isAgg9
  z9 := Tryz.sizeOf9
  v9 := Tryz.zeroValue9
  t28 := Tryz.underlying23
  a28 := Tryz.isAgg23
  z28 := Tryz.sizeOf23
  v28 := Tryz.zeroValue23
  t46 := Tryz.underlying158
  a46 := Tryz.isAgg158
  z46 := Tryz.sizeOf158
  v46 := Tryz.zeroValue158
  t51 := Tryz.underlying182
  a51 := Tryz.isAgg182
  z51 := Tryz.sizeOf182
  v51 := Tryz.zeroValue182
  t53 := Tryz.underlying184
  a53 := Tryz.isAgg184
  z53 := Tryz.sizeOf184
  v53 := Tryz.zeroValue184
  t131 := Tryz.underlying121
  a131 := Tryz.isAgg121
  z131 := Tryz.sizeOf121
  v131 := Tryz.zeroValue121
  t182 := Tryz.underlying175
  a182 := Tryz.isAgg175
  z182 := Tryz.sizeOf175
  v182 := Tryz.zeroValue175
  t183 := Tryz.underlying176
  a183 := Tryz.isAgg176
  z183 := Tryz.sizeOf176
  v183 := Tryz.zeroValue176
  t218 := Tryz.underlying196
  a218 := Tryz.isAgg196
  z218 := Tryz.sizeOf196
  v218 := Tryz.zeroValue196
  t222 := Tryz.underlying200
  a222 := Tryz.isAgg200
  z222 := Tryz.sizeOf200
  v222 := Tryz.zeroValue200
  t228 := Tryz.underlying214
  a228 := Tryz.isAgg214
  z228 := Tryz.sizeOf214
  v228 := Tryz.zeroValue214
  t229 := Tryz.underlying215
  a229 := Tryz.isAgg215
  z229 := Tryz.sizeOf215
  v229 := Tryz.zeroValue215 }
theorem Tryz.slices_Sort_int (blk off cap : Nat) (zs : List Int) (w : World) (hH : Holds (Value.int .i64) w blk off zs.toArray) (hblk : blk < w.heap.size) (hsz : zs.length < 4611686018427387904) :
    Calls Tryz.prog 99 #[.slice (some ⟨blk, off, none⟩) zs.length cap] w fun e w' =>
      e = .returned (.tuple #[]) ∧ ∃ n os, w' = grow (putRow (Value.int .i64) (Sort.ahead w n) blk off (zs.mergeSort fun x y => decide (x ≤ y)).toArray) os := Any.slices_Sort_int Tryz.lays189 blk off cap zs w hH hblk hsz
theorem Tryz.slices_Sort_int_none (p : Option Addr) (cap : Nat) (w : World) :
    Calls Tryz.prog 99 #[.slice p 0 cap] w fun e w' => e = .returned (.tuple #[]) ∧ w' = w := Any.slices_Sort_int_none Tryz.lays189 p cap w
end Go.Proofs

/- Numbers in memory of the call's own: sorted, and without two alike, by the library. -/
namespace Go.Proofs.YtgolhfmmlanmlaaGreatDoor
open Go.RowKit Pth Go.Lib Go.Sort

theorem I_enc (l : List Int) : I l = l.map (Value.int .i64) := rfl
theorem sortI_len (l : List Int) : (sortI l).length = l.length := (sortI_perm l).length_eq
theorem sortInts_any (l : List Int) (v : Value) (B : Nat) (w : World) (hown : w.ownsRow B 3 1 v l.length (I l)) (hl : l.length ≤ 1000000) (hB : B ≤ w.heap.size) :
    Calls Tryz.prog 99 #[v] w fun e w' => e = .returned (.tuple #[]) ∧ w'.ownsRow B 3 1 v (sortI l).length (I (sortI l)) ∧ Below B w w' := by
  rcases hown.2 with ⟨hv, h0⟩ | ⟨g, cap, cur, hv, hBg, hh, h1, h2, h3, h4⟩
  · subst hv
    have h00 : l = [] := List.eq_nil_of_length_eq_zero h0
    subst h00
    refine (Tryz.slices_Sort_int_none none 0 w).mono fun e w' ⟨he, hw⟩ => ?_
    subst hw
    rw [show sortI [] = [] by simp [sortI]]
    exact ⟨he, hown, Below.refl _ _⟩
  · subst hv
    have hH := holds_of_blockI (ss := l) hh (by rw [Nat.mul_one] at h4; rw [← I_enc]; exact h4)
    refine (Tryz.slices_Sort_int g 0 cap l w hH (lt_of_block hh) (by omega)).mono ?_
    rintro e w' ⟨he, n, os, rfl⟩
    refine ⟨he, ?_, (Below.refl B w).grown (grownBy_sortedI _) hB (fun k hk => by cases hk; exact hBg)⟩
    have := ownsRow_sortedI (base := B) (n := n) (os := os) (ss := l) (ts := sortI l) (sortI_len l) hBg hh h1 h2 h3
    rw [sortI_len, I_enc]
    exact this
theorem compact_len (l : List Int) : (compact l).length ≤ l.length := compact_length_le l
end Go.Proofs.YtgolhfmmlanmlaaGreatDoor

/- What a type assertion gives at each deed: closed facts of the loaded program. -/
namespace Go.Proofs.YtgolhfmmlanmlaaGreatDoor
open Go.RowKit

theorem ta_cat_cat (v : Value) (w : World) : (Instr.typeAssert (.iface 203 v) 186 203 true).run Tryz.prog w = .ok (.tuple #[v, .bool true]) w := by kernel_rfl
theorem ta_cat_text (v : Value) (w : World) : (Instr.typeAssert (.iface 203 v) 186 205 true).run Tryz.prog w = .ok (.tuple #[.agg #[.string ByteArray.empty], .bool false]) w := by kernel_rfl
theorem ta_cat_upper (v : Value) (w : World) : (Instr.typeAssert (.iface 203 v) 186 207 true).run Tryz.prog w = .ok (.tuple #[.agg #[], .bool false]) w := by kernel_rfl
theorem ta_cat_sort (v : Value) (w : World) : (Instr.typeAssert (.iface 203 v) 186 208 true).run Tryz.prog w = .ok (.tuple #[.agg #[], .bool false]) w := by kernel_rfl
theorem ta_cat_drop (v : Value) (w : World) : (Instr.typeAssert (.iface 203 v) 186 210 true).run Tryz.prog w = .ok (.tuple #[.agg #[.int .i64 0], .bool false]) w := by kernel_rfl
theorem ta_cat_count (v : Value) (w : World) : (Instr.typeAssert (.iface 203 v) 186 211 true).run Tryz.prog w = .ok (.tuple #[.agg #[], .bool false]) w := by kernel_rfl
theorem ta_cat_fail (v : Value) (w : World) : (Instr.typeAssert (.iface 203 v) 186 212 true).run Tryz.prog w = .ok (.tuple #[.agg #[], .bool false]) w := by kernel_rfl
theorem ta_text_cat (v : Value) (w : World) : (Instr.typeAssert (.iface 205 v) 186 203 true).run Tryz.prog w = .ok (.tuple #[.agg #[.int .i64 0], .bool false]) w := by kernel_rfl
theorem ta_text_text (v : Value) (w : World) : (Instr.typeAssert (.iface 205 v) 186 205 true).run Tryz.prog w = .ok (.tuple #[v, .bool true]) w := by kernel_rfl
theorem ta_text_upper (v : Value) (w : World) : (Instr.typeAssert (.iface 205 v) 186 207 true).run Tryz.prog w = .ok (.tuple #[.agg #[], .bool false]) w := by kernel_rfl
theorem ta_text_sort (v : Value) (w : World) : (Instr.typeAssert (.iface 205 v) 186 208 true).run Tryz.prog w = .ok (.tuple #[.agg #[], .bool false]) w := by kernel_rfl
theorem ta_text_drop (v : Value) (w : World) : (Instr.typeAssert (.iface 205 v) 186 210 true).run Tryz.prog w = .ok (.tuple #[.agg #[.int .i64 0], .bool false]) w := by kernel_rfl
theorem ta_text_count (v : Value) (w : World) : (Instr.typeAssert (.iface 205 v) 186 211 true).run Tryz.prog w = .ok (.tuple #[.agg #[], .bool false]) w := by kernel_rfl
theorem ta_text_fail (v : Value) (w : World) : (Instr.typeAssert (.iface 205 v) 186 212 true).run Tryz.prog w = .ok (.tuple #[.agg #[], .bool false]) w := by kernel_rfl
theorem ta_upper_cat (v : Value) (w : World) : (Instr.typeAssert (.iface 207 v) 186 203 true).run Tryz.prog w = .ok (.tuple #[.agg #[.int .i64 0], .bool false]) w := by kernel_rfl
theorem ta_upper_text (v : Value) (w : World) : (Instr.typeAssert (.iface 207 v) 186 205 true).run Tryz.prog w = .ok (.tuple #[.agg #[.string ByteArray.empty], .bool false]) w := by kernel_rfl
theorem ta_upper_upper (v : Value) (w : World) : (Instr.typeAssert (.iface 207 v) 186 207 true).run Tryz.prog w = .ok (.tuple #[v, .bool true]) w := by kernel_rfl
theorem ta_upper_sort (v : Value) (w : World) : (Instr.typeAssert (.iface 207 v) 186 208 true).run Tryz.prog w = .ok (.tuple #[.agg #[], .bool false]) w := by kernel_rfl
theorem ta_upper_drop (v : Value) (w : World) : (Instr.typeAssert (.iface 207 v) 186 210 true).run Tryz.prog w = .ok (.tuple #[.agg #[.int .i64 0], .bool false]) w := by kernel_rfl
theorem ta_upper_count (v : Value) (w : World) : (Instr.typeAssert (.iface 207 v) 186 211 true).run Tryz.prog w = .ok (.tuple #[.agg #[], .bool false]) w := by kernel_rfl
theorem ta_upper_fail (v : Value) (w : World) : (Instr.typeAssert (.iface 207 v) 186 212 true).run Tryz.prog w = .ok (.tuple #[.agg #[], .bool false]) w := by kernel_rfl
theorem ta_sort_cat (v : Value) (w : World) : (Instr.typeAssert (.iface 208 v) 186 203 true).run Tryz.prog w = .ok (.tuple #[.agg #[.int .i64 0], .bool false]) w := by kernel_rfl
theorem ta_sort_text (v : Value) (w : World) : (Instr.typeAssert (.iface 208 v) 186 205 true).run Tryz.prog w = .ok (.tuple #[.agg #[.string ByteArray.empty], .bool false]) w := by kernel_rfl
theorem ta_sort_upper (v : Value) (w : World) : (Instr.typeAssert (.iface 208 v) 186 207 true).run Tryz.prog w = .ok (.tuple #[.agg #[], .bool false]) w := by kernel_rfl
theorem ta_sort_sort (v : Value) (w : World) : (Instr.typeAssert (.iface 208 v) 186 208 true).run Tryz.prog w = .ok (.tuple #[v, .bool true]) w := by kernel_rfl
theorem ta_sort_drop (v : Value) (w : World) : (Instr.typeAssert (.iface 208 v) 186 210 true).run Tryz.prog w = .ok (.tuple #[.agg #[.int .i64 0], .bool false]) w := by kernel_rfl
theorem ta_sort_count (v : Value) (w : World) : (Instr.typeAssert (.iface 208 v) 186 211 true).run Tryz.prog w = .ok (.tuple #[.agg #[], .bool false]) w := by kernel_rfl
theorem ta_sort_fail (v : Value) (w : World) : (Instr.typeAssert (.iface 208 v) 186 212 true).run Tryz.prog w = .ok (.tuple #[.agg #[], .bool false]) w := by kernel_rfl
theorem ta_drop_cat (v : Value) (w : World) : (Instr.typeAssert (.iface 210 v) 186 203 true).run Tryz.prog w = .ok (.tuple #[.agg #[.int .i64 0], .bool false]) w := by kernel_rfl
theorem ta_drop_text (v : Value) (w : World) : (Instr.typeAssert (.iface 210 v) 186 205 true).run Tryz.prog w = .ok (.tuple #[.agg #[.string ByteArray.empty], .bool false]) w := by kernel_rfl
theorem ta_drop_upper (v : Value) (w : World) : (Instr.typeAssert (.iface 210 v) 186 207 true).run Tryz.prog w = .ok (.tuple #[.agg #[], .bool false]) w := by kernel_rfl
theorem ta_drop_sort (v : Value) (w : World) : (Instr.typeAssert (.iface 210 v) 186 208 true).run Tryz.prog w = .ok (.tuple #[.agg #[], .bool false]) w := by kernel_rfl
theorem ta_drop_drop (v : Value) (w : World) : (Instr.typeAssert (.iface 210 v) 186 210 true).run Tryz.prog w = .ok (.tuple #[v, .bool true]) w := by kernel_rfl
theorem ta_drop_count (v : Value) (w : World) : (Instr.typeAssert (.iface 210 v) 186 211 true).run Tryz.prog w = .ok (.tuple #[.agg #[], .bool false]) w := by kernel_rfl
theorem ta_drop_fail (v : Value) (w : World) : (Instr.typeAssert (.iface 210 v) 186 212 true).run Tryz.prog w = .ok (.tuple #[.agg #[], .bool false]) w := by kernel_rfl
theorem ta_count_cat (v : Value) (w : World) : (Instr.typeAssert (.iface 211 v) 186 203 true).run Tryz.prog w = .ok (.tuple #[.agg #[.int .i64 0], .bool false]) w := by kernel_rfl
theorem ta_count_text (v : Value) (w : World) : (Instr.typeAssert (.iface 211 v) 186 205 true).run Tryz.prog w = .ok (.tuple #[.agg #[.string ByteArray.empty], .bool false]) w := by kernel_rfl
theorem ta_count_upper (v : Value) (w : World) : (Instr.typeAssert (.iface 211 v) 186 207 true).run Tryz.prog w = .ok (.tuple #[.agg #[], .bool false]) w := by kernel_rfl
theorem ta_count_sort (v : Value) (w : World) : (Instr.typeAssert (.iface 211 v) 186 208 true).run Tryz.prog w = .ok (.tuple #[.agg #[], .bool false]) w := by kernel_rfl
theorem ta_count_drop (v : Value) (w : World) : (Instr.typeAssert (.iface 211 v) 186 210 true).run Tryz.prog w = .ok (.tuple #[.agg #[.int .i64 0], .bool false]) w := by kernel_rfl
theorem ta_count_count (v : Value) (w : World) : (Instr.typeAssert (.iface 211 v) 186 211 true).run Tryz.prog w = .ok (.tuple #[v, .bool true]) w := by kernel_rfl
theorem ta_count_fail (v : Value) (w : World) : (Instr.typeAssert (.iface 211 v) 186 212 true).run Tryz.prog w = .ok (.tuple #[.agg #[], .bool false]) w := by kernel_rfl
theorem ta_fail_cat (v : Value) (w : World) : (Instr.typeAssert (.iface 212 v) 186 203 true).run Tryz.prog w = .ok (.tuple #[.agg #[.int .i64 0], .bool false]) w := by kernel_rfl
theorem ta_fail_text (v : Value) (w : World) : (Instr.typeAssert (.iface 212 v) 186 205 true).run Tryz.prog w = .ok (.tuple #[.agg #[.string ByteArray.empty], .bool false]) w := by kernel_rfl
theorem ta_fail_upper (v : Value) (w : World) : (Instr.typeAssert (.iface 212 v) 186 207 true).run Tryz.prog w = .ok (.tuple #[.agg #[], .bool false]) w := by kernel_rfl
theorem ta_fail_sort (v : Value) (w : World) : (Instr.typeAssert (.iface 212 v) 186 208 true).run Tryz.prog w = .ok (.tuple #[.agg #[], .bool false]) w := by kernel_rfl
theorem ta_fail_drop (v : Value) (w : World) : (Instr.typeAssert (.iface 212 v) 186 210 true).run Tryz.prog w = .ok (.tuple #[.agg #[.int .i64 0], .bool false]) w := by kernel_rfl
theorem ta_fail_count (v : Value) (w : World) : (Instr.typeAssert (.iface 212 v) 186 211 true).run Tryz.prog w = .ok (.tuple #[.agg #[], .bool false]) w := by kernel_rfl
theorem ta_fail_fail (v : Value) (w : World) : (Instr.typeAssert (.iface 212 v) 186 212 true).run Tryz.prog w = .ok (.tuple #[v, .bool true]) w := by kernel_rfl

end Go.Proofs.YtgolhfmmlanmlaaGreatDoor

/- Walks: the program's deeds, one by one. -/
namespace Go.Proofs.YtgolhfmmlanmlaaGreatDoor
open Go.RowKit Pth

def catV (n : Int) : Value := .iface 203 (.agg #[.int .i64 n])
def textV (t : List UInt8) : Value := .iface 205 (.agg #[.string ⟨t.toArray⟩])
def upperV : Value := .iface 207 (.agg #[])
def sortV : Value := .iface 208 (.agg #[])
def dropV (n : Int) : Value := .iface 210 (.agg #[.int .i64 n])
def countV : Value := .iface 211 (.agg #[])
def failV : Value := .iface 212 (.agg #[])
/-- A deed is told. -/
def DeedPost (d : Value) (b : Bool) (w : World) (e : Ending) (w' : World) : Prop := e = .returned (.tuple #[d, .bool b]) ∧ Below w.heap.size w w'
/-- An op is told. -/
def OpPost (o : OpT) (w : World) (e : Ending) (w' : World) : Prop := e = .returned (opV o) ∧ Below w.heap.size w w'
/-- A bool is handed back; what lay there lies there. -/
def BPost (b : Bool) (w : World) (e : Ending) (w' : World) : Prop := e = .returned (.bool b) ∧ Below w.heap.size w w'

set_option maxRecDepth 20000 in
set_option maxHeartbeats 2000000 in
theorem deedOf_cat (n : Int) (t : List UInt8) (w : World) : Calls Tryz.prog 153 #[opV (1, n, t)] w (DeedPost (catV n) true w) := by
  unfold opV catV
  simp only
  have HB := Lib.hid ((Below.refl w.heap.size w).alloc (Nat.le_refl _) (.cells #[.int .i64 1, .int .i64 n, .string ⟨t.toArray⟩] 141))
  go_enter Tryz.func153, Tryz.ntmps153
  go_wp2_with fail
  go_ret2
  exact ⟨rfl, HB.out⟩

set_option maxRecDepth 20000 in
set_option maxHeartbeats 2000000 in
theorem asOp_cat (n : Int) (w : World) : Calls Tryz.prog 214 #[.agg #[.int .i64 n]] w (OpPost (1, n, []) w) := by
  unfold OpPost opV
  simp only
  go_enter Tryz.func214, Tryz.ntmps214
  go_wp2_with fail
  refine bodyPost_ret (results_cellO rfl rfl (load_op (x := .int .i64 1) (y := .int .i64 n) (z := .string ⟨#[]⟩) (by go_simp) (by go_simp) (by go_simp))) rfl ?_
  exact ⟨rfl, ((Below.refl w.heap.size w).alloc (Nat.le_refl _) _).alloc (by simp) _⟩

set_option maxRecDepth 20000 in
set_option maxHeartbeats 2000000 in
theorem range_cat (n ins : Int) (w : World) : Calls Tryz.prog 154 #[catV n, .int .i64 ins] w (BPost (decide (0 ≤ n) && decide (n < ins)) w) := by
  unfold catV
  have HB := Lib.hid ((Below.refl w.heap.size w).alloc (Nat.le_refl _) (.cells #[.int .i64 n] 203))
  have qcat := ta_cat_cat (.agg #[.int .i64 n])
  obtain ⟨b1, hb1⟩ : ∃ b, decide (0 ≤ n) = b := ⟨_, rfl⟩
  obtain ⟨b2, hb2⟩ : ∃ b, decide (n < ins) = b := ⟨_, rfl⟩
  have HT : Hid ((decide (0 ≤ n) && decide (n < ins)) = (b1 && b2)) := by rw [hb1, hb2]; rfl
  rw [HT.out]
  rcases b1 with _ | _ <;> rcases b2 with _ | _ <;>
    (go_enter Tryz.func154, Tryz.ntmps154
     go_wp2_with fail
     go_ret
     exact ⟨rfl, HB.out⟩)

set_option maxRecDepth 20000 in
set_option maxHeartbeats 2000000 in
theorem deedOf_text (n : Int) (t : List UInt8) (w : World) : Calls Tryz.prog 153 #[opV (2, n, t)] w (DeedPost (textV t) true w) := by
  unfold opV textV
  simp only
  have HB := Lib.hid ((Below.refl w.heap.size w).alloc (Nat.le_refl _) (.cells #[.int .i64 2, .int .i64 n, .string ⟨t.toArray⟩] 141))
  go_enter Tryz.func153, Tryz.ntmps153
  go_wp2_with fail
  go_ret2
  exact ⟨rfl, HB.out⟩

set_option maxRecDepth 20000 in
set_option maxHeartbeats 2000000 in
theorem asOp_text (t : List UInt8) (w : World) : Calls Tryz.prog 215 #[.agg #[.string ⟨t.toArray⟩]] w (OpPost (2, 0, t) w) := by
  unfold OpPost opV
  simp only
  go_enter Tryz.func215, Tryz.ntmps215
  go_wp2_with fail
  refine bodyPost_ret (results_cellO rfl rfl (load_op (x := .int .i64 2) (y := .int .i64 0) (z := .string ⟨t.toArray⟩) (by go_simp) (by go_simp) (by go_simp))) rfl ?_
  exact ⟨rfl, ((Below.refl w.heap.size w).alloc (Nat.le_refl _) _).alloc (by simp) _⟩

set_option maxRecDepth 20000 in
set_option maxHeartbeats 2000000 in
theorem range_text (t : List UInt8) (ins : Int) (w : World) : Calls Tryz.prog 154 #[textV t, .int .i64 ins] w (BPost (decide (t.length ≤ 10)) w) := by
  unfold textV
  have HB := Lib.hid ((Below.refl w.heap.size w).alloc (Nat.le_refl _) (.cells #[.string ⟨t.toArray⟩] 205))
  have qcat := ta_text_cat (.agg #[.string ⟨t.toArray⟩])
  have qtext := ta_text_text (.agg #[.string ⟨t.toArray⟩])
  obtain ⟨b2, hb2⟩ : ∃ b, decide ((t.length : Int) ≤ 10) = b := ⟨_, rfl⟩
  have HT : Hid (decide (t.length ≤ 10) = b2) := by rw [← hb2]; exact decide_eq_decide.2 (by omega)
  rw [HT.out]
  rcases b2 with _ | _ <;>
    (go_enter Tryz.func154, Tryz.ntmps154
     go_wp2_with fail
     go_ret
     exact ⟨rfl, HB.out⟩)

set_option maxRecDepth 20000 in
set_option maxHeartbeats 2000000 in
theorem deedOf_upper (n : Int) (t : List UInt8) (w : World) : Calls Tryz.prog 153 #[opV (3, n, t)] w (DeedPost (upperV) true w) := by
  unfold opV upperV
  simp only
  have HB := Lib.hid ((Below.refl w.heap.size w).alloc (Nat.le_refl _) (.cells #[.int .i64 3, .int .i64 n, .string ⟨t.toArray⟩] 141))
  go_enter Tryz.func153, Tryz.ntmps153
  go_wp2_with fail
  go_ret2
  exact ⟨rfl, HB.out⟩

set_option maxRecDepth 20000 in
set_option maxHeartbeats 2000000 in
theorem asOp_upper (w : World) : Calls Tryz.prog 216 #[.agg #[]] w (OpPost (3, 0, []) w) := by
  unfold OpPost opV
  simp only
  go_enter Tryz.func216, Tryz.ntmps216
  go_wp2_with fail
  refine bodyPost_ret (results_cellO rfl rfl (load_op (x := .int .i64 3) (y := .int .i64 0) (z := .string ⟨#[]⟩) (by go_simp) (by go_simp) (by go_simp))) rfl ?_
  exact ⟨rfl, ((Below.refl w.heap.size w).alloc (Nat.le_refl _) _).alloc (by simp) _⟩

set_option maxRecDepth 20000 in
set_option maxHeartbeats 2000000 in
theorem range_upper (ins : Int) (w : World) : Calls Tryz.prog 154 #[upperV, .int .i64 ins] w (BPost true w) := by
  unfold upperV
  have qcat := ta_upper_cat (.agg #[])
  have qtext := ta_upper_text (.agg #[])
  have qdrop := ta_upper_drop (.agg #[])
  go_enter Tryz.func154, Tryz.ntmps154
  go_wp2_with fail
  go_ret
  exact ⟨rfl, Below.refl _ _⟩

set_option maxRecDepth 20000 in
set_option maxHeartbeats 2000000 in
theorem deedOf_sort (n : Int) (t : List UInt8) (w : World) : Calls Tryz.prog 153 #[opV (4, n, t)] w (DeedPost (sortV) true w) := by
  unfold opV sortV
  simp only
  have HB := Lib.hid ((Below.refl w.heap.size w).alloc (Nat.le_refl _) (.cells #[.int .i64 4, .int .i64 n, .string ⟨t.toArray⟩] 141))
  go_enter Tryz.func153, Tryz.ntmps153
  go_wp2_with fail
  go_ret2
  exact ⟨rfl, HB.out⟩

set_option maxRecDepth 20000 in
set_option maxHeartbeats 2000000 in
theorem asOp_sort (w : World) : Calls Tryz.prog 217 #[.agg #[]] w (OpPost (4, 0, []) w) := by
  unfold OpPost opV
  simp only
  go_enter Tryz.func217, Tryz.ntmps217
  go_wp2_with fail
  refine bodyPost_ret (results_cellO rfl rfl (load_op (x := .int .i64 4) (y := .int .i64 0) (z := .string ⟨#[]⟩) (by go_simp) (by go_simp) (by go_simp))) rfl ?_
  exact ⟨rfl, ((Below.refl w.heap.size w).alloc (Nat.le_refl _) _).alloc (by simp) _⟩

set_option maxRecDepth 20000 in
set_option maxHeartbeats 2000000 in
theorem range_sort (ins : Int) (w : World) : Calls Tryz.prog 154 #[sortV, .int .i64 ins] w (BPost true w) := by
  unfold sortV
  have qcat := ta_sort_cat (.agg #[])
  have qtext := ta_sort_text (.agg #[])
  have qdrop := ta_sort_drop (.agg #[])
  go_enter Tryz.func154, Tryz.ntmps154
  go_wp2_with fail
  go_ret
  exact ⟨rfl, Below.refl _ _⟩

set_option maxRecDepth 20000 in
set_option maxHeartbeats 2000000 in
theorem deedOf_drop (n : Int) (t : List UInt8) (w : World) : Calls Tryz.prog 153 #[opV (5, n, t)] w (DeedPost (dropV n) true w) := by
  unfold opV dropV
  simp only
  have HB := Lib.hid ((Below.refl w.heap.size w).alloc (Nat.le_refl _) (.cells #[.int .i64 5, .int .i64 n, .string ⟨t.toArray⟩] 141))
  go_enter Tryz.func153, Tryz.ntmps153
  go_wp2_with fail
  go_ret2
  exact ⟨rfl, HB.out⟩

set_option maxRecDepth 20000 in
set_option maxHeartbeats 2000000 in
theorem asOp_drop (n : Int) (w : World) : Calls Tryz.prog 218 #[.agg #[.int .i64 n]] w (OpPost (5, n, []) w) := by
  unfold OpPost opV
  simp only
  go_enter Tryz.func218, Tryz.ntmps218
  go_wp2_with fail
  refine bodyPost_ret (results_cellO rfl rfl (load_op (x := .int .i64 5) (y := .int .i64 n) (z := .string ⟨#[]⟩) (by go_simp) (by go_simp) (by go_simp))) rfl ?_
  exact ⟨rfl, ((Below.refl w.heap.size w).alloc (Nat.le_refl _) _).alloc (by simp) _⟩

set_option maxRecDepth 20000 in
set_option maxHeartbeats 2000000 in
theorem range_drop (n ins : Int) (w : World) : Calls Tryz.prog 154 #[dropV n, .int .i64 ins] w (BPost (decide (0 ≤ n) && decide (n ≤ 40)) w) := by
  unfold dropV
  have HB := Lib.hid ((Below.refl w.heap.size w).alloc (Nat.le_refl _) (.cells #[.int .i64 n] 210))
  have qcat := ta_drop_cat (.agg #[.int .i64 n])
  have qtext := ta_drop_text (.agg #[.int .i64 n])
  have qdrop := ta_drop_drop (.agg #[.int .i64 n])
  obtain ⟨b1, hb1⟩ : ∃ b, decide (0 ≤ n) = b := ⟨_, rfl⟩
  obtain ⟨b2, hb2⟩ : ∃ b, decide (n ≤ 40) = b := ⟨_, rfl⟩
  have HT : Hid ((decide (0 ≤ n) && decide (n ≤ 40)) = (b1 && b2)) := by rw [hb1, hb2]; rfl
  rw [HT.out]
  rcases b1 with _ | _ <;> rcases b2 with _ | _ <;>
    (go_enter Tryz.func154, Tryz.ntmps154
     go_wp2_with fail
     go_ret
     exact ⟨rfl, HB.out⟩)

set_option maxRecDepth 20000 in
set_option maxHeartbeats 2000000 in
theorem deedOf_count (n : Int) (t : List UInt8) (w : World) : Calls Tryz.prog 153 #[opV (6, n, t)] w (DeedPost (countV) true w) := by
  unfold opV countV
  simp only
  have HB := Lib.hid ((Below.refl w.heap.size w).alloc (Nat.le_refl _) (.cells #[.int .i64 6, .int .i64 n, .string ⟨t.toArray⟩] 141))
  go_enter Tryz.func153, Tryz.ntmps153
  go_wp2_with fail
  go_ret2
  exact ⟨rfl, HB.out⟩

set_option maxRecDepth 20000 in
set_option maxHeartbeats 2000000 in
theorem asOp_count (w : World) : Calls Tryz.prog 219 #[.agg #[]] w (OpPost (6, 0, []) w) := by
  unfold OpPost opV
  simp only
  go_enter Tryz.func219, Tryz.ntmps219
  go_wp2_with fail
  refine bodyPost_ret (results_cellO rfl rfl (load_op (x := .int .i64 6) (y := .int .i64 0) (z := .string ⟨#[]⟩) (by go_simp) (by go_simp) (by go_simp))) rfl ?_
  exact ⟨rfl, ((Below.refl w.heap.size w).alloc (Nat.le_refl _) _).alloc (by simp) _⟩

set_option maxRecDepth 20000 in
set_option maxHeartbeats 2000000 in
theorem range_count (ins : Int) (w : World) : Calls Tryz.prog 154 #[countV, .int .i64 ins] w (BPost true w) := by
  unfold countV
  have qcat := ta_count_cat (.agg #[])
  have qtext := ta_count_text (.agg #[])
  have qdrop := ta_count_drop (.agg #[])
  go_enter Tryz.func154, Tryz.ntmps154
  go_wp2_with fail
  go_ret
  exact ⟨rfl, Below.refl _ _⟩

set_option maxRecDepth 20000 in
set_option maxHeartbeats 2000000 in
theorem deedOf_fail (n : Int) (t : List UInt8) (w : World) : Calls Tryz.prog 153 #[opV (7, n, t)] w (DeedPost (failV) true w) := by
  unfold opV failV
  simp only
  have HB := Lib.hid ((Below.refl w.heap.size w).alloc (Nat.le_refl _) (.cells #[.int .i64 7, .int .i64 n, .string ⟨t.toArray⟩] 141))
  go_enter Tryz.func153, Tryz.ntmps153
  go_wp2_with fail
  go_ret2
  exact ⟨rfl, HB.out⟩

set_option maxRecDepth 20000 in
set_option maxHeartbeats 2000000 in
theorem asOp_fail (w : World) : Calls Tryz.prog 220 #[.agg #[]] w (OpPost (7, 0, []) w) := by
  unfold OpPost opV
  simp only
  go_enter Tryz.func220, Tryz.ntmps220
  go_wp2_with fail
  refine bodyPost_ret (results_cellO rfl rfl (load_op (x := .int .i64 7) (y := .int .i64 0) (z := .string ⟨#[]⟩) (by go_simp) (by go_simp) (by go_simp))) rfl ?_
  exact ⟨rfl, ((Below.refl w.heap.size w).alloc (Nat.le_refl _) _).alloc (by simp) _⟩

set_option maxRecDepth 20000 in
set_option maxHeartbeats 2000000 in
theorem range_fail (ins : Int) (w : World) : Calls Tryz.prog 154 #[failV, .int .i64 ins] w (BPost true w) := by
  unfold failV
  have qcat := ta_fail_cat (.agg #[])
  have qtext := ta_fail_text (.agg #[])
  have qdrop := ta_fail_drop (.agg #[])
  go_enter Tryz.func154, Tryz.ntmps154
  go_wp2_with fail
  go_ret
  exact ⟨rfl, Below.refl _ _⟩

set_option maxRecDepth 20000 in
set_option maxHeartbeats 2000000 in
theorem deedOf_none (k n : Int) (t : List UInt8) (w : World) (h1 : k ≠ 1) (h2 : k ≠ 2) (h3 : k ≠ 3) (h4 : k ≠ 4) (h5 : k ≠ 5) (h6 : k ≠ 6) (h7 : k ≠ 7) : Calls Tryz.prog 153 #[opV (k, n, t)] w (DeedPost .nilIface false w) := by
  unfold opV
  simp only
  have HB := Lib.hid ((Below.refl w.heap.size w).alloc (Nat.le_refl _) (.cells #[.int .i64 k, .int .i64 n, .string ⟨t.toArray⟩] 141))
  have e1 : (k == 1) = false := by simpa using h1
  have e2 : (k == 2) = false := by simpa using h2
  have e3 : (k == 3) = false := by simpa using h3
  have e4 : (k == 4) = false := by simpa using h4
  have e5 : (k == 5) = false := by simpa using h5
  have e6 : (k == 6) = false := by simpa using h6
  have e7 : (k == 7) = false := by simpa using h7
  clear h1 h2 h3 h4 h5 h6 h7
  go_enter Tryz.func153, Tryz.ntmps153
  go_wp2_with fail
  go_ret2
  exact ⟨rfl, HB.out⟩

end Go.Proofs.YtgolhfmmlanmlaaGreatDoor

/- Walks: the program's deeds of a recipe. -/
namespace Go.Proofs.YtgolhfmmlanmlaaGreatDoor
open Go.RowKit Pth

def asO (o : OpT) : OpT := if o.1 = 1 then (1, o.2.1, []) else if o.1 = 2 then (2, 0, o.2.2) else if o.1 = 5 then (5, o.2.1, []) else (o.1, 0, [])
def rangeB (ins : Int) (o : OpT) : Bool := if o.1 = 1 then decide (0 ≤ o.2.1) && decide (o.2.1 < ins) else if o.1 = 2 then decide (o.2.2.length ≤ 10) else if o.1 = 5 then decide (0 ≤ o.2.1) && decide (o.2.1 ≤ 40) else true
def deedV (o : OpT) : Value :=
  if o.1 = 1 then catV o.2.1 else if o.1 = 2 then textV o.2.2 else if o.1 = 3 then upperV else if o.1 = 4 then sortV else if o.1 = 5 then dropV o.2.1 else if o.1 = 6 then countV else if o.1 = 7 then failV else .nilIface
def knownB (o : OpT) : Bool := decide (1 ≤ o.1) && decide (o.1 ≤ 7)
theorem as_cat {n : Int} {t : List UInt8} : decide (asO (1, n, t) = (1, n, t)) = decide (t = []) := decide_eq_decide.2 (by simp [asO, eq_comm])
theorem as_text {n : Int} {t : List UInt8} : decide (asO (2, n, t) = (2, n, t)) = decide (n = 0) := decide_eq_decide.2 (by simp [asO, eq_comm])
theorem as_drop {n : Int} {t : List UInt8} : decide (asO (5, n, t) = (5, n, t)) = decide (t = []) := decide_eq_decide.2 (by simp [asO, eq_comm])
theorem as_bare {k n : Int} {t : List UInt8} (h1 : k ≠ 1) (h2 : k ≠ 2) (h5 : k ≠ 5) : decide (asO (k, n, t) = (k, n, t)) = (decide (n = 0) && decide (t = [])) := by
  rw [← Bool.decide_and]
  refine decide_eq_decide.2 ?_
  simp only [asO, if_neg h1, if_neg h2, if_neg h5, Prod.mk.injEq, true_and]
  rw [eq_comm (a := (0 : Int)), eq_comm (a := ([] : List UInt8))]
theorem opOk_is (ins : Int) (o : OpT) : opOk ins o = (knownB o && (decide (asO o = o) && rangeB ins o)) := by
  obtain ⟨k, n, t⟩ := o
  by_cases h1 : k = 1
  · subst h1
    rw [opOk_cat, as_cat]
    have e : decide (n ≤ ins - 1) = decide (n < ins) := decide_eq_decide.2 (by omega)
    rw [e]
    simp only [knownB, rangeB, if_true]
    rw [Bool.and_comm]; rfl
  by_cases h2 : k = 2
  · subst h2
    rw [opOk_text, as_text]
    rfl
  by_cases h5 : k = 5
  · subst h5
    rw [opOk_drop, as_drop]
    simp only [knownB, rangeB]
    rw [Bool.and_comm]; rfl
  by_cases h3 : k = 3 ∨ k = 4 ∨ k = 6 ∨ k = 7
  · rw [opOk_bare h3, as_bare h1 h2 h5]
    have e1 : knownB (k, n, t) = true := by simp only [knownB, Bool.and_eq_true, decide_eq_true_eq]; omega
    rw [e1, rangeB, if_neg h1, if_neg h2, if_neg h5]
    simp
  · have h3' : k ≠ 3 ∧ k ≠ 4 ∧ k ≠ 6 ∧ k ≠ 7 := by omega
    rw [opOk_none h1 h2 h3'.1 h3'.2.1 h5 h3'.2.2.1 h3'.2.2.2]
    have : knownB (k, n, t) = false := by
      simp only [knownB, Bool.and_eq_false_iff, decide_eq_false_iff_not]
      omega
    rw [this]; rfl

def DC (r : List OpT) : List Value := r.map deedV
theorem DC_len (r : List OpT) : (DC r).length = r.length := by simp [DC]
theorem elemD : Elem 167 186 .nilIface 16 := ⟨Tryz.underlying167, by kernel_rfl, rfl, by decide⟩
theorem deedOf_any (o : OpT) (w : World) : Calls Tryz.prog 153 #[opV o] w (DeedPost (deedV o) (knownB o) w) := by
  obtain ⟨k, n, t⟩ := o
  by_cases h1 : k = 1
  · subst h1; exact deedOf_cat n t w
  by_cases h2 : k = 2
  · subst h2; exact deedOf_text n t w
  by_cases h3 : k = 3
  · subst h3; exact deedOf_upper n t w
  by_cases h4 : k = 4
  · subst h4; exact deedOf_sort n t w
  by_cases h5 : k = 5
  · subst h5; exact deedOf_drop n t w
  by_cases h6 : k = 6
  · subst h6; exact deedOf_count n t w
  by_cases h7 : k = 7
  · subst h7; exact deedOf_fail n t w
  have e : deedV (k, n, t) = .nilIface := by simp [deedV, h1, h2, h3, h4, h5, h6, h7]
  have e2 : knownB (k, n, t) = false := by
    simp only [knownB, Bool.and_eq_false_iff, decide_eq_false_iff_not]
    omega
  rw [e, e2]
  exact deedOf_none k n t w h1 h2 h3 h4 h5 h6 h7


theorem neq_op (o p : OpT) (w : World) : (binOp .neq 141 (opV o) (opV p)).run Tryz.prog w = .ok (.bool (!decide (o = p))) w := by
  obtain ⟨k, n, t⟩ := o
  obtain ⟨k', n', t'⟩ := p
  unfold opV
  go_simp
  by_cases h1 : k = k' <;> by_cases h2 : n = n' <;> by_cases h3 : t = t' <;> simp [h1, h2, h3]

/-- What is known of a deed. -/
structure DeedAt (o : OpT) (T : TypeId) (v : Value) (K : FuncId) : Prop where
  val : deedV o = .iface T v
  meth : ∀ (F : Nat) (w : World), (method (F + 1) T v "loop.example/g00636/impl.asOp").run Tryz.prog w = .ok (K, v) w
  ent : ∀ w : World, (callFunc K #[v]).run Tryz.prog w = .ok (.enter K #[v]) w
  told : ∀ w : World, Calls Tryz.prog K #[v] w (OpPost (asO o) w)
  rng : ∀ (ins : Int) (w : World), Calls Tryz.prog 154 #[.iface T v, .int .i64 ins] w (BPost (rangeB ins o) w)
theorem deed_at {o : OpT} (h : knownB o = true) : ∃ T v K, DeedAt o T v K := by
  obtain ⟨k, n, t⟩ := o
  simp only [knownB, Bool.and_eq_true, decide_eq_true_eq] at h
  have hk : k = 1 ∨ k = 2 ∨ k = 3 ∨ k = 4 ∨ k = 5 ∨ k = 6 ∨ k = 7 := by omega
  rcases hk with rfl | rfl | rfl | rfl | rfl | rfl | rfl
  · exact ⟨203, (.agg #[.int .i64 n]), 214, rfl, fun _ _ => by kernel_rfl, fun _ => by kernel_rfl, fun w => asOp_cat n w, fun ins w => range_cat n ins w⟩
  · exact ⟨205, (.agg #[.string ⟨t.toArray⟩]), 215, rfl, fun _ _ => by kernel_rfl, fun _ => by kernel_rfl, fun w => asOp_text t w, fun ins w => range_text t ins w⟩
  · exact ⟨207, (.agg #[]), 216, rfl, fun _ _ => by kernel_rfl, fun _ => by kernel_rfl, fun w => asOp_upper w, fun ins w => range_upper ins w⟩
  · exact ⟨208, (.agg #[]), 217, rfl, fun _ _ => by kernel_rfl, fun _ => by kernel_rfl, fun w => asOp_sort w, fun ins w => range_sort ins w⟩
  · exact ⟨210, (.agg #[.int .i64 n]), 218, rfl, fun _ _ => by kernel_rfl, fun _ => by kernel_rfl, fun w => asOp_drop n w, fun ins w => range_drop n ins w⟩
  · exact ⟨211, (.agg #[]), 219, rfl, fun _ _ => by kernel_rfl, fun _ => by kernel_rfl, fun w => asOp_count w, fun ins w => range_count ins w⟩
  · exact ⟨212, (.agg #[]), 220, rfl, fun _ _ => by kernel_rfl, fun _ => by kernel_rfl, fun w => asOp_fail w, fun ins w => range_fail ins w⟩

end Go.Proofs.YtgolhfmmlanmlaaGreatDoor

/- A region that draws its order, whose first operations come in one forced order (a call that makes memory among them) and whose others only read: one walk in the order of the text. -/
namespace Go.Proofs.YtgolhfmmlanmlaaGreatDoor
open Go.RowKit

theorem oper_wp_Q {P : Program} {o : Oper} {a : Act} {w : World} {K : Act → World → Prop} {Q Q' : Exit → Act → World → Prop} (hq : ∀ e a w, e ≠ .normal → Q e a w → Q' e a w) (hh : o.wp P a w K Q) : o.wp P a w K Q' := by
  unfold Oper.wp at *
  generalize (execOp a.eval o).run P w = r at *
  cases r with
  | ok n w' =>
    cases n <;> simp only [Oper.upon] at hh ⊢ <;>
      first
        | exact hh
        | exact Calls.mono hh (fun e w'' he => by cases e <;> first | exact he | exact hq _ _ _ (by simp) he | exact (let ⟨a, w, h⟩ := he; ⟨a, w, hq _ _ _ (by simp) h⟩))
  | halt x w' => cases x <;> simp only [Oper.upon] at hh ⊢ <;> first | exact hh | exact hq _ _ _ (by simp) hh

theorem lets_Q {Q Q' : Exit → Act → World → Prop} (hq : ∀ e a w, e ≠ .normal → Q e a w → Q' e a w) (h : LetsOut Q) : LetsOut Q' :=
  let ⟨a, w, h⟩ := h; ⟨a, w, hq _ _ _ (by simp) h⟩

theorem wpOp_Q {P : Program} {ops : Array Oper} {i : Nat} {a : Act} {w : World} {K : Act → World → Prop} {Q Q' : Exit → Act → World → Prop} (hq : ∀ e a w, e ≠ .normal → Q e a w → Q' e a w) (hh : wpOp P ops Q i K a w) : wpOp P ops Q' i K a w := by
  unfold wpOp at *
  split
  · simpa [*] using hh
  · rename_i o ho
    simp only [ho] at hh
    split
    · rename_i hw; simp only [hw, if_true] at hh; exact hh.imp (oper_wp_Q hq) (fun h => ⟨h.1, lets_Q hq h.2⟩)
    · rename_i hw; simp only [hw] at hh; exact hh

/-- T behind the head, Q at whatever else. -/
def Then (T : Act → World → Prop) (Q : Exit → Act → World → Prop) : Exit → Act → World → Prop
  | .normal, a, w => T a w
  | e, a, w => Q e a w
theorem then_normal {T : Act → World → Prop} {Q : Exit → Act → World → Prop} {a : Act} {w : World} (h : T a w) : Then T Q .normal a w := h
theorem then_Q {T : Act → World → Prop} {Q : Exit → Act → World → Prop} : ∀ e a w, e ≠ .normal → Then T Q e a w → Q e a w := fun e a w he h => by
  cases e <;> first | exact absurd rfl he | exact h

def headB (ops : Array Oper) : Nat → Nat → Array Bool → Bool
  | 0, _, _ => true
  | g + 1, k, listed => decide (Region.ready .any ops listed = [k]) && headB ops g (k + 1) (listed.setIfInBounds k true)
def setAll : Nat → Nat → Array Bool → Array Bool
  | 0, _, listed => listed
  | g + 1, k, listed => setAll g (k + 1) (listed.setIfInBounds k true)

theorem wpAny_head {P : Program} {ops : Array Oper} {T : Act → World → Prop} {Q : Exit → Act → World → Prop} {r : Nat} : ∀ (l : List Oper) (k : Nat) (listed : Array Bool) (a : Act) (w : World), (∀ j, j < l.length → l[j]? = ops[k + j]?) →
    headB ops l.length k listed = true → (∀ a w, T a w → wpAny P .any ops Q r (setAll l.length k listed) a w) → wpList P ops (Then T Q) l a w → wpAny P .any ops Q (l.length + r) listed a w
  | [], _, _, _, _, _, _, hT, h => by
    simp only [List.length_nil, Nat.zero_add]
    exact hT _ _ h
  | o :: l, k, listed, a, w, hl, hB, hT, h => by
    have h0 : ops[k]? = some o := by have := hl 0 (by simp); simpa using this.symm
    simp only [List.length_cons, headB, Bool.and_eq_true, decide_eq_true_eq] at hB
    have e : (o :: l).length + r = (l.length + r) + 1 := by simp only [List.length_cons]; omega
    rw [e]
    refine ⟨fun h1 => (by rw [hB.1] at h1; cases h1), fun i hi => ?_⟩
    rw [hB.1] at hi
    have hik : i = k := by simpa using hi
    subst hik
    have hw : wpOp P ops (Then T Q) i (wpList P ops (Then T Q) l) a w := by unfold wpOp; simp only [h0]; exact h
    exact wpOp_Q then_Q (wpOp_mono (fun a' w' h' => wpAny_head l (i + 1) _ a' w' (fun j hj => by have := hl (j + 1) (by simp; omega); simpa [Nat.add_assoc, Nat.add_comm 1 j] using this) hB.2 hT h') hw)

theorem wp_region_head_quiet {P : Program} {id : Nat} {Q : Exit → Act → World → Prop} {a : Act} {w : World} {l : List Oper} (n : Nat) (hm : P.follows .mixedOrders = true) (hs : Region.noSelect l.toArray = true)
    (hH : headB l.toArray (l.take n).length 0 (Array.replicate l.toArray.size false) = true) (hL : Region.lexFrom .any l.toArray (l.drop n).length n (setAll (l.take n).length 0 (Array.replicate l.toArray.size false)) = true) (hn : n ≤ l.length)
    (h : wpList P l.toArray (Then (fun a' w' => wpQuiet P l.toArray (fun x => ∃ m, x = w'.drewN m) (fun a'' => ∀ x, (∃ m, x = w'.drewN m) → Q .normal a'' x) (l.drop n) a') Q) (l.take n) a { w with drawn := w.drawn + 1 }) : (Code.region id l.toArray true).wp P Q a w := by
  have htl : (l.take n).length = n := by rw [List.length_take]; omega
  refine wp_region_any hm ?_
  have H := wpAny_head (Q := Q) (r := (l.drop n).length) (l.take n) 0 (Array.replicate l.toArray.size false) a { w with drawn := w.drawn + 1 } (fun j hj => by
    rw [htl] at hj
    simp [hj]) hH (fun a' w' h' => ?_) h
  · have e : (l.take n).length + (l.drop n).length = l.toArray.size := by rw [htl, List.length_drop]; simp; omega
    rw [e] at H
    exact H
  · refine wpAny_of_quiet (C := fun x => ∃ m, x = w'.drewN m) (Q := fun a'' => ∀ x, (∃ m, x = w'.drewN m) → Q .normal a'' x) (fun a w hw h => h w hw) _ _ _ _ ⟨0, rfl⟩ ?_
    exact wpAnyQ_lex hs (l.drop n) n _ _ (fun j => by simp [List.getElem?_drop]) hL h'

end Go.Proofs.YtgolhfmmlanmlaaGreatDoor

/- A region that draws its order, in which behind a forced head a call that makes memory and a load may change places, and whose others only read: three walks. -/
namespace Go.Proofs.YtgolhfmmlanmlaaGreatDoor
open Go.RowKit

/-- Behind those that are listed: n and n + 2 may come, n + 1 behind n; nothing else ahead of all three. -/
def diaB (ops : Array Oper) (n : Nat) (L : Array Bool) : Bool :=
  decide (Region.ready .any ops L = [n, n + 2]) && (decide (Region.ready .any ops (L.setIfInBounds n true) = [n + 1, n + 2]) && (decide (Region.ready .any ops (L.setIfInBounds (n + 2) true) = [n]) &&
  (decide (Region.ready .any ops ((L.setIfInBounds n true).setIfInBounds (n + 1) true) = [n + 2]) && (decide (Region.ready .any ops ((L.setIfInBounds n true).setIfInBounds (n + 2) true) = [n + 1]) && (decide (Region.ready .any ops ((L.setIfInBounds (n + 2) true).setIfInBounds n true) = [n + 1]) &&
  (decide (((L.setIfInBounds n true).setIfInBounds (n + 2) true).setIfInBounds (n + 1) true = ((L.setIfInBounds n true).setIfInBounds (n + 1) true).setIfInBounds (n + 2) true) &&
  decide (((L.setIfInBounds (n + 2) true).setIfInBounds n true).setIfInBounds (n + 1) true = ((L.setIfInBounds n true).setIfInBounds (n + 1) true).setIfInBounds (n + 2) true)))))))

theorem wpAny_one {P : Program} {ops : Array Oper} {Q : Exit → Act → World → Prop} {r i : Nat} {L : Array Bool} {a : Act} {w : World} (hr : Region.ready .any ops L = [i]) (h : wpOp P ops Q i (wpAny P .any ops Q r (L.setIfInBounds i true)) a w) : wpAny P .any ops Q (r + 1) L a w := by
  refine ⟨fun h1 => (by rw [hr] at h1; cases h1), fun j hj => ?_⟩
  rw [hr] at hj
  have hj' : j = i := by simpa using hj
  subst hj'
  exact h
theorem wpAny_two {P : Program} {ops : Array Oper} {Q : Exit → Act → World → Prop} {r i k : Nat} {L : Array Bool} {a : Act} {w : World} (hr : Region.ready .any ops L = [i, k]) (h : wpOp P ops Q i (wpAny P .any ops Q r (L.setIfInBounds i true)) a w) (h' : wpOp P ops Q k (wpAny P .any ops Q r (L.setIfInBounds k true)) a w) : wpAny P .any ops Q (r + 1) L a w := by
  refine ⟨fun h1 => (by rw [hr] at h1; cases h1), fun j hj => ?_⟩
  rw [hr] at hj
  have hj' : j = i ∨ j = k := by simpa using hj
  rcases hj' with rfl | rfl
  · exact h
  · exact h'
theorem wpOp_of_list {P : Program} {ops : Array Oper} {Q Q' : Exit → Act → World → Prop} {i : Nat} {o : Oper} {rest : List Oper} {K : Act → World → Prop} {a : Act} {w : World} (ho : ops[i]? = some o) (hq : ∀ e a w, e ≠ .normal → Q' e a w → Q e a w)
    (hk : ∀ a w, wpList P ops Q' rest a w → K a w) (h : wpList P ops Q' (o :: rest) a w) : wpOp P ops Q i K a w := by
  have h1 : wpOp P ops Q' i (wpList P ops Q' rest) a w := by unfold wpOp; simp only [ho]; exact h
  exact wpOp_Q hq (wpOp_mono hk h1)

theorem wpOp_last {P : Program} {ops : Array Oper} {T : Act → World → Prop} {Q : Exit → Act → World → Prop} {i : Nat} {o : Oper} {K : Act → World → Prop} {a : Act} {w : World} (ho : ops[i]? = some o) (hT : ∀ a w, T a w → K a w) (h : wpList P ops (Then T Q) [o] a w) : wpOp P ops Q i K a w :=
  wpOp_of_list (rest := []) ho then_Q (fun a w k => hT a w k) h
theorem wpOp_more {P : Program} {ops : Array Oper} {T : Act → World → Prop} {Q : Exit → Act → World → Prop} {i : Nat} {o p : Oper} {rest : List Oper} {K : Act → World → Prop} {a : Act} {w : World} (ho : ops[i]? = some o) (hT : ∀ a w, wpList P ops (Then T Q) (p :: rest) a w → K a w) (h : wpList P ops (Then T Q) (o :: p :: rest) a w) : wpOp P ops Q i K a w :=
  wpOp_of_list (rest := p :: rest) ho then_Q hT h
theorem wpAny_dia {P : Program} {ops : Array Oper} {T : Act → World → Prop} {Q : Exit → Act → World → Prop} {r n : Nat} {L : Array Bool} {a : Act} {w : World} {x y z : Oper} (hx : ops[n]? = some x) (hy : ops[n + 1]? = some y) (hz : ops[n + 2]? = some z)
    (hD : diaB ops n L = true) (hT : ∀ a w, T a w → wpAny P .any ops Q r (((L.setIfInBounds n true).setIfInBounds (n + 1) true).setIfInBounds (n + 2) true) a w)
    (h1 : wpList P ops (Then (fun a w => wpList P ops (Then T Q) [y, z] a w ∧ wpList P ops (Then T Q) [z, y] a w) Q) [x] a w) (h3 : wpList P ops (Then T Q) [z, x, y] a w) : wpAny P .any ops Q (r + 3) L a w := by
  simp only [diaB, Bool.and_eq_true, decide_eq_true_eq] at hD
  obtain ⟨d1, d2, d3, d4, d5, d6, d7, d8⟩ := hD
  refine wpAny_two d1 ?_ ?_
  · refine wpOp_last hx (fun a w k => ?_) h1
    obtain ⟨k1, k2⟩ : wpList P ops (Then T Q) [y, z] a w ∧ wpList P ops (Then T Q) [z, y] a w := k
    exact wpAny_two d2 (wpOp_more hy (fun a w k => wpAny_one d4 (wpOp_last hz hT k)) k1)
      (wpOp_more hz (fun a w k => wpAny_one d5 (wpOp_last hy (fun a w k => by rw [d7]; exact hT a w k) k)) k2)
  · exact wpOp_more hz (fun a w k => wpAny_one d3 (wpOp_more hx (fun a w k => wpAny_one d6 (wpOp_last hy (fun a w k => by rw [d8]; exact hT a w k) k)) k)) h3

/-- What is left behind the three: it only reads. -/
def Quiets (P : Program) (l : List Oper) (m : Nat) (Q : Exit → Act → World → Prop) (a : Act) (w : World) : Prop :=
  wpQuiet P l.toArray (fun x => ∃ j, x = w.drewN j) (fun a' => ∀ x, (∃ j, x = w.drewN j) → Q .normal a' x) (l.drop m) a

theorem wp_region_dia {P : Program} {id : Nat} {Q : Exit → Act → World → Prop} {a : Act} {w : World} {l : List Oper} (n : Nat) (x y z : Oper) (hx : l[n]? = some x) (hy : l[n + 1]? = some y) (hz : l[n + 2]? = some z) (hm : P.follows .mixedOrders = true) (hs : Region.noSelect l.toArray = true)
    (hH : headB l.toArray (l.take n).length 0 (Array.replicate l.toArray.size false) = true) (hD : diaB l.toArray n (setAll (l.take n).length 0 (Array.replicate l.toArray.size false)) = true)
    (hL : Region.lexFrom .any l.toArray (l.drop (n + 3)).length (n + 3) ((((setAll (l.take n).length 0 (Array.replicate l.toArray.size false)).setIfInBounds n true).setIfInBounds (n + 1) true).setIfInBounds (n + 2) true) = true) (hn : n + 3 ≤ l.length)
    (h : wpList P l.toArray (Then (fun a' w' => wpList P l.toArray (Then (fun a w => wpList P l.toArray (Then (Quiets P l (n + 3) Q) Q) [y, z] a w ∧ wpList P l.toArray (Then (Quiets P l (n + 3) Q) Q) [z, y] a w) Q) [x] a' w' ∧ wpList P l.toArray (Then (Quiets P l (n + 3) Q) Q) [z, x, y] a' w') Q) (l.take n) a { w with drawn := w.drawn + 1 }) : (Code.region id l.toArray true).wp P Q a w := by
  have htl : (l.take n).length = n := by rw [List.length_take]; omega
  refine wp_region_any hm ?_
  have H := wpAny_head (Q := Q) (r := (l.drop (n + 3)).length + 3) (l.take n) 0 (Array.replicate l.toArray.size false) a { w with drawn := w.drawn + 1 } (fun j hj => by
    rw [htl] at hj
    simp [hj]) hH (fun a' w' h' => wpAny_dia (by simpa using hx) (by simpa using hy) (by simpa using hz) hD (fun a w hq => ?_) h'.1 h'.2) h
  · have e : (l.take n).length + ((l.drop (n + 3)).length + 3) = l.toArray.size := by rw [htl, List.length_drop]; simp; omega
    rw [e] at H
    exact H
  · refine wpAny_of_quiet (C := fun x => ∃ m, x = w.drewN m) (Q := fun a'' => ∀ x, (∃ m, x = w.drewN m) → Q .normal a'' x) (fun a w hw h => h w hw) _ _ _ _ ⟨0, rfl⟩ ?_
    exact wpAnyQ_lex hs (l.drop (n + 3)) (n + 3) _ _ (fun j => by simp [List.getElem?_drop]) hL hq

end Go.Proofs.YtgolhfmmlanmlaaGreatDoor

/- Walks: the program's deeds of a recipe, and whether it is good. -/
namespace Go.Proofs.YtgolhfmmlanmlaaGreatDoor
open Go.RowKit Pth

/-- Deeds and whether they stand are handed back, in memory of the call's own. -/
def DeedsPost (r : List OpT) (ok : Bool) (w : World) (e : Ending) (w' : World) : Prop :=
  ∃ v, e = .returned (.tuple #[v, .bool ok]) ∧ w'.ownsRow w.heap.size 186 1 v (if ok then r else []).length (DC (if ok then r else [])) ∧ Below w.heap.size w w'
theorem none_ownD (w : World) (B e : Nat) : w.ownsRow B e 1 (.slice none 0 0) 0 [] := ⟨rfl, .inl ⟨rfl, rfl⟩⟩
theorem DC_next {r : List OpT} {k : Nat} (hk : k < r.length) : DC (r.take (k + 1)) = DC (r.take k) ++ [deedV r[k]] := by
  rw [List.take_succ_eq_append_getElem hk]; unfold DC; rw [List.map_append]; rfl
theorem deedOf_b {o : OpT} {T : TypeId} {v : Value} (h : deedV o = .iface T v) (hk : knownB o = true) (w : World) : Calls Tryz.prog 153 #[opV o] w (DeedPost (.iface T v) true w) := by
  have := deedOf_any o w; rwa [h, hk] at this
theorem deedOf_n {o : OpT} (hk : knownB o = false) (w : World) : Calls Tryz.prog 153 #[opV o] w fun e w' => ∃ d, e = .returned (.tuple #[d, .bool false]) ∧ Below w.heap.size w w' := by
  have := deedOf_any o w
  rw [hk] at this
  exact this.mono fun e w' h => ⟨_, h⟩

theorem deeds_bad {r : List OpT} {ok : Bool} {w w' : World} (h : ok = false) (hb : Below w.heap.size w w') : DeedsPost r ok w (.returned (.tuple #[.slice none 0 0, .bool false])) w' := by
  subst h
  exact ⟨_, rfl, none_ownD _ _ _, hb⟩
theorem deeds_good {r : List OpT} {ok : Bool} {w w' : World} {v : Value} (h : ok = true) (hn : w'.ownsRow w.heap.size 186 1 v r.length (DC r)) (hb : Below w.heap.size w w') : DeedsPost r ok w (.returned (.tuple #[v, .bool true])) w' := by
  subst h
  exact ⟨_, rfl, hn, hb⟩

set_option maxRecDepth 20000 in
set_option maxHeartbeats 4000000 in
theorem deedsOf_any (r : List OpT) (ins : Int) (v : Value) (w : World) (hrow : RowO w v r) :
    Calls Tryz.prog 137 #[v, .int .i64 ins] w (DeedsPost r (goodR r ins) w) := by
  obtain ⟨a, cap, rfl, hc1, hc2, hat⟩ := hrow.ops
  clear hrow
  unfold maxLen at hc2
  by_cases h8 : 8 < r.length
  · rw [goodR_long h8]
    have hd : decide ((r.length : Int) > 8) = true := decide_eq_true (by omega)
    clear hat
    go_enter Tryz.func137, Tryz.ntmps137
    go_wp2_with fail
    go_ret2
    exact ⟨_, rfl, none_ownD _ _ _, Below.refl _ _⟩
  have hd : decide ((r.length : Int) > 8) = false := decide_eq_false (by omega)
  by_cases hi0 : 0 ≤ ins
  · have d1 : decide (ins < 0) = false := decide_eq_false (by omega)
    by_cases hi1 : ins ≤ 10
    · have d2 : decide (ins > 10) = false := decide_eq_false (by omega)
      go_enter Tryz.func137, Tryz.ntmps137
      go_wp2_with fail
      go_loopw [6, 24] (fun q i wr => ∃ k : Nat, k ≤ r.length ∧ i = .int .i64 k ∧ Hid (Below w.heap.size w wr) ∧ Hid ((r.take k).all (opOk ins) = true) ∧ Hid (wr.ownsRow w.heap.size 186 1 q (DC (r.take k)).length (DC (r.take k)))) (fun _ i _ => r.length - (intOf i).toNat)
      case atStart => exact ⟨0, Nat.zero_le _, rfl, Below.refl _ _, by simp [Hid], none_ownD _ _ _⟩
      case round =>
        obtain ⟨k, hk, rfl, HB, HO, HN⟩ := hrel
        have hbs := HB.out.size
        have hdl : (DC (r.take k)).length ≤ 8 := by rw [DC_len, List.length_take]; omega
        by_cases hlt : k < r.length
        · obtain ⟨g, o, rfl, hg, hcell1, hcell2, hcell3⟩ := hat k hlt
          have s1 := (HB.out.cell (p := ⟨g, o + k * 3, none⟩) hg).trans hcell1
          have s2 := (HB.out.cell (p := ⟨g, o + k * 3 + 1, none⟩) hg).trans hcell2
          have s3 := (HB.out.cell (p := ⟨g, o + k * 3 + 2, none⟩) hg).trans hcell3
          obtain ⟨wa, hwa⟩ : ∃ wa, wa = wr.alloc (.cells #[.int .i64 r[k].1, .int .i64 r[k].2.1, .string ⟨r[k].2.2.toArray⟩] 141) := ⟨_, rfl⟩
          have HBA : Hid (Below w.heap.size w wa) := by rw [hwa]; exact HB.out.alloc hbs _
          have HNA := Lib.hid (HN.out.alloc (.cells #[.int .i64 r[k].1, .int .i64 r[k].2.1, .string ⟨r[k].2.2.toArray⟩] 141))
          rw [← hwa] at HNA
          have hsz : wr.heap.size < wa.heap.size := by rw [hwa]; simp
          have p0 : wa.cell? ⟨wr.heap.size, 0, none⟩ = some (.int .i64 r[k].1) := by rw [hwa]; simp
          have p1 : wa.cell? ⟨wr.heap.size, 1, none⟩ = some (.int .i64 r[k].2.1) := by rw [hwa]; simp
          have p2 : wa.cell? ⟨wr.heap.size, 2, none⟩ = some (.string ⟨r[k].2.2.toArray⟩) := by rw [hwa]; simp
          have HWA := Lib.hid hwa
          have HIS := Lib.hid (opOk_is ins r[k])
          have HNX := Lib.hid (DC_next hlt)
          have HGB := Lib.hid (fun h => goodR_bad (ins := ins) hlt h)
          have HGG := Lib.hid (fun h => all_next hlt HO.out h)
          clear hcell1 hcell2 hcell3 hat HO HN hwa HB
          generalize r[k] = x at s1 s2 s3 HWA HIS HNX HGB HGG p0 p1 p2
          rcases hkn : knownB x with _ | _
          · have HC := Lib.hid (fun W => deedOf_n hkn W)
            have HG := Lib.hid (HGB.out (by rw [HIS.out, hkn]; rfl))
            clear HIS HNX HGB HGG hkn HNA
            obtain ⟨x1, x2, x3⟩ := x
            unfold opV at HC
            simp only at s1 s2 s3 HC HWA p0 p1 p2
            go_wp2_with fail
            rw [← HWA.out]
            refine (HC.out _).mono ?_
            rintro e w1 ⟨d, rfl, hb1⟩
            have HB1 := Lib.hid (HBA.out.trans (hb1.mono HBA.out.size))
            clear hb1 HC
            go_wp2_with fail
            go_quiet (fail)
            go_wp2_with fail
            go_ret2
            exact deeds_bad HG.out (below_drewN HB1.out _)
          · obtain ⟨T, dv, K, D⟩ := deed_at hkn
            have HC := Lib.hid (fun W => deedOf_b D.val hkn W)
            have hme := D.meth
            have hen := D.ent
            have HAS := Lib.hid D.told
            have HRG := Lib.hid (D.rng ins)
            have HV := Lib.hid D.val
            have hnq := fun W => neq_op (asO x) x W
            obtain ⟨b, hb⟩ : ∃ b, decide (asO x = x) = b := ⟨_, rfl⟩
            have HOK : Hid (opOk ins x = (b && rangeB ins x)) := by rw [HIS.out, hkn, hb]; rfl
            rw [hb] at hnq
            clear HIS hkn D hb
            generalize asO x = y at HAS hnq
            generalize rangeB ins x = rb at HRG HOK
            rcases b with _ | _
            · have HG := Lib.hid (HGB.out HOK.out)
              simp only [Bool.not_false] at hnq
              clear HOK HGB HGG HNX HRG HNA HV
              obtain ⟨x1, x2, x3⟩ := x
              obtain ⟨y1, y2, y3⟩ := y
              unfold opV at HC hnq
              unfold OpPost opV at HAS
              simp only at s1 s2 s3 HC HWA p0 p1 p2 HAS hnq
              go_wp2_with fail
              rw [← HWA.out]
              refine (HC.out _).mono ?_
              rintro e w1 ⟨rfl, hb1⟩
              have HB1 := Lib.hid (HBA.out.trans (hb1.mono HBA.out.size))
              have c0 := (hb1.cell (p := ⟨wr.heap.size, 0, none⟩) hsz).trans p0
              have c1 := (hb1.cell (p := ⟨wr.heap.size, 1, none⟩) hsz).trans p1
              have c2 := (hb1.cell (p := ⟨wr.heap.size, 2, none⟩) hsz).trans p2
              have hsz1 : wr.heap.size < w1.heap.size := Nat.lt_of_lt_of_le hsz hb1.size
              clear hb1 HC p0 p1 p2
              go_wp2_with fail
              refine wp_region_dia 3 _ _ _ rfl rfl rfl (by kernel_rfl) (by kernel_rfl) (by kernel_rfl) (by kernel_rfl) (by kernel_rfl) (by decide) ?_
              simp only [List.take_succ_cons, List.take_zero]
              go_wp2_with fail
              refine then_normal ⟨?_, ?_⟩
              · go_wp2_with fail
                refine then_normal ⟨?_, ?_⟩
                · go_wp2_with fail
                  refine (HAS.out _).mono ?_
                  rintro e w5 ⟨rfl, hb5⟩
                  have k0 := (hb5.cell (p := ⟨wr.heap.size, 0, none⟩) hsz1).trans c0
                  have k1 := (hb5.cell (p := ⟨wr.heap.size, 1, none⟩) hsz1).trans c1
                  have k2 := (hb5.cell (p := ⟨wr.heap.size, 2, none⟩) hsz1).trans c2
                  have HB5 := Lib.hid ((Below.drew HB1.out).trans (hb5.mono HB1.out.size))
                  clear hb5
                  go_wp2_with fail
                  refine then_normal ?_
                  unfold Quiets
                  simp only [List.drop_succ_cons, List.drop_zero]
                  repeat (go_big_quiet_step (fail))
                  refine wpQuiet_nil ?_
                  intro _ hw'
                  obtain ⟨nq, hw''⟩ := hw'
                  subst hw''
                  go_wp2_with fail
                  go_ret2
                  exact deeds_bad HG.out (below_drewN HB5.out nq)
                · go_wp2_with fail
                  refine (HAS.out _).mono ?_
                  rintro e w5 ⟨rfl, hb5⟩
                  have k0 := (hb5.cell (p := ⟨wr.heap.size, 0, none⟩) hsz1).trans c0
                  have k1 := (hb5.cell (p := ⟨wr.heap.size, 1, none⟩) hsz1).trans c1
                  have k2 := (hb5.cell (p := ⟨wr.heap.size, 2, none⟩) hsz1).trans c2
                  have HB5 := Lib.hid ((Below.drew HB1.out).trans (hb5.mono HB1.out.size))
                  clear hb5
                  go_wp2_with fail
                  refine then_normal ?_
                  unfold Quiets
                  simp only [List.drop_succ_cons, List.drop_zero]
                  repeat (go_big_quiet_step (fail))
                  refine wpQuiet_nil ?_
                  intro _ hw'
                  obtain ⟨nq, hw''⟩ := hw'
                  subst hw''
                  go_wp2_with fail
                  go_ret2
                  exact deeds_bad HG.out (below_drewN HB5.out nq)
              · go_wp2_with fail
                refine (HAS.out _).mono ?_
                rintro e w5 ⟨rfl, hb5⟩
                have k0 := (hb5.cell (p := ⟨wr.heap.size, 0, none⟩) hsz1).trans c0
                have k1 := (hb5.cell (p := ⟨wr.heap.size, 1, none⟩) hsz1).trans c1
                have k2 := (hb5.cell (p := ⟨wr.heap.size, 2, none⟩) hsz1).trans c2
                have HB5 := Lib.hid ((Below.drew HB1.out).trans (hb5.mono HB1.out.size))
                clear hb5
                go_wp2_with fail
                refine then_normal ?_
                unfold Quiets
                simp only [List.drop_succ_cons, List.drop_zero]
                repeat (go_big_quiet_step (fail))
                refine wpQuiet_nil ?_
                intro _ hw'
                obtain ⟨nq, hw''⟩ := hw'
                subst hw''
                go_wp2_with fail
                go_ret2
                exact deeds_bad HG.out (below_drewN HB5.out nq)
            · simp only [Bool.not_true] at hnq
              rcases rb with _ | _
              · have HG := Lib.hid (HGB.out HOK.out)
                clear HOK HGB HGG HNX HNA HV
                obtain ⟨x1, x2, x3⟩ := x
                obtain ⟨y1, y2, y3⟩ := y
                unfold opV at HC hnq
                unfold OpPost opV at HAS
                simp only at s1 s2 s3 HC HWA p0 p1 p2 HAS hnq
                go_wp2_with fail
                rw [← HWA.out]
                refine (HC.out _).mono ?_
                rintro e w1 ⟨rfl, hb1⟩
                have HB1 := Lib.hid (HBA.out.trans (hb1.mono HBA.out.size))
                have c0 := (hb1.cell (p := ⟨wr.heap.size, 0, none⟩) hsz).trans p0
                have c1 := (hb1.cell (p := ⟨wr.heap.size, 1, none⟩) hsz).trans p1
                have c2 := (hb1.cell (p := ⟨wr.heap.size, 2, none⟩) hsz).trans p2
                have hsz1 : wr.heap.size < w1.heap.size := Nat.lt_of_lt_of_le hsz hb1.size
                clear hb1 HC p0 p1 p2
                go_wp2_with fail
                go_region_held3 (fun w' => w'.cell? ⟨wr.heap.size, 0, none⟩ = some (.int .i64 x1) ∧ w'.cell? ⟨wr.heap.size, 1, none⟩ = some (.int .i64 x2) ∧ w'.cell? ⟨wr.heap.size, 2, none⟩ = some (.string ⟨x3.toArray⟩)) (first | exact ⟨c0, c1, c2⟩ | exact ks | exact kt)
                  (first | (go_at_call 154; refine (HRG.out _).mono ?_; rintro e w6 ⟨rfl, hb6⟩; have HB6 := Lib.hid (HB5.out.trans (hb6.mono HB5.out.size)); have kt := And.intro ((hb6.cell (p := ⟨wr.heap.size, 0, none⟩) (World.block_lt_of_cell? _ _ ks.1)).trans ks.1) (And.intro ((hb6.cell (p := ⟨wr.heap.size, 1, none⟩) (World.block_lt_of_cell? _ _ ks.2.1)).trans ks.2.1) ((hb6.cell (p := ⟨wr.heap.size, 2, none⟩) (World.block_lt_of_cell? _ _ ks.2.2)).trans ks.2.2)); clear hb6) | (refine (HAS.out _).mono ?_; rintro e w5 ⟨rfl, hb5⟩; have ks := And.intro ((hb5.cell (p := ⟨wr.heap.size, 0, none⟩) hsz1).trans c0) (And.intro ((hb5.cell (p := ⟨wr.heap.size, 1, none⟩) hsz1).trans c1) ((hb5.cell (p := ⟨wr.heap.size, 2, none⟩) hsz1).trans c2)); have HB5 := Lib.hid ((Below.drew HB1.out).trans (hb5.mono HB1.out.size)); clear hb5))
                all_goals
                  go_wp2_with fail
                  go_ret2
                  exact deeds_bad HG.out HB6.out
              · have HG := Lib.hid (HGG.out HOK.out)
                clear HOK HGB HGG
                obtain ⟨x1, x2, x3⟩ := x
                obtain ⟨y1, y2, y3⟩ := y
                rw [HV.out] at HNX
                clear HV
                unfold opV at HC hnq
                unfold OpPost opV at HAS
                simp only at s1 s2 s3 HC HWA p0 p1 p2 HAS hnq
                go_wp2_with fail
                rw [← HWA.out]
                refine (HC.out _).mono ?_
                rintro e w1 ⟨rfl, hb1⟩
                have HB1 := Lib.hid (HBA.out.trans (hb1.mono HBA.out.size))
                have HN1 := Lib.hid (own_below HNA.out hb1)
                have c0 := (hb1.cell (p := ⟨wr.heap.size, 0, none⟩) hsz).trans p0
                have c1 := (hb1.cell (p := ⟨wr.heap.size, 1, none⟩) hsz).trans p1
                have c2 := (hb1.cell (p := ⟨wr.heap.size, 2, none⟩) hsz).trans p2
                have hsz1 : wr.heap.size < w1.heap.size := Nat.lt_of_lt_of_le hsz hb1.size
                clear hb1 HC p0 p1 p2 HNA
                go_wp2_with fail
                go_region_held3 (fun w' => w'.cell? ⟨wr.heap.size, 0, none⟩ = some (.int .i64 x1) ∧ w'.cell? ⟨wr.heap.size, 1, none⟩ = some (.int .i64 x2) ∧ w'.cell? ⟨wr.heap.size, 2, none⟩ = some (.string ⟨x3.toArray⟩)) (first | exact ⟨c0, c1, c2⟩ | exact ks | exact kt)
                  (first | (go_at_call 154; refine (HRG.out _).mono ?_; rintro e w6 ⟨rfl, hb6⟩; have HB6 := Lib.hid (HB5.out.trans (hb6.mono HB5.out.size)); have HN6 := Lib.hid (own_below HN5.out hb6); have kt := And.intro ((hb6.cell (p := ⟨wr.heap.size, 0, none⟩) (World.block_lt_of_cell? _ _ ks.1)).trans ks.1) (And.intro ((hb6.cell (p := ⟨wr.heap.size, 1, none⟩) (World.block_lt_of_cell? _ _ ks.2.1)).trans ks.2.1) ((hb6.cell (p := ⟨wr.heap.size, 2, none⟩) (World.block_lt_of_cell? _ _ ks.2.2)).trans ks.2.2)); clear hb6) | (refine (HAS.out _).mono ?_; rintro e w5 ⟨rfl, hb5⟩; have ks := And.intro ((hb5.cell (p := ⟨wr.heap.size, 0, none⟩) hsz1).trans c0) (And.intro ((hb5.cell (p := ⟨wr.heap.size, 1, none⟩) hsz1).trans c1) ((hb5.cell (p := ⟨wr.heap.size, 2, none⟩) hsz1).trans c2)); have HB5 := Lib.hid ((Below.drew HB1.out).trans (hb5.mono HB1.out.size)); have HN5 := Lib.hid (own_below (show w1.drew.ownsRow _ _ _ _ _ _ from HN1.out) hb5); clear hb5))
                all_goals
                  go_wp2_with (at_builtin; refine wpAppOne elemD rfl _ _ rfl w.heap.size _ (DC (r.take k)) rfl HN6.out _ rfl rfl rfl (by omega) HB6.out.size ?_; intro v7 w7 hown7 hg7; have HN7 := Lib.hid hown7; have HB7 := Lib.hid (HB6.out.trans (below_own HN6.out hg7 HB6.out.size)); clear hown7 hg7)
                  go_roundw
                  case rel => exact ⟨k + 1, by omega, by go_num, HB7, HG, by rw [HNX.out]; exact HN7.out⟩
                  case measure => simp [intOf]; omega
        · have HG := Lib.hid (goodR_end hi0 hi1 (by omega) (by omega : r.length ≤ k) HO.out)
          rw [List.take_of_length_le (by omega), DC_len] at HN
          clear HO hat
          go_wp2_with fail
          go_ret2
          exact deeds_good HG.out HN.out HB.out
    · have d2 : decide (ins > 10) = true := decide_eq_true (by omega)
      rw [goodR_ins (by omega)]
      clear hat
      go_enter Tryz.func137, Tryz.ntmps137
      go_wp2_with fail
      go_ret2
      exact ⟨_, rfl, none_ownD _ _ _, Below.refl _ _⟩
  · have d1 : decide (ins < 0) = true := decide_eq_true (by omega)
    rw [goodR_ins (by omega)]
    clear hat
    go_enter Tryz.func137, Tryz.ntmps137
    go_wp2_with fail
    go_ret2
    exact ⟨_, rfl, none_ownD _ _ _, Below.refl _ _⟩

end Go.Proofs.YtgolhfmmlanmlaaGreatDoor

/- Walks: the program's good recipes and what they read. -/
namespace Go.Proofs.YtgolhfmmlanmlaaGreatDoor
open Go.RowKit Pth

set_option maxHeartbeats 1000000 in
theorem implGoodR_any (r : List OpT) (ins : Int) (v : Value) (w : World) (hrow : RowO w v r) :
    Calls Tryz.prog 109 #[v, .int .i64 ins] w (BPost (goodR r ins) w) := by
  have HC := Lib.hid (deedsOf_any r ins v w hrow)
  generalize goodR r ins = b at HC
  clear hrow
  go_enter Tryz.func109, Tryz.ntmps109
  go_wp2_with fail
  refine HC.out.mono ?_
  rintro e w1 ⟨v1, rfl, _, hb1⟩
  have HB1 := Lib.hid hb1
  clear hb1 HC
  go_wp2_with fail
  go_ret
  exact ⟨rfl, HB1.out⟩

/-- A deed that is none of the first kind. -/
theorem not_cat {o : OpT} (hk : knownB o = true) (h1 : o.1 ≠ 1) : ∃ T v, deedV o = .iface T v ∧ ∀ w : World, (Instr.typeAssert (.iface T v) 186 203 true).run Tryz.prog w = .ok (.tuple #[.agg #[.int .i64 0], .bool false]) w := by
  obtain ⟨k, n, t⟩ := o
  simp only [knownB, Bool.and_eq_true, decide_eq_true_eq] at hk h1
  have hk' : k = 2 ∨ k = 3 ∨ k = 4 ∨ k = 5 ∨ k = 6 ∨ k = 7 := by omega
  rcases hk' with rfl | rfl | rfl | rfl | rfl | rfl
  · exact ⟨_, _, rfl, fun w => ta_text_cat _ w⟩
  · exact ⟨_, _, rfl, fun w => ta_upper_cat _ w⟩
  · exact ⟨_, _, rfl, fun w => ta_sort_cat _ w⟩
  · exact ⟨_, _, rfl, fun w => ta_drop_cat _ w⟩
  · exact ⟨_, _, rfl, fun w => ta_count_cat _ w⟩
  · exact ⟨_, _, rfl, fun w => ta_fail_cat _ w⟩
theorem known_ok {ins : Int} {o : OpT} (h : opOk ins o = true) : knownB o = true := by
  rw [opOk_is, Bool.and_eq_true] at h; exact h.1
theorem DC_get {r : List OpT} {k : Nat} (hk : k < r.length) : (DC r)[k]'(by rw [DC_len]; exact hk) = deedV r[k] := by simp [DC]
theorem RowV.deeds {w : World} {v : Value} {r : List OpT} (h : RowV w v (DC r)) :
    ∃ a c, v = .slice a r.length c ∧ r.length ≤ c ∧ c ≤ maxLen ∧ ∀ k (hk : k < r.length), ∃ g o, a = some ⟨g, o, none⟩ ∧ g < w.heap.size ∧ w.cell? ⟨g, o + k, none⟩ = some (deedV r[k]) := by
  obtain ⟨a, c, hv, h1, h2, hat⟩ := h
  refine ⟨a, c, by rw [hv, DC_len], by rw [DC_len] at h1; exact h1, h2, fun k hk => ?_⟩
  obtain ⟨g, o, ha, hg, hc⟩ := hat k (by rw [DC_len]; exact hk)
  exact ⟨g, o, ha, hg, by rw [hc, DC_get hk]⟩
theorem cats_snoc {r : List OpT} {k : Nat} (hk : k < r.length) (h : r[k].1 = 1) : catsL (r.take (k + 1)) = catsL (r.take k) ++ [r[k].2.1] := by
  rw [cats_next hk, if_pos h]
theorem cats_same {r : List OpT} {k : Nat} (hk : k < r.length) (h : r[k].1 ≠ 1) : catsL (r.take (k + 1)) = catsL (r.take k) := by
  rw [cats_next hk, if_neg h, List.append_nil]
theorem none_ownI (w : World) (B e : Nat) : w.ownsRow B e 1 (.slice none 0 0) 0 [] := ⟨rfl, .inl ⟨rfl, rfl⟩⟩
theorem own_I {w : World} {B e : Nat} {v : Value} {l : List Int} (h : w.ownsRow B e 1 v l.length (I l)) : w.ownsRow B e 1 v (I l).length (I l) := by rw [I_len]; exact h
theorem own_I2 {w : World} {B e : Nat} {v : Value} {l : List Int} {n : Int} (h : w.ownsRow B e 1 v (I l ++ [Value.int .i64 n]).length (I l ++ [Value.int .i64 n])) : w.ownsRow B e 1 v (l ++ [n]).length (I (l ++ [n])) := by
  rw [← I_len, I_append]; exact h

end Go.Proofs.YtgolhfmmlanmlaaGreatDoor
