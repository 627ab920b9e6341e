/- Texts of one claim, joined in their order. -/
import Derived.Shelf.SlSortCmp.NoneTotal
import Derived.Shelf.SortM.Plain
import Derived.Shelf.SortM.SortNone
import Derived.Test.YtgcaplbeahjbmaaGreatDoorProg
import Derived.Sort.OwnSorted
import Derived.Maps.Ext
import Derived.Test.YtgcaplbeahjbmaaGreatDoorM5
import Derived.Test.YtgcaplbeahjbmaaGreatDoorM3
import Derived.Test.YtgcaplbeahjbmaaGreatDoorM1

/- The library's sort at this program: each field is a fact of the loaded program. -/
namespace Go.Proofs
open Go.Shelf
def Tryz.sortF_ren : Go.Shelf.Ren := ⟨fun | 6 => 53 | 15 => 62 | 14 => 61 | 28 => 76 | 29 => 77 | 20 => 68 | 21 => 69 | 22 => 70 | 23 => 71 | 24 => 72 | 25 => 73 | 26 => 74 | 27 => 75 | 46 => 91 | 47 => 92 | 48 => 93 | 49 => 94 | 50 => 95 | 57 => 109 | n => n, fun | 22 => 27 | 24 => 44 | 25 => 75 | 3 => 3 | 39 => 84 | 0 => 0 | 53 => 98 | 55 => 100 | 4 => 4 | 46 => 91 | 45 => 90 | 50 => 95 | 5 => 5 | 9 => 9 | 66 => 112 | 70 => 116 | 76 => 134 | 77 => 135 | n => n, fun | n => n⟩
theorem Tryz.sortF : Go.Proofs.SlLaysF0.n6 Tryz.prog Tryz.sortF_ren := {
  mixed := by kernel_rfl
  f6 := ⟨Tryz.f53.name, by decide, Tryz.func53.trans (congrArg some (by kernel_rfl))⟩
  f14 := ⟨Tryz.f61.name, by decide, Tryz.func61.trans (congrArg some (by kernel_rfl))⟩
  f15 := Tryz.func62.trans (congrArg some (by kernel_rfl))
  f20 := ⟨Tryz.f68.name, by decide, Tryz.func68.trans (congrArg some (by kernel_rfl))⟩
  f21 := ⟨Tryz.f69.name, by decide, Tryz.func69.trans (congrArg some (by kernel_rfl))⟩
  f22 := ⟨Tryz.f70.name, by decide, Tryz.func70.trans (congrArg some (by kernel_rfl))⟩
  f23 := ⟨Tryz.f71.name, by decide, Tryz.func71.trans (congrArg some (by kernel_rfl))⟩
  f24 := ⟨Tryz.f72.name, by decide, Tryz.func72.trans (congrArg some (by kernel_rfl))⟩
  f25 := ⟨Tryz.f73.name, by decide, Tryz.func73.trans (congrArg some (by kernel_rfl))⟩
  f26 := ⟨Tryz.f74.name, by decide, Tryz.func74.trans (congrArg some (by kernel_rfl))⟩
  f27 := ⟨Tryz.f75.name, by decide, Tryz.func75.trans (congrArg some (by kernel_rfl))⟩
  f28 := Tryz.func76.trans (congrArg some (by kernel_rfl))
  f29 := Tryz.func77.trans (congrArg some (by kernel_rfl))
  f46 := ⟨Tryz.f91.name, by decide, Tryz.func91.trans (congrArg some (by kernel_rfl))⟩
  f47 := Tryz.func92.trans (congrArg some (by kernel_rfl))
  f48 := Tryz.func93.trans (congrArg some (by kernel_rfl))
  f49 := ⟨Tryz.f94.name, by decide, Tryz.func94.trans (congrArg some (by kernel_rfl))⟩
  f50 := ⟨Tryz.f95.name, by decide, Tryz.func95.trans (congrArg some (by kernel_rfl))⟩
  f57 := ⟨Tryz.f109.name, by decide, Tryz.func109.trans (congrArg some (by kernel_rfl))⟩
  t0 := Tryz.underlying0
  a0 := Tryz.isAgg0
  z0 := Tryz.sizeOf0
  v0 := Tryz.zeroValue0
  t3 := Tryz.underlying3
  a3 := Tryz.isAgg3
  z3 := Tryz.sizeOf3
  v3 := Tryz.zeroValue3
  t4 := Tryz.underlying4
  a4 := Tryz.isAgg4
  z4 := Tryz.sizeOf4
  v4 := Tryz.zeroValue4
  t5 := Tryz.underlying5
  a5 := Tryz.isAgg5
  z5 := Tryz.sizeOf5
  v5 := Tryz.zeroValue5
  t9 := Tryz.underlying9
  a9 := Tryz.isAgg9
  z9 := Tryz.sizeOf9
  v9 := Tryz.zeroValue9
  t22 := Tryz.underlying27
  a22 := Tryz.isAgg27
  z22 := Tryz.sizeOf27
  v22 := Tryz.zeroValue27
  t25 := Tryz.underlying75
  a25 := Tryz.isAgg75
  z25 := Tryz.sizeOf75
  v25 := Tryz.zeroValue75
  t39 := Tryz.underlying84
  a39 := Tryz.isAgg84
  z39 := Tryz.sizeOf84
  v39 := Tryz.zeroValue84
  t45 := Tryz.underlying90
  a45 := Tryz.isAgg90
  z45 := Tryz.sizeOf90
  v45 := Tryz.zeroValue90
  t46 := Tryz.underlying91
  a46 := Tryz.isAgg91
  z46 := Tryz.sizeOf91
  v46 := Tryz.zeroValue91
  t50 := Tryz.underlying95
  a50 := Tryz.isAgg95
  z50 := Tryz.sizeOf95
  v50 := Tryz.zeroValue95
  t53 := Tryz.underlying98
  a53 := Tryz.isAgg98
  z53 := Tryz.sizeOf98
  v53 := Tryz.zeroValue98
  t55 := Tryz.underlying100
  a55 := Tryz.isAgg100
  z55 := Tryz.sizeOf100
  v55 := Tryz.zeroValue100
  t66 := Tryz.underlying112
  a66 := Tryz.isAgg112
  z66 := Tryz.sizeOf112
  v66 := Tryz.zeroValue112
  t70 := Tryz.underlying116
  a70 := Tryz.isAgg116
  z70 := Tryz.sizeOf116
  v70 := Tryz.zeroValue116
  t76 := Tryz.underlying134
  a76 := Tryz.isAgg134
  z76 := Tryz.sizeOf134
  v76 := Tryz.zeroValue134
  t77 := Tryz.underlying135
  a77 := Tryz.isAgg135
  z77 := Tryz.sizeOf135
  v77 := Tryz.zeroValue135 }
def Tryz.sortS_ren : Go.Shelf.Ren := ⟨fun | 6 => 55 | 8 => 62 | 9 => 64 | 19 => 76 | 20 => 77 | 21 => 79 | 22 => 80 | 23 => 81 | 24 => 82 | 25 => 83 | 26 => 84 | 27 => 85 | 28 => 86 | 29 => 87 | 36 => 97 | 31 => 92 | 32 => 93 | 37 => 98 | 38 => 99 | 39 => 100 | 41 => 110 | n => n, fun | 27 => 23 | 29 => 9 | 3 => 3 | 32 => 84 | 26 => 23 | 0 => 0 | 44 => 98 | 46 => 100 | 4 => 4 | 36 => 91 | 35 => 90 | 41 => 95 | 5 => 5 | 9 => 9 | 53 => 112 | 57 => 116 | 63 => 134 | 64 => 135 | n => n, fun | n => n⟩
theorem Tryz.sortS : Go.Proofs.SlLaysM.n6 Tryz.prog Tryz.sortS_ren := {
  mixed := by kernel_rfl
  f6 := ⟨Tryz.f55.name, by decide, Tryz.func55.trans (congrArg some (by kernel_rfl))⟩
  f8 := Tryz.func62.trans (congrArg some (by kernel_rfl))
  f9 := ⟨Tryz.f64.name, by decide, Tryz.func64.trans (congrArg some (by kernel_rfl))⟩
  f19 := Tryz.func76.trans (congrArg some (by kernel_rfl))
  f20 := Tryz.func77.trans (congrArg some (by kernel_rfl))
  f21 := ⟨Tryz.f79.name, by decide, Tryz.func79.trans (congrArg some (by kernel_rfl))⟩
  f22 := ⟨Tryz.f80.name, by decide, Tryz.func80.trans (congrArg some (by kernel_rfl))⟩
  f23 := ⟨Tryz.f81.name, by decide, Tryz.func81.trans (congrArg some (by kernel_rfl))⟩
  f24 := ⟨Tryz.f82.name, by decide, Tryz.func82.trans (congrArg some (by kernel_rfl))⟩
  f25 := ⟨Tryz.f83.name, by decide, Tryz.func83.trans (congrArg some (by kernel_rfl))⟩
  f26 := ⟨Tryz.f84.name, by decide, Tryz.func84.trans (congrArg some (by kernel_rfl))⟩
  f27 := ⟨Tryz.f85.name, by decide, Tryz.func85.trans (congrArg some (by kernel_rfl))⟩
  f28 := ⟨Tryz.f86.name, by decide, Tryz.func86.trans (congrArg some (by kernel_rfl))⟩
  f29 := ⟨Tryz.f87.name, by decide, Tryz.func87.trans (congrArg some (by kernel_rfl))⟩
  f31 := Tryz.func92.trans (congrArg some (by kernel_rfl))
  f32 := Tryz.func93.trans (congrArg some (by kernel_rfl))
  f36 := ⟨Tryz.f97.name, by decide, Tryz.func97.trans (congrArg some (by kernel_rfl))⟩
  f37 := ⟨Tryz.f98.name, by decide, Tryz.func98.trans (congrArg some (by kernel_rfl))⟩
  f38 := ⟨Tryz.f99.name, by decide, Tryz.func99.trans (congrArg some (by kernel_rfl))⟩
  f39 := ⟨Tryz.f100.name, by decide, Tryz.func100.trans (congrArg some (by kernel_rfl))⟩
  f41 := ⟨Tryz.f110.name, by decide, Tryz.func110.trans (congrArg some (by kernel_rfl))⟩
  t0 := Tryz.underlying0
  a0 := Tryz.isAgg0
  z0 := Tryz.sizeOf0
  v0 := Tryz.zeroValue0
  t3 := Tryz.underlying3
  a3 := Tryz.isAgg3
  z3 := Tryz.sizeOf3
  v3 := Tryz.zeroValue3
  t4 := Tryz.underlying4
  a4 := Tryz.isAgg4
  z4 := Tryz.sizeOf4
  v4 := Tryz.zeroValue4
  t5 := Tryz.underlying5
  a5 := Tryz.isAgg5
  z5 := Tryz.sizeOf5
  v5 := Tryz.zeroValue5
  t9 := Tryz.underlying9
  a9 := Tryz.isAgg9
  z9 := Tryz.sizeOf9
  v9 := Tryz.zeroValue9
  t26 := Tryz.underlying23
  a26 := Tryz.isAgg23
  z26 := Tryz.sizeOf23
  v26 := Tryz.zeroValue23
  t27 := Tryz.underlying23
  a27 := Tryz.isAgg23
  z27 := Tryz.sizeOf23
  v27 := Tryz.zeroValue23
  t29 := Tryz.underlying9
  a29 := Tryz.isAgg9
  z29 := Tryz.sizeOf9
  v29 := Tryz.zeroValue9
  t32 := Tryz.underlying84
  a32 := Tryz.isAgg84
  z32 := Tryz.sizeOf84
  v32 := Tryz.zeroValue84
  t35 := Tryz.underlying90
  a35 := Tryz.isAgg90
  z35 := Tryz.sizeOf90
  v35 := Tryz.zeroValue90
  t36 := Tryz.underlying91
  a36 := Tryz.isAgg91
  z36 := Tryz.sizeOf91
  v36 := Tryz.zeroValue91
  t41 := Tryz.underlying95
  a41 := Tryz.isAgg95
  z41 := Tryz.sizeOf95
  v41 := Tryz.zeroValue95
  t44 := Tryz.underlying98
  a44 := Tryz.isAgg98
  z44 := Tryz.sizeOf98
  v44 := Tryz.zeroValue98
  t46 := Tryz.underlying100
  a46 := Tryz.isAgg100
  z46 := Tryz.sizeOf100
  v46 := Tryz.zeroValue100
  t53 := Tryz.underlying112
  a53 := Tryz.isAgg112
  z53 := Tryz.sizeOf112
  v53 := Tryz.zeroValue112
  t57 := Tryz.underlying116
  a57 := Tryz.isAgg116
  z57 := Tryz.sizeOf116
  v57 := Tryz.zeroValue116
  t63 := Tryz.underlying134
  a63 := Tryz.isAgg134
  z63 := Tryz.sizeOf134
  v63 := Tryz.zeroValue134
  t64 := Tryz.underlying135
  a64 := Tryz.isAgg135
  z64 := Tryz.sizeOf135
  v64 := Tryz.zeroValue135 }
end Go.Proofs

/- Walks: the program's files of a map, sorted by name. -/
namespace Go.Proofs.YtgcaplbeahjbmaaGreatDoor
open Go.RowKit Go.Maps Go.Sort Go.Lib Pth

theorem cmp_lt (a b : List UInt8) : decide (Lib.compareBytes a b < 0) = ltT a b := by
  induction a generalizing b with
  | nil => cases b <;> rfl
  | cons x t ih =>
    cases b with
    | nil => rfl
    | cons y u =>
      rw [ltT_cons, Lib.compareBytes, ← ih u]
      by_cases h1 : x < y
      · rw [if_pos h1]; simp [h1]
      · rw [if_neg h1]
        by_cases h2 : y < x
        · rw [if_pos h2]
          have : ¬ x = y := fun e => by subst e; exact UInt8.lt_irrefl _ h2
          simp [h1, this]
        · rw [if_neg h2]
          have : x = y := UInt8.toNat_inj.1 (by have a1 : ¬ x.toNat < y.toNat := fun h => h1 (UInt8.lt_iff_toNat_lt.2 h); have a2 : ¬ y.toNat < x.toNat := fun h => h2 (UInt8.lt_iff_toNat_lt.2 h); omega)
          simp [this]
/-- How the program compares files. -/
def cmpF (a b : FileT) : Int := Lib.compareBytes a.1 b.1
theorem ltOf_cmp (a b : FileT) : ltOf cmpF a b = ltT a.1 b.1 := cmp_lt a.1 b.1
theorem swoF : SWO (ltOf cmpF) where
  irrefl x := by rw [ltOf_cmp]; exact ltT_irrefl _
  trans x y z h1 h2 := by rw [ltOf_cmp] at *; exact ltT_trans h1 h2
  ntrans x y z h1 h2 := by
    rw [ltOf_cmp] at *
    rcases h : ltT x.1 z.1 with _ | _
    · rfl
    · rcases ltT_total x.1 y.1 with h3 | h3 | h3
      · rw [h3] at h1; cases h1
      · rw [h3, h2] at h; cases h
      · rw [ltT_trans h3 h] at h2; cases h2

set_option maxHeartbeats 1000000 in
theorem compareNames_any (x y : FileT) (W : World) :
    Calls Tryz.prog 54 #[.agg #[.string ⟨x.1.toArray⟩, .string ⟨x.2.toArray⟩], .agg #[.string ⟨y.1.toArray⟩, .string ⟨y.2.toArray⟩]] W fun e w' => e = .returned (.int .i64 (cmpF x y)) ∧ ∃ q os', w' = grow (W.drewN q) os' := by
  have HC := Lib.hid (fun w' => Tryz.strings_Compare ⟨x.1.toArray⟩ ⟨y.1.toArray⟩ w')
  have HE : Hid (cmpF x y = Lib.compareBytes x.1 y.1) := rfl
  go_enter Tryz.func54, Tryz.ntmps54
  go_wp2_with fail
  refine (HC.out _).mono ?_
  rintro e w1 ⟨rfl, rfl⟩
  go_wp2_with fail
  go_ret
  exact ⟨by rw [HE.out]; rfl, 0, _, by rw [alloc_eq_grow, alloc_eq_grow, grow_grow]; rfl⟩
theorem cmpLaysF (blk off size : Nat) (w : World) : CmpLays Tryz.prog 54 #[] fileC 2 cmpF blk off size w := fun _ _ _ _ x y => compareNames_any x y _

theorem flat_FC (l : List FileT) : flatK fileC 2 l.toArray = (FC l).toArray := by
  refine ext_get! (by simp [FC_len]) fun t ht => ?_
  have ht' : t < l.length * 2 := by simpa using ht
  rw [get_flatK _ _ _ t (by simpa using ht')]
  have hi : t / 2 < l.length := by omega
  have e1 : l.toArray[t / 2]! = l[t / 2] := by simp [hi]
  have e2 : (FC l).toArray[t]! = (FC l)[t]'(by rw [FC_len]; exact ht') := by
    rw [getElem!_pos _ t (by simpa [FC_len] using ht')]
    simp
  rw [e1, e2]
  rcases Nat.mod_two_eq_zero_or_one t with e | e
  · have h2 : (FC l)[t]'(by rw [FC_len]; exact ht') = (FC l)[t / 2 * 2]'(by rw [FC_len]; omega) := by congr 1; omega
    rw [h2, FC_name hi, e]; rfl
  · have h2 : (FC l)[t]'(by rw [FC_len]; exact ht') = (FC l)[t / 2 * 2 + 1]'(by rw [FC_len]; omega) := by congr 1; omega
    rw [h2, FC_body hi, e]; rfl
theorem holds_own {w : World} {B e g cap n : Nat} {l : List FileT} (h : w.ownsRow B e 2 (.slice (some ⟨g, 0, none⟩) n cap) n (FC l)) : HoldsK fileC 2 w g 0 l.toArray := by
  unfold HoldsK
  rw [flat_FC]
  intro j hj
  have hj' : j < (FC l).length := by simpa using hj
  have hc := h.cellAt j (by have := h.1; omega)
  refine ⟨?_, by rw [Nat.zero_add]; exact h.frozenAt j⟩
  rw [Nat.zero_add, hc, List.getElem?_eq_getElem hj', getElem!_pos _ j (by simpa using hj')]
  simp
theorem heap_sortedK {w : World} {g n : Nat} {os : Array Obj} {cur : Array Value} {e : TypeId} {fr : Nat × Nat} (F : Array Value) (hb : w.heap[g]? = some (.cells cur e fr)) :
    (grow (putRow id (Sort.ahead w n) g 0 F) os).heap[g]? = some (.cells (putCells id 0 F cur) e fr) := by
  have hg : g < w.heap.size := (Array.getElem?_eq_some_iff.1 hb).1
  rw [heap_grow_old _ _ (by simpa using hg)]
  simp [putRow, mapBlock, Sort.ahead, Array.getElem?_modify, hb, onCells]
theorem grownBy_sortedK {w : World} {g n : Nat} {os : Array Obj} (F : Array Value) : w.grownBy (grow (putRow id (Sort.ahead w n) g 0 F) os) (some g) := by
  refine ⟨rfl, rfl, rfl, by simp, fun k hk hne => ?_⟩
  rw [heap_grow_old _ _ (by simpa using hk)]
  have : g ≠ k := fun e => hne (by rw [e])
  simp [putRow, mapBlock, Sort.ahead, Array.getElem?_modify, this]
theorem take_putId (cur : Array Value) (xs : List Value) (h : xs.length ≤ cur.size) : (putCells id 0 xs.toArray cur).toList.take xs.length = xs := by
  apply List.ext_getElem?
  intro j
  by_cases hj : j < xs.length
  · rw [List.getElem?_take_of_lt hj, Array.getElem?_toList]
    simp [putCells, hj, show j < cur.size by omega]
  · rw [List.getElem?_take_eq_none (by omega), List.getElem?_eq_none (by omega)]
/-- Behind the sort the same slice owns the sorted files. -/
theorem own_sortedF {w : World} {B e g cap n : Nat} {os : Array Obj} {l l' : List FileT} (hl : l'.length = l.length) (h : w.ownsRow B e 2 (.slice (some ⟨g, 0, none⟩) l.length cap) l.length (FC l)) :
    (sortWorldK fileC 2 w g 0 n l'.toArray os).ownsRow B e 2 (.slice (some ⟨g, 0, none⟩) l.length cap) l.length (FC l') := by
  rcases h.2 with ⟨hv, _⟩ | ⟨g', cap', cur, hv, hB, hh, h1, h2, h3, h4⟩
  · cases hv
  · obtain ⟨rfl, rfl⟩ : g = g' ∧ cap = cap' := by injection hv with a b c; injection a with a; injection a with a; exact ⟨a, c⟩
    unfold sortWorldK putRowK
    rw [flat_FC]
    refine ⟨by rw [FC_len, hl], .inr ⟨g, cap, _, rfl, hB, heap_sortedK _ hh, h1, h2, by simp [putCells, h3], ?_⟩⟩
    have e1 : l.length * 2 = (FC l').length := by rw [FC_len, hl]
    rw [e1]
    exact take_putId cur (FC l') (by rw [← e1, h3]; omega)
theorem grown_sortedF {w : World} {g n : Nat} {os : Array Obj} (l' : List FileT) : w.grownBy (sortWorldK fileC 2 w g 0 n l'.toArray os) (some g) := by
  unfold sortWorldK putRowK
  exact grownBy_sortedK _
theorem sorted_list {l : List FileT} {d' : Array FileT} (hp : PermIn 0 l.toArray.size l.toArray d') (hs : SortedIn (ltOf cmpF) 0 l.toArray.size d') : d'.toList.Perm l ∧ d'.toList.Pairwise (fun a b => ltT b.1 a.1 = false) := by
  have h0 : d'.size = l.length := by simpa using hp.1
  constructor
  · have := hp.2.2
    rw [show (l.toArray.size) = d'.size by simpa using h0.symm, Array.extract_size] at this
    rw [show d'.size = l.toArray.size by simpa using h0, Array.extract_size] at this
    simpa using this
  · rw [List.pairwise_iff_getElem]
    intro i j hi hj hij
    have := hs i j (Nat.zero_le _) hij (by simpa [h0] using hj)
    rw [ltOf_cmp] at this
    rw [getElem!_pos _ j (by simpa using hj), getElem!_pos _ i (by simpa using hi)] at this
    simpa using this

/-- The sort, at files of a rising list in whatever order. -/
theorem sort_any (l acc : List FileT) (v : Value) (B : Nat) (w : World) (hown : w.ownsRow B 44 2 v acc.length (FC acc)) (hp : acc.Perm l) (hr : RiseF l) (hl : acc.length ≤ 1000000) (hB : B ≤ w.heap.size) :
    Calls Tryz.prog 53 #[v, .func (.func 54) #[] #[]] w fun e w' => e = .returned (.tuple #[]) ∧ w'.ownsRow B 44 2 v l.length (FC l) ∧ Below B w w' := by
  have eg : ∀ args w, (callFunc 54 args).run Tryz.prog w = .ok (.enter 54 args) w := enters_of Tryz.func54 (by kernel_rfl) rfl
  have hpl := hp.length_eq
  rcases hown.2 with ⟨hv, h0⟩ | ⟨g, cap, cur, hv, hBg, hh, h1, h2, h3, h4⟩
  · subst hv
    have h00 : acc = [] := List.eq_nil_of_length_eq_zero h0
    subst h00
    have hl0 : l = [] := List.Perm.nil_eq hp |>.symm
    subst hl0
    refine (AnyF.slices_SortFunc_none Tryz.sortF none 0 _ w).mono fun e w' ⟨he, hw⟩ => ?_
    subst hw
    exact ⟨he, hown, Below.refl _ _⟩
  · subst hv
    have hc := AnyQ.slices_SortFunc Tryz.sortF 2 Tryz.isAgg44 Tryz.sizeOf44 fileC (fun _ => rfl) (fun x v hv => by simp [fileC] at hv; rcases hv with rfl | rfl <;> rfl) cmpF swoF 54 #[] g 0 cap acc.toArray w eg (cmpLaysF g 0 _ w) (holds_own hown) (lt_of_block hh) (by simp; omega)
    have e0 : acc.toArray.size = acc.length := by simp
    rw [e0] at hc
    refine hc.mono ?_
    rintro e w' ⟨he, d', n, os, hpp, hss, rfl⟩
    obtain ⟨p1, p2⟩ := sorted_list (by rw [e0]; exact hpp) (by rw [e0]; exact hss)
    have hd : d'.toList = l := sorted_is (p1.trans hp) hr p2
    have hd2 : d' = l.toArray := by rw [← hd]
    subst hd2
    refine ⟨he, ?_, ?_⟩
    · have := own_sortedF (n := n) (os := os) hpl.symm hown
      rw [← hpl]
      exact this
    · exact (Below.refl B w).grown (grown_sortedF l) hB (fun k hk => by cases hk; exact hBg)

end Go.Proofs.YtgcaplbeahjbmaaGreatDoor

/- Walks: the program's files of a map. -/
namespace Go.Proofs.YtgcaplbeahjbmaaGreatDoor
open Go.RowKit Go.Maps Pth

theorem own_ne {w : World} {B e z n : Nat} {v : Value} {xs : List Value} (h : w.ownsRow B e z v n xs) {k : Nat} (hk : k < B) : some k ≠ v.ownBlock := fun e => by
  have := (h.lt k e.symm).1
  omega

set_option maxRecDepth 20000 in
set_option maxHeartbeats 4000000 in
theorem filesIn_any (l : List FileT) (b n : Nat) (w : World) (hm : MapF w b n l) (hl : l.length ≤ 5000) :
    Calls Tryz.prog 42 #[.map (some b)] w (FilesPost l w) := by
  have HM := Lib.hid hm
  have hb := hm.lt
  have HRI := Lib.hid hm.2
  clear hm
  go_enter Tryz.func42, Tryz.ntmps42
  go_wp2_with (at_range; refine wpRangeF _ rfl _ rfl b n l rfl HM.out ?_; intro w0 hrg0 hg0 hs0)
  go_frame
  have HR0 := Lib.hid hrg0
  have HB0 := Lib.hid ((Below.refl w.heap.size w).grown hg0 (Nat.le_refl _) (fun j hj => by cases hj))
  clear hrg0 hg0
  go_loopw [3] (fun v wr => ∃ (left : Lit → Bool) (cnt : Nat) (acc : List FileT), Hid (RangF wr b w.heap.size n l left cnt) ∧ Hid (wr.ownsRow (w.heap.size + 1) 44 2 v acc.length (FC acc)) ∧ Hid (CollF l left acc) ∧ acc.length + cnt ≤ l.length ∧ w.heap.size + 1 ≤ wr.heap.size ∧ Hid (Below w.heap.size w wr)) (fun _ wr => wr.rangeLeft b w.heap.size)
  case atStart => exact ⟨_, _, [], HR0, ⟨rfl, .inl ⟨rfl, rfl⟩⟩, CollF.start l, by simp, by omega, HB0⟩
  case round =>
    clear HR0 HB0 hs0
    obtain ⟨left, cnt, acc, HR, HN, HC, hcs, hsz, HB⟩ := hrel
    go_wp2_with (at_next; refine wpNextF _ rfl _ rfl b w.heap.size n l left cnt rfl HR.out ?_ ?_)
    · intro hc0 hl0
      have HS := Lib.hid (sort_any l acc u3 (w.heap.size + 1) wr HN.out (HC.out.perm HRI.out hl0) HRI.out (by omega) hsz)
      clear hl0 HC HR HN
      go_wp2_with fail
      refine HS.out.mono ?_
      rintro e w1 ⟨rfl, hown1, hb1⟩
      have HN1 := Lib.hid (own_baseG hown1 (Nat.le_succ _))
      have HB1 := Lib.hid (HB.out.trans (hb1.mono (Nat.le_succ _)))
      clear hown1 hb1 HS HB
      go_wp2_with fail
      go_ret
      exact ⟨_, rfl, HN1.out, HB1.out⟩
    · intro x c w1 cnt1 hmem hx hc hlx hrg1 hlt hg1 hs1 hen
      have HN1 := Lib.hid (HN.out.kept hg1 (.inr (own_ne HN.out (Nat.lt_succ_self _)).symm))
      have HB1 := Lib.hid (HB.out.grown hg1 HB.out.size (fun j hj => by cases hj; exact Nat.le_refl _))
      have HC1 := Lib.hid (HC.out.step HRI.out hmem hlx)
      have HR1 := Lib.hid hrg1
      have HSZ : Hid (w.heap.size + 1 ≤ w1.heap.size) := by show _ ≤ _; omega
      clear hmem hx hc hlx hrg1 hg1 hs1 HC HN HB
      go_wp2_with (at_builtin; refine wpAppOneG elemF rfl _ _ rfl (w.heap.size + 1) _ acc.length (FC acc) rfl HN1.out _ rfl rfl rfl (by intro u hu; simp at hu; rcases hu with rfl | rfl <;> rfl) (by omega) HSZ.out ?_; intro v2 w2 hown2 hg2; go_frame)
      have HN2 := Lib.hid (file_snoc hown2)
      have HR2 : Hid (RangF w2 b w.heap.size n l (fun z => left z && !z.sameKey (.string x)) cnt1) := ⟨HR1.out.1.kept hg2 (own_ne HN1.out (by omega)) (own_ne HN1.out (Nat.lt_succ_self _)), HR1.out.2⟩
      have HB2 := Lib.hid (HB1.out.trans ((below_ownG HN1.out hg2 HSZ.out).mono (Nat.le_succ _)))
      have hz2 : w.heap.size + 1 ≤ w2.heap.size := Nat.le_trans HSZ.out hg2.size
      have hml : wr.rangeLeft b w.heap.size = cnt := HR.out.1.left_eq
      have hml2 : w2.rangeLeft b w.heap.size = cnt1 := HR2.out.1.left_eq
      clear hown2 hg2
      go_roundw
      case rel => exact ⟨_, cnt1, acc ++ [(x, c)], HR2, HN2, HC1, by simp; omega, hz2, HB2⟩
      case measure => rw [hml, hml2]; exact hlt

end Go.Proofs.YtgcaplbeahjbmaaGreatDoor

/- Walks: the program's good stores. -/
namespace Go.Proofs.YtgcaplbeahjbmaaGreatDoor
open Go.RowKit Go.Maps Pth

theorem find_has (l : List FileT) (n : List UInt8) : findF l n = -1 ↔ hasF l n = false := by
  constructor
  · intro h
    have := find_miss h
    rw [hasF, List.any_eq_false]
    intro f hf
    simpa using this f hf
  · intro h
    rw [hasF, List.any_eq_false] at h
    exact find_none (fun f hf => by simpa using h f hf)
theorem good_rise {l : List FileT} (h : goodF l = true) : RiseF l := by
  rw [riseF_iff]
  rw [goodF_parts, Bool.and_eq_true, namesOk, Bool.and_eq_true] at h
  exact h.1.2
theorem goodS_parts (s : StoreT) : goodS s = (goodF s.files && (goodF s.staged && (decide (s.gone.length ≤ 12) && (namesOk s.gone && (s.gone.all (fun n => !hasF s.staged n) && goodF (takenF s)))))) := by
  have e : goneOk s = (namesOk s.gone && s.gone.all (fun n => !hasF s.staged n)) := by
    have e1 : s.gone.all (fun n => nameOk n && decide (findF s.staged n = -1)) = (s.gone.all nameOk && s.gone.all (fun n => !hasF s.staged n)) := by
      induction s.gone with
      | nil => rfl
      | cons n t ih =>
        rw [List.all_cons, List.all_cons, List.all_cons, ih]
        have : decide (findF s.staged n = -1) = !hasF s.staged n := by
          rcases h : hasF s.staged n with _ | _
          · exact decide_eq_true ((find_has _ _).2 h)
          · exact decide_eq_false (fun e => by rw [(find_has _ _).1 e] at h; cases h)
        rw [this]
        cases nameOk n <;> cases hasF s.staged n <;> simp
    rw [goneOk, namesOk, e1]
    cases s.gone.all nameOk <;> cases riseN s.gone <;> simp
  rw [goodS, e]
  cases namesOk s.gone <;> simp

theorem goodFiles_m {b : Bool} {l : List FileT} {v : Value} (hx : ∀ f ∈ l, f.1.length ≤ maxLen ∧ f.2.length ≤ maxLen) (h : goodF l = b) : ∀ w, RowF w v l → MaxAt w → Calls Tryz.prog 40 #[v] w (BoolPost b w) := fun w hr hm => by
  have := implGoodFiles_any l v w hr hx hm
  rwa [h] at this
theorem areNames_m {b : Bool} {l : List (List UInt8)} {v : Value} (hx : ∀ n ∈ l, n.length ≤ maxLen) (h : namesOk l = b) : ∀ w, RowV w v (S l) → MaxAt w → Calls Tryz.prog 41 #[v] w (BoolPost b w) := fun w hr hm => by
  have := areNames_any l v w hr hx hm
  rwa [h] at this
theorem taken_fits {s : StoreT} (hx : Fits s) : ∀ f ∈ takenF s, f.1.length ≤ maxLen ∧ f.2.length ≤ maxLen := fun f hf => by
  rcases mem_taken hf with h | h
  · exact hx.2.1 f h
  · exact hx.1 f h
theorem taken_len (s : StoreT) : (takenF s).length ≤ s.files.length + s.staged.length := by
  have h1 := foldl_put_len s.staged s.files
  have h2 : ∀ (g : List (List UInt8)) (m : List FileT), (g.foldl dropF m).length ≤ m.length := by
    intro g
    induction g with
    | nil => intro m; exact Nat.le_refl _
    | cons n t ih => intro m; exact Nat.le_trans (ih _) (dropF_len m n)
  exact Nat.le_trans (h2 _ _) h1

set_option maxRecDepth 20000 in
set_option maxHeartbeats 8000000 in
theorem implGoodStore_any (s : StoreT) (v : Value) (w : World) (hst : StoreV w v s) (hx : Fits s) (hm : MaxAt w) :
    Calls Tryz.prog 22 #[v] w (BoolPost (goodS s) w) := by
  have HST := Lib.hid hst
  have HFX := Lib.hid hx
  have HM := Lib.hid hm
  obtain ⟨vf, vs, vg, rfl, h1, h2, h3⟩ := hst
  have H1 := Lib.hid h1
  have H2 := Lib.hid h2
  have H3 := Lib.hid h3
  obtain ⟨af, cf, rfl, hf1, hf2, _⟩ := h1.files
  obtain ⟨a2, cs, rfl, hs1, hs2, _⟩ := h2.files
  obtain ⟨ag, cg, rfl, hg1, hg2, hat3⟩ := h3.texts
  clear h1 h2 h3 hm
  unfold maxLen at hf2 hs2 hg2
  obtain ⟨hx1, hx2, hx3⟩ := hx
  obtain ⟨wa, hwa⟩ : ∃ wa, wa = w.alloc (.cells #[.slice af s.files.length cf, .slice a2 s.staged.length cs, .slice ag s.gone.length cg] 29) := ⟨_, rfl⟩
  have hsz : wa.heap.size = w.heap.size + 1 := by rw [hwa]; simp
  have P0 : Hid (Blk3 wa w.heap.size 29 (.slice af s.files.length cf) (.slice a2 s.staged.length cs) (.slice ag s.gone.length cg)) := by rw [hwa]; exact Blk3.new
  have HA : Hid (Below w.heap.size w wa) := by rw [hwa]; exact (Below.refl w.heap.size w).alloc (Nat.le_refl _) _
  have HMA := Lib.hid (HM.out.below HA.out)
  have hlt0 : w.heap.size < wa.heap.size := by omega
  obtain ⟨c0, c1, c2⟩ := P0.out.cells
  have HWA := Lib.hid hwa
  clear hwa
  have HTP := Lib.hid (goodS_parts s)
  rcases e1 : goodF s.files with _ | _
  · have HT : Hid (goodS s = false) := by show _ = _; rw [HTP.out, e1]; rfl
    have HC := Lib.hid (goodFiles_m hx1 e1 wa (H1.out.below HA.out) HMA.out)
    clear hat3 hx1 hx2 hx3 e1 HTP
    go_enter Tryz.func22, Tryz.ntmps22
    go_wp2_with fail
    rw [← HWA.out]
    refine HC.out.mono ?_
    rintro e w1 ⟨rfl, hb1⟩
    have HB1 := Lib.hid (HA.out.trans (hb1.mono HA.out.size))
    clear hb1 HC
    go_wp2_with fail
    go_ret
    exact ⟨ret_bool HT.out.symm, HB1.out⟩
  · have HC1 := Lib.hid (goodFiles_m hx1 e1 wa (H1.out.below HA.out) HMA.out)
    rcases e2 : goodF s.staged with _ | _
    · have HT : Hid (goodS s = false) := by show _ = _; rw [HTP.out, e1, e2]; rfl
      have HC2 := Lib.hid (goodFiles_m (v := .slice a2 s.staged.length cs) hx2 e2)
      clear hat3 hx1 hx2 hx3 e1 e2 HTP
      go_enter Tryz.func22, Tryz.ntmps22
      go_wp2_with fail
      rw [← HWA.out]
      refine HC1.out.mono ?_
      rintro e w1 ⟨rfl, hb1⟩
      have HB1 := Lib.hid (HA.out.trans (hb1.mono HA.out.size))
      have P1 := Lib.hid (P0.out.below hb1 hlt0)
      obtain ⟨d0, d1, d2⟩ := P1.out.cells
      clear hb1 HC1 c0 c1 c2
      go_wp2_with fail
      refine (HC2.out w1 (H2.out.below HB1.out) (HM.out.below HB1.out)).mono ?_
      rintro e w2 ⟨rfl, hb2⟩
      have HB2 := Lib.hid (bth HB1.out hb2)
      clear hb2 HC2
      go_wp2_with fail
      go_ret
      exact ⟨ret_bool HT.out.symm, HB2.out⟩
    · have HC2 := Lib.hid (goodFiles_m (v := .slice a2 s.staged.length cs) hx2 e2)
      by_cases h12 : 12 < s.gone.length
      · have hd : decide ((s.gone.length : Int) > 12) = true := decide_eq_true (by omega)
        have HT : Hid (goodS s = false) := by show _ = _; rw [HTP.out, e1, e2, decide_eq_false (by omega : ¬ s.gone.length ≤ 12)]; rfl
        clear hat3 hx1 hx2 hx3 e1 e2 HTP
        go_enter Tryz.func22, Tryz.ntmps22
        go_wp2_with fail
        rw [← HWA.out]
        refine HC1.out.mono ?_
        rintro e w1 ⟨rfl, hb1⟩
        have HB1 := Lib.hid (HA.out.trans (hb1.mono HA.out.size))
        have P1 := Lib.hid (P0.out.below hb1 hlt0)
        have hlt1 : w.heap.size < w1.heap.size := Nat.lt_of_lt_of_le hlt0 hb1.size
        obtain ⟨d0, d1, d2⟩ := P1.out.cells
        clear hb1 HC1 c0 c1 c2
        go_wp2_with fail
        refine (HC2.out w1 (H2.out.below HB1.out) (HM.out.below HB1.out)).mono ?_
        rintro e w2 ⟨rfl, hb2⟩
        have HB2 := Lib.hid (bth HB1.out hb2)
        have P2 := Lib.hid (P1.out.below hb2 hlt1)
        clear hb2 HC2 d0 d1 d2
        obtain ⟨d0, d1, d2⟩ := P2.out.cells
        go_wp2_with fail
        go_ret
        exact ⟨ret_bool HT.out.symm, HB2.out⟩
      · have hd : decide ((s.gone.length : Int) > 12) = false := decide_eq_false (by omega)
        rcases e3 : namesOk s.gone with _ | _
        · have HT : Hid (goodS s = false) := by show _ = _; rw [HTP.out, e1, e2, e3]; simp
          have HC3 := Lib.hid (areNames_m (v := .slice ag s.gone.length cg) hx3 e3)
          clear hat3 hx1 hx2 hx3 e1 e2 e3 HTP
          go_enter Tryz.func22, Tryz.ntmps22
          go_wp2_with fail
          rw [← HWA.out]
          refine HC1.out.mono ?_
          rintro e w1 ⟨rfl, hb1⟩
          have HB1 := Lib.hid (HA.out.trans (hb1.mono HA.out.size))
          have P1 := Lib.hid (P0.out.below hb1 hlt0)
          have hlt1 : w.heap.size < w1.heap.size := Nat.lt_of_lt_of_le hlt0 hb1.size
          obtain ⟨d0, d1, d2⟩ := P1.out.cells
          clear hb1 HC1 c0 c1 c2
          go_wp2_with fail
          refine (HC2.out w1 (H2.out.below HB1.out) (HM.out.below HB1.out)).mono ?_
          rintro e w2 ⟨rfl, hb2⟩
          have HB2 := Lib.hid (bth HB1.out hb2)
          have P2 := Lib.hid (P1.out.below hb2 hlt1)
          clear hb2 HC2 d0 d1 d2
          obtain ⟨d0, d1, d2⟩ := P2.out.cells
          go_wp2_with fail
          refine (HC3.out w2 (H3.out.below HB2.out) (HM.out.below HB2.out)).mono ?_
          rintro e w3 ⟨rfl, hb3⟩
          have HB3 := Lib.hid (bth HB2.out hb3)
          clear hb3 HC3
          go_wp2_with fail
          go_ret
          exact ⟨ret_bool HT.out.symm, HB3.out⟩
        · have HT : Hid (goodS s = (s.gone.all (fun n => !hasF s.staged n) && goodF (takenF s))) := by show _ = _; rw [HTP.out, e1, e2, e3, decide_eq_true (by omega : s.gone.length ≤ 12)]; simp
          have HC3 := Lib.hid (areNames_m (v := .slice ag s.gone.length cg) hx3 e3)
          have hlf := good_len e1
          have hls := good_len e2
          have HR1 := Lib.hid (good_rise e1)
          have HR2 := Lib.hid (good_rise e2)
          have HX2 := Lib.hid hx2
          have HX3 := Lib.hid hx3
          clear hx1 hx2 hx3 e1 e2 e3 HTP
          go_enter Tryz.func22, Tryz.ntmps22
          go_wp2_with fail
          rw [← HWA.out]
          refine HC1.out.mono ?_
          rintro e w1 ⟨rfl, hb1⟩
          have HB1 := Lib.hid (HA.out.trans (hb1.mono HA.out.size))
          have P1 := Lib.hid (P0.out.below hb1 hlt0)
          have hlt1 : w.heap.size < w1.heap.size := Nat.lt_of_lt_of_le hlt0 hb1.size
          obtain ⟨d0, d1, d2⟩ := P1.out.cells
          clear hb1 HC1 c0 c1 c2
          go_wp2_with fail
          refine (HC2.out w1 (H2.out.below HB1.out) (HM.out.below HB1.out)).mono ?_
          rintro e w2 ⟨rfl, hb2⟩
          have HB2 := Lib.hid (bth HB1.out hb2)
          have P2 := Lib.hid (P1.out.below hb2 hlt1)
          have hlt2 : w.heap.size < w2.heap.size := Nat.lt_of_lt_of_le hlt1 hb2.size
          clear hb2 HC2 d0 d1 d2
          obtain ⟨d0, d1, d2⟩ := P2.out.cells
          go_wp2_with fail
          refine (HC3.out w2 (H3.out.below HB2.out) (HM.out.below HB2.out)).mono ?_
          rintro e w3 ⟨rfl, hb3⟩
          have HB3 := Lib.hid (bth HB2.out hb3)
          have P3 := Lib.hid (P2.out.below hb3 hlt2)
          have hlt3 : w.heap.size < w3.heap.size := Nat.lt_of_lt_of_le hlt2 hb3.size
          clear hb3 HC3 d0 d1 d2
          obtain ⟨d0, d1, d2⟩ := P3.out.cells
          have HC4 := Lib.hid (bodiesOf_any s.staged (.slice a2 s.staged.length cs) w3 (H2.out.below HB3.out) HX2.out (by omega))
          have e0 : s.staged.foldl putF [] = s.staged := by
            have := fill_is HR2.out s.staged.length
            rwa [List.take_of_length_le (Nat.le_refl _)] at this
          rw [e0] at HC4
          clear e0
          go_wp2_with fail
          refine HC4.out.mono ?_
          rintro e w4 ⟨rfl, hm4, hb4⟩
          have HB4 := Lib.hid (bth HB3.out hb4)
          have P4 := Lib.hid (P3.out.below hb4 hlt3)
          have hlt4 : w.heap.size < w4.heap.size := Nat.lt_of_lt_of_le hlt3 hb4.size
          have HM4 := Lib.hid hm4
          clear hm4 hb4 HC4 d0 d1 d2
          obtain ⟨d0, d1, d2⟩ := P4.out.cells
          generalize w3.heap.size = bm at HM4
          go_wp2_with fail
          go_loop [36] (fun i => ∃ k : Nat, k ≤ s.gone.length ∧ i = .int .i64 k ∧ Hid ((s.gone.take k).all (fun n => !hasF s.staged n) = true)) (fun i => s.gone.length - (intOf i).toNat)
          case atStart => exact ⟨0, Nat.zero_le _, rfl, by simp [Hid]⟩
          case round =>
            obtain ⟨k, hk, rfl, HO⟩ := hrel
            by_cases hlt : k < s.gone.length
            · obtain ⟨g, o, rfl, hg, hcell1⟩ := hat3 k hlt
              have hc1' : w4.cell? ⟨g, o + k, none⟩ = some (.string ⟨(s.gone[k]).toArray⟩) := by rw [HB4.out.cell (p := ⟨g, o + k, none⟩) hg]; exact hcell1
              have HXL := Lib.hid (HX3.out s.gone[k] (List.getElem_mem hlt))
              rcases eh : hasF s.staged s.gone[k] with _ | _
              · have HO2 : Hid ((s.gone.take (k + 1)).all (fun n => !hasF s.staged n) = true) := by
                  show _ = _
                  rw [List.take_succ_eq_append_getElem hlt, List.all_append, HO.out]; simp [eh]
                have HEH := Lib.hid eh
                clear hcell1 hat3 HO eh HT
                generalize s.gone[k] = x at hc1' HXL HEH
                go_wp2_with (at_lookup; refine wpLookF _ rfl _ _ rfl bm s.staged.length s.staged rfl HM4.out x rfl HXL.out ?_; rw [HEH.out])
                go_round
                case rel => exact ⟨k + 1, by omega, by go_num, HO2⟩
                case measure => simp [intOf]; omega
              · have HF2 : Hid (goodS s = false) := by
                  show _ = _
                  have : s.gone.all (fun n => !hasF s.staged n) = false := by
                    rw [List.all_eq_false]
                    exact ⟨s.gone[k], List.getElem_mem hlt, by simp [eh]⟩
                  rw [HT.out, this]; rfl
                have HEH := Lib.hid eh
                clear hcell1 hat3 HO eh HT
                generalize s.gone[k] = x at hc1' HXL HEH
                go_wp2_with (at_lookup; refine wpLookF _ rfl _ _ rfl bm s.staged.length s.staged rfl HM4.out x rfl HXL.out ?_; rw [HEH.out])
                go_ret
                exact ⟨ret_bool HF2.out.symm, HB4.out⟩
            · have HT2 : Hid (goodS s = goodF (takenF s)) := by
                have := HO.out
                rw [List.take_of_length_le (by omega)] at this
                show _ = _
                rw [HT.out, this]; rfl
              clear HO HT hat3
              have HC5 := Lib.hid (bodiesTaken_any s (.agg #[.slice af s.files.length cf, .slice a2 s.staged.length cs, .slice ag s.gone.length cg]) w4 (HST.out.below HB4.out) HFX.out HR1.out (by omega) (by omega))
              go_wp2_with fail
              refine HC5.out.mono ?_
              rintro e w5 ⟨b5, n5, rfl, _, _, hm5, hb5⟩
              have HB5 := Lib.hid (bth HB4.out hb5)
              have HC6 := Lib.hid (filesIn_any (takenF s) b5 n5 w5 hm5 (by have := taken_len s; omega))
              clear hm5 hb5 HC5
              go_wp2_with fail
              refine HC6.out.mono ?_
              rintro e w6 ⟨v6, rfl, hown6, hb6⟩
              have HB6 := Lib.hid (bth HB5.out hb6)
              have HC7 := Lib.hid (implGoodFiles_any (takenF s) v6 w6 (RowF.of_own hown6) (taken_fits HFX.out) (HM.out.below HB6.out))
              clear hown6 hb6 HC6
              go_wp2_with fail
              refine HC7.out.mono ?_
              rintro e w7 ⟨rfl, hb7⟩
              have HB7 := Lib.hid (bth HB6.out hb7)
              clear hb7 HC7
              go_wp2_with fail
              go_ret
              exact ⟨ret_bool HT2.out.symm, HB7.out⟩

end Go.Proofs.YtgcaplbeahjbmaaGreatDoor

/- Walks: files read, now and as they would be (the reference). -/
namespace Go.Proofs.YtgcaplbeahjbmaaGreatDoor
open Go.RowKit Pth

/-- A text and a bool are handed back. -/
def TextOk (t : List UInt8) (ok : Bool) (w : World) (e : Ending) (w' : World) : Prop := e = .returned (.tuple #[.string ⟨t.toArray⟩, .bool ok]) ∧ Below w.heap.size w w'
def bodyAt (l : List FileT) (k : Int) : List UInt8 := match l[k.toNat]? with | some f => f.2 | none => []
def readOk (s : StoreT) (n : List UInt8) : Bool := goodS s && decide (0 ≤ findF s.files n)
def readT (s : StoreT) (n : List UInt8) : List UInt8 := if readOk s n = true then bodyAt s.files (findF s.files n) else []
def seenOk (s : StoreT) (n : List UInt8) : Bool := goodS s && decide (0 ≤ findF (takenF s) n)
def seenT (s : StoreT) (n : List UInt8) : List UInt8 := if seenOk s n = true then bodyAt (takenF s) (findF (takenF s) n) else []
theorem body_at {l : List FileT} {k : Nat} (hk : k < l.length) : bodyAt l (k : Int) = l[k].2 := by
  have e : ((k : Int)).toNat = k := by omega
  rw [bodyAt, e, List.getElem?_eq_getElem hk]

theorem good_sizes {s : StoreT} (h : goodS s = true) : s.files.length ≤ 12 ∧ s.staged.length ≤ 12 ∧ s.gone.length ≤ 12 := by
  simp only [goodS, Bool.and_eq_true, decide_eq_true_iff] at h
  exact ⟨good_len h.1, good_len h.2.1, h.2.2.1⟩

end Go.Proofs.YtgcaplbeahjbmaaGreatDoor

/- Walks: the program's files read, now and as they would be. -/
namespace Go.Proofs.YtgcaplbeahjbmaaGreatDoor
open Go.RowKit Go.Maps Pth

theorem has_find (l : List FileT) (n : List UInt8) : decide (0 ≤ findF l n) = hasF l n := by
  rcases h : hasF l n with _ | _
  · rw [(find_has l n).2 h]; rfl
  · have h1 := (find_range l n).1
    have h2 : ¬ findF l n = -1 := fun e => by rw [(find_has l n).1 e] at h; cases h
    exact decide_eq_true (by omega)
theorem bodyF_no {l : List FileT} {n : List UInt8} (h : hasF l n = false) : bodyF l n = [] := by
  rw [hasF, List.any_eq_false] at h
  rw [bodyF, List.find?_eq_none.2 (fun f hf => h f hf)]
theorem bodyF_at {l : List FileT} {n : List UInt8} (h : hasF l n = true) : bodyAt l (findF l n) = bodyF l n := by
  induction l with
  | nil => cases h
  | cons f t ih =>
    by_cases e : f.1 = n
    · have e1 : findF (f :: t) n = 0 := by rw [findF, if_pos e]
      rw [e1, bodyF, List.find?_cons_of_pos (by simpa using e)]; rfl
    · have ht : hasF t n = true := by
        rw [hasF, List.any_cons] at h
        have e' : (f.1 == n) = false := by simpa using e
        rw [e', Bool.false_or] at h
        exact h
      have h2 : ¬ findF t n = -1 := fun e => by rw [(find_has t n).1 e] at ht; cases ht
      have h3 := (find_range t n).1
      have e1 : findF (f :: t) n = findF t n + 1 := by rw [findF, if_neg e, if_neg h2]
      have e2 : (findF t n + 1).toNat = (findF t n).toNat + 1 := by omega
      have e3 : bodyF (f :: t) n = bodyF t n := by rw [bodyF, List.find?_cons_of_neg (by simpa using e)]; rfl
      rw [e1, e3, ← ih ht, bodyAt, e2, List.getElem?_cons_succ]; rfl
theorem body_of (l : List FileT) (n : List UInt8) : (if hasF l n = true then bodyAt l (findF l n) else []) = bodyF l n := by
  rcases h : hasF l n with _ | _
  · rw [bodyF_no h]; rfl
  · rw [if_pos rfl, bodyF_at h]
theorem read_good {s : StoreT} {n : List UInt8} (h : goodS s = true) : readOk s n = hasF s.files n ∧ readT s n = bodyF s.files n := by
  have e : readOk s n = hasF s.files n := by rw [readOk, h, has_find]; rfl
  exact ⟨e, by rw [readT, e, body_of]⟩
theorem read_bad {s : StoreT} {n : List UInt8} (h : goodS s = false) : readOk s n = false ∧ readT s n = [] := by
  have e : readOk s n = false := by rw [readOk, h]; rfl
  exact ⟨e, by rw [readT, e]; rfl⟩
theorem seen_good {s : StoreT} {n : List UInt8} (h : goodS s = true) : seenOk s n = hasF (takenF s) n ∧ seenT s n = bodyF (takenF s) n := by
  have e : seenOk s n = hasF (takenF s) n := by rw [seenOk, h, has_find]; rfl
  exact ⟨e, by rw [seenT, e, body_of]⟩
theorem seen_bad {s : StoreT} {n : List UInt8} (h : goodS s = false) : seenOk s n = false ∧ seenT s n = [] := by
  have e : seenOk s n = false := by rw [seenOk, h]; rfl
  exact ⟨e, by rw [seenT, e]; rfl⟩
theorem good_bodies {l : List FileT} (h : goodF l = true) : ∀ f ∈ l, f.2.length ≤ 40 := by
  rw [goodF_parts, Bool.and_eq_true, Bool.and_eq_true] at h
  intro f hf
  have := List.all_eq_true.1 h.2.1 f hf
  simpa using this
theorem goodS_files {s : StoreT} (h : goodS s = true) : goodF s.files = true ∧ goodF s.staged = true ∧ goodF (takenF s) = true := by
  rw [goodS] at h
  simp only [Bool.and_eq_true] at h
  exact ⟨h.1, h.2.1, h.2.2.2.2⟩
theorem goodStore_m {b : Bool} {s : StoreT} (hx : Fits s) (h : goodS s = b) : ∀ v w, StoreV w v s → MaxAt w → Calls Tryz.prog 22 #[v] w (BoolPost b w) := fun v w hr hm => by
  have := implGoodStore_any s v w hr hx hm
  rwa [h] at this

end Go.Proofs.YtgcaplbeahjbmaaGreatDoor

/- Walks: whether stores are the same, as the laws ask it. -/
namespace Go.Proofs.YtgcaplbeahjbmaaGreatDoor
open Go.RowKit Pth

theorem store_ext {s t : StoreT} (h1 : s.files = t.files) (h2 : s.staged = t.staged) (h3 : s.gone = t.gone) : s = t := by
  cases s; cases t; simp only at h1 h2 h3; rw [h1, h2, h3]

def sameS (s t : StoreT) : Bool := decide (s.files = t.files) && (decide (s.staged = t.staged) && decide (s.gone = t.gone))
theorem sameS_iff {s t : StoreT} : sameS s t = true ↔ s = t := by
  simp only [sameS, Bool.and_eq_true, decide_eq_true_iff]
  exact ⟨fun h => store_ext h.1 h.2.1 h.2.2, fun h => by rw [h]; exact ⟨rfl, rfl, rfl⟩⟩
theorem eqFileS_b {l m : List FileT} {v u : Value} {w : World} {b : Bool} (h1 : RowF w v l) (h2 : RowF w u m) (hl : l.length ≤ 2000000) (h : decide (l = m) = b) :
    Calls Tryz.prog 26 #[v, u] w fun e w' => e = .returned (.bool b) ∧ Below w.heap.size w w' := by
  have := eqFileS_any l m v u w h1 h2 hl
  rw [h] at this
  exact this
theorem eqStringS_b {l m : List (List UInt8)} {v u : Value} {w : World} {b : Bool} (h1 : RowV w v (S l)) (h2 : RowV w u (S m)) (hl : l.length ≤ 2000000) (h : decide (l = m) = b) :
    Calls Tryz.prog 27 #[v, u] w fun e w' => e = .returned (.bool b) ∧ Below w.heap.size w w' := by
  have := eqStringS_any l m v u w h1 h2 hl
  rw [h] at this
  exact this
set_option maxRecDepth 20000 in
set_option maxHeartbeats 4000000 in
theorem eqStore_any (s t : StoreT) (v u : Value) (w : World) (hst : StoreV w v s) (hst2 : StoreV w u t) (hl1 : s.files.length ≤ 2000000) (hl2 : s.staged.length ≤ 2000000) (hl3 : s.gone.length ≤ 2000000) :
    Calls Tryz.prog 9 #[v, u] w fun e w' => e = .returned (.bool (sameS s t)) ∧ Below w.heap.size w w' := by
  obtain ⟨vf, vs, vg, rfl, h1, h2, h3⟩ := hst
  obtain ⟨uf, us, ug, rfl, h4, h5, h6⟩ := hst2
  have H1 := Lib.hid h1
  have H2 := Lib.hid h2
  have H3 := Lib.hid h3
  have H4 := Lib.hid h4
  have H5 := Lib.hid h5
  have H6 := Lib.hid h6
  obtain ⟨af, cf, rfl, _⟩ := h1.files
  obtain ⟨a2, cs, rfl, _⟩ := h2.files
  obtain ⟨ag, cg, rfl, _⟩ := h3.texts
  obtain ⟨bf, df, rfl, _⟩ := h4.files
  obtain ⟨b2, ds, rfl, _⟩ := h5.files
  obtain ⟨bg, dg, rfl, _⟩ := h6.texts
  clear h1 h2 h3 h4 h5 h6
  obtain ⟨wa, hwa⟩ : ∃ wa, wa = (w.alloc (.cells #[.slice af s.files.length cf, .slice a2 s.staged.length cs, .slice ag s.gone.length cg] 29)).alloc (.cells #[.slice bf t.files.length df, .slice b2 t.staged.length ds, .slice bg t.gone.length dg] 29) := ⟨_, rfl⟩
  have hsz : wa.heap.size = w.heap.size + 2 := by rw [hwa]; simp
  have P0 : Hid (Blk3 wa w.heap.size 29 (.slice af s.files.length cf) (.slice a2 s.staged.length cs) (.slice ag s.gone.length cg)) := by rw [hwa]; exact Blk3.new.old _
  have O0 : Hid (Blk3 wa (w.heap.size + 1) 29 (.slice bf t.files.length df) (.slice b2 t.staged.length ds) (.slice bg t.gone.length dg)) := by
    rw [hwa]
    have := Blk3.new (w := w.alloc (.cells #[.slice af s.files.length cf, .slice a2 s.staged.length cs, .slice ag s.gone.length cg] 29)) (t := 29) (x := .slice bf t.files.length df) (y := .slice b2 t.staged.length ds) (z := .slice bg t.gone.length dg)
    simpa [Hid] using this
  have HA : Hid (Below w.heap.size w wa) := by rw [hwa]; exact ((Below.refl w.heap.size w).alloc (Nat.le_refl _) _).alloc (by simp) _
  have HWA := Lib.hid hwa
  clear hwa
  rcases e1 : decide (s.files = t.files) with _ | _
  · have HT : Hid (sameS s t = false) := by rw [sameS, e1]; rfl
    have C1 := Lib.hid (eqFileS_b (H1.out.below HA.out) (H4.out.below HA.out) hl1 e1)
    rw [HT.out]
    clear e1 HT
    go_enter Tryz.func9, Tryz.ntmps9
    go_wp2_with fail
    rw [← HWA.out]
    refine C1.out.mono ?_
    rintro e w1 ⟨rfl, hb1⟩
    have HB1 := Lib.hid hb1
    clear hb1
    go_wp2_with fail
    go_ret
    exact ⟨rfl, HA.out.trans (HB1.out.mono HA.out.size)⟩
  · have C1 := Lib.hid (eqFileS_b (H1.out.below HA.out) (H4.out.below HA.out) hl1 e1)
    rcases e2 : decide (s.staged = t.staged) with _ | _
    · have HT : Hid (sameS s t = false) := by rw [sameS, e2]; simp [Hid]
      have C2 := Lib.hid (fun W (h1 : RowF W (.slice a2 s.staged.length cs) s.staged) (h2 : RowF W (.slice b2 t.staged.length ds) t.staged) => eqFileS_b h1 h2 hl2 e2)
      rw [HT.out]
      clear e1 e2 HT
      go_enter Tryz.func9, Tryz.ntmps9
      go_wp2_with fail
      rw [← HWA.out]
      refine C1.out.mono ?_
      rintro e w1 ⟨rfl, hb1⟩
      have HB1 := Lib.hid hb1
      clear hb1
      have P1 := (P0.out.below HB1.out (by omega)).cells
      have O1 := (O0.out.below HB1.out (by omega)).cells
      have p11 := P1.2.1
      have o11 := O1.2.1
      clear P1 O1
      go_wp2_with fail
      refine (C2.out w1 (H2.out.below (HA.out.trans (HB1.out.mono HA.out.size))) (H5.out.below (HA.out.trans (HB1.out.mono HA.out.size)))).mono ?_
      rintro e w2 ⟨rfl, hb2⟩
      have HB2 := Lib.hid (HB1.out.trans (hb2.mono HB1.out.size))
      clear hb2
      go_wp2_with fail
      go_ret
      exact ⟨rfl, HA.out.trans (HB2.out.mono HA.out.size)⟩
    · have C2 := Lib.hid (fun W (h1 : RowF W (.slice a2 s.staged.length cs) s.staged) (h2 : RowF W (.slice b2 t.staged.length ds) t.staged) => eqFileS_b h1 h2 hl2 e2)
      have HT : Hid (sameS s t = decide (s.gone = t.gone)) := by rw [sameS, e1, e2]; rfl
      rw [HT.out]
      rcases e3 : decide (s.gone = t.gone) with _ | _
      · have C3 := Lib.hid (fun W (h1 : RowV W (.slice ag s.gone.length cg) (S s.gone)) (h2 : RowV W (.slice bg t.gone.length dg) (S t.gone)) => eqStringS_b h1 h2 hl3 e3)
        clear e1 e2 e3 HT
        go_enter Tryz.func9, Tryz.ntmps9
        go_wp2_with fail
        rw [← HWA.out]
        refine C1.out.mono ?_
        rintro e w1 ⟨rfl, hb1⟩
        have HB1 := Lib.hid hb1
        clear hb1
        have P1 := (P0.out.below HB1.out (by omega)).cells
        have O1 := (O0.out.below HB1.out (by omega)).cells
        have p11 := P1.2.1
        have o11 := O1.2.1
        clear P1 O1
        go_wp2_with fail
        refine (C2.out w1 (H2.out.below (HA.out.trans (HB1.out.mono HA.out.size))) (H5.out.below (HA.out.trans (HB1.out.mono HA.out.size)))).mono ?_
        rintro e w2 ⟨rfl, hb2⟩
        have HB2 := Lib.hid (HB1.out.trans (hb2.mono HB1.out.size))
        clear hb2 p11 o11
        have P2 := (P0.out.below HB2.out (by omega)).cells
        have O2 := (O0.out.below HB2.out (by omega)).cells
        have p22 := P2.2.2
        have o22 := O2.2.2
        clear P2 O2
        go_wp2_with fail
        refine (C3.out w2 (H3.out.below (HA.out.trans (HB2.out.mono HA.out.size))) (H6.out.below (HA.out.trans (HB2.out.mono HA.out.size)))).mono ?_
        rintro e w3 ⟨rfl, hb3⟩
        have HB3 := Lib.hid (HB2.out.trans (hb3.mono HB2.out.size))
        clear hb3
        go_wp2_with fail
        go_ret
        exact ⟨rfl, HA.out.trans (HB3.out.mono HA.out.size)⟩
      · have C3 := Lib.hid (fun W (h1 : RowV W (.slice ag s.gone.length cg) (S s.gone)) (h2 : RowV W (.slice bg t.gone.length dg) (S t.gone)) => eqStringS_b h1 h2 hl3 e3)
        clear e1 e2 e3 HT
        go_enter Tryz.func9, Tryz.ntmps9
        go_wp2_with fail
        rw [← HWA.out]
        refine C1.out.mono ?_
        rintro e w1 ⟨rfl, hb1⟩
        have HB1 := Lib.hid hb1
        clear hb1
        have P1 := (P0.out.below HB1.out (by omega)).cells
        have O1 := (O0.out.below HB1.out (by omega)).cells
        have p11 := P1.2.1
        have o11 := O1.2.1
        clear P1 O1
        go_wp2_with fail
        refine (C2.out w1 (H2.out.below (HA.out.trans (HB1.out.mono HA.out.size))) (H5.out.below (HA.out.trans (HB1.out.mono HA.out.size)))).mono ?_
        rintro e w2 ⟨rfl, hb2⟩
        have HB2 := Lib.hid (HB1.out.trans (hb2.mono HB1.out.size))
        clear hb2 p11 o11
        have P2 := (P0.out.below HB2.out (by omega)).cells
        have O2 := (O0.out.below HB2.out (by omega)).cells
        have p22 := P2.2.2
        have o22 := O2.2.2
        clear P2 O2
        go_wp2_with fail
        refine (C3.out w2 (H3.out.below (HA.out.trans (HB2.out.mono HA.out.size))) (H6.out.below (HA.out.trans (HB2.out.mono HA.out.size)))).mono ?_
        rintro e w3 ⟨rfl, hb3⟩
        have HB3 := Lib.hid (HB2.out.trans (hb3.mono HB2.out.size))
        clear hb3
        go_wp2_with fail
        go_ret
        exact ⟨rfl, HA.out.trans (HB3.out.mono HA.out.size)⟩

end Go.Proofs.YtgcaplbeahjbmaaGreatDoor

/- Walks: the law that good stores are told alike. -/
namespace Go.Proofs.YtgcaplbeahjbmaaGreatDoor
open Go.RowKit Pth

theorem sameS_self (s : StoreT) : sameS s s = true := by simp [sameS]
/-- A store of the call's own, its three lists as slices. -/
theorem StoreO.slices {B : Nat} {w : World} {v : Value} {s : StoreT} (h : StoreO B w v s) : ∃ a c b d e f, v = .agg #[.slice a s.files.length c, .slice b s.staged.length d, .slice e s.gone.length f] := by
  obtain ⟨vf, vs, vg, rfl, h1, h2, h3, _⟩ := h
  obtain ⟨a, c, rfl⟩ := own_sliceG h1
  obtain ⟨b, d, rfl⟩ := own_sliceG h2
  obtain ⟨e, f, rfl⟩ := own_sliceG h3
  exact ⟨a, c, b, d, e, f, rfl⟩
theorem SizedS.small {s : StoreT} {n : Nat} (h : SizedS s n) (hn : n ≤ 2000000) : s.files.length ≤ 2000000 ∧ s.staged.length ≤ 2000000 ∧ s.gone.length ≤ 2000000 := by
  have := h.1
  exact ⟨by omega, by omega, by omega⟩

end Go.Proofs.YtgcaplbeahjbmaaGreatDoor

/- What is put behind an empty literal: new memory, if it is something. -/
namespace Go.Proofs.YtgcaplbeahjbmaaGreatDoor
open Go.RowKit Pth

/-- What an append to the empty literal at block g leaves. -/
def LitTold (e size : Nat) (w : World) (g m : Nat) (ys : List Value) (v' : Value) (w' : World) : Prop :=
  (m = 0 ∧ v' = .slice (some ⟨g, 0, none⟩) 0 0 ∧ w' = w) ∨ (0 < m ∧ w'.ownsRow w.heap.size e size v' m ys)

theorem run_app_lit {t e : TypeId} {z : Value} {size bytes : Nat} (E : ElemG t e z size bytes) (w : World) (g : Nat) (ty : TypeId) (m : Nat) (ys : List Value) (A : Option Addr) (c : Nat) (hrow : RowG size w (.slice A m c) m ys) (hlen : m ≤ 1000000) :
    ∃ v' w', (Builtin.append_ #[t, t] ty #[.slice (some ⟨g, 0, none⟩) 0 0, .slice A m c]).run Tryz.prog w = .ok v' w' ∧ Below w.heap.size w w' ∧ LitTold e size w g m ys v' w' := by
  obtain ⟨i0, hi, hz0, hz1, hz2⟩ := info_parts E.info
  obtain ⟨A', c', hv, h0, h1, h2, hat⟩ := hrow
  injection hv with hA _ _
  subst hA
  rcases m with _ | m
  · refine ⟨_, w, ?_, Below.refl _ _, .inl ⟨rfl, rfl, rfl⟩⟩
    rcases A with _ | ad
    · simp [Builtin.append_, run_underlying E.under, sizeOf, typeInfo, hi, Builtin.lenOf, Builtin.firstCells, storeCells]
    · simp [Builtin.append_, run_underlying E.under, sizeOf, typeInfo, hi, Builtin.lenOf, Builtin.firstCells, storeCells, loadCells, loadCellsFrom]
  · have hpos : 0 < ys.length := by
      have := E.pos
      rw [h0, Nat.add_mul]
      omega
    obtain ⟨g2, o2, rfl, _, _⟩ := hat 0 hpos
    have hnews : ∀ j u, ys[j]? = some u → w.cell? ((⟨g2, o2, none⟩ : Addr).add j) = some u := by
      intro j u hu
      obtain ⟨hj, hu⟩ := List.getElem?_eq_some_iff.1 hu
      obtain ⟨g', o', he, _, hc⟩ := hat j hj
      obtain ⟨rfl, rfl⟩ := addr_inj he
      rw [add_addr, hc, hu]
    subst hz1
    subst hz2
    have hr := run_append_grow (P := Tryz.prog) w t ty e i0 z E.under hi hz0 ⟨g, 0, none⟩ 0 0 [] (by simp) (by simp) ⟨g2, o2, none⟩ (m + 1) c ys h0 hnews (by omega) (by omega) (growslice_fits (by omega) (by have := Nat.mul_le_mul hlen E.small; rw [Nat.zero_add]; omega))
    rw [Nat.zero_add] at hr
    have hge := grownCap_ge w (m + 1) 0 e
    refine ⟨_, _, hr, ?_, .inr ⟨by omega, ⟨h0, .inr ⟨w.heap.size, _, _, rfl, Nat.le_refl _, heap_alloc_new w.drew _, ?_, ?_, ?_, ?_⟩⟩⟩⟩
    · exact (Below.drew (Below.refl _ w)).alloc (by simp) _
    · exact hge
    · exact grownCap_le_maxLen w _ _ e (by unfold maxLen; omega)
    · rw [Array.size_append, Array.size_append, size_zeroCells, E.cells, List.size_toArray, List.size_toArray, h0, List.length_nil, Nat.zero_add, ← Nat.add_mul, Nat.add_sub_cancel' hge]
    · rw [← h0]
      simp

theorem step_lit {t e : TypeId} {z : Value} {size bytes : Nat} (E : ElemG t e z size bytes) {ops : Array Oper} {o : Oper} {a : Act} {K : Act → World → Prop} {Q : Exit → Act → World → Prop} {F : Prop} {w : World} (hgd : o.guard = none) (s x : Operand)
    (ho : o.op = .call { callee := .builtin .append, args := #[s, x], argTypes := #[t, t] }) (g m : Nat) (ys : List Value) (u : Value) (hs : a.eval s = .slice (some ⟨g, 0, none⟩) 0 0) (hx : a.eval x = u) (hrow : RowG size w u m ys) (hlen : m ≤ 1000000)
    (h : ∀ v' w', Below w.heap.size w w' → LitTold e size w g m ys v' w' → K (a.put o.dst v') w') :
    if Region.wanted o (yielded ops a.tmps) = true then Oper.wp Tryz.prog o a w K Q else F := by
  have hw : Region.wanted o (yielded ops a.tmps) = true := by simp [Region.wanted, hgd]
  rw [if_pos hw]
  obtain ⟨A, c, hu, _⟩ := id hrow
  subst hu
  obtain ⟨v', w', hrun, h2, h3⟩ := run_app_lit E w g o.type m ys A c hrow hlen
  unfold Oper.wp execOp
  simp only [ho, resolve, invoke, builtin, Sem.run_bind, Sem.run_pure, Result.andThen_ok, List.map_toArray, List.map_cons, List.map_nil, hs, hx, hrun]
  exact h v' w' h2 h3

end Go.Proofs.YtgcaplbeahjbmaaGreatDoor

/- Walks: the program's own copies of files. -/
namespace Go.Proofs.YtgcaplbeahjbmaaGreatDoor
open Go.RowKit Go.Maps Pth

/-- One element put behind a list of the call's own, in a region that draws its order. -/
theorem step_appOneG {t e : TypeId} {z : Value} {size bytes : Nat} (E : ElemG t e z size bytes) {ops : Array Oper} {o : Oper} {a : Act} {K : Act → World → Prop} {Q : Exit → Act → World → Prop} {F : Prop} {w : World} {y : Array Value} (hgd : o.guard = none) (s x : Operand)
    (ho : o.op = .call { callee := .builtin .append, args := #[s, x], argTypes := #[t, t] }) (B : Nat) (v : Value) (n : Nat) (xs : List Value) (hs : a.eval s = v) (hown : w.ownsRow B e size v n xs) (N : Nat) (hx : a.eval x = .slice (some ⟨N, 0, none⟩) 1 1) (hN : N = w.heap.size)
    (hy : y.toList.length = size) (hone : ∀ u ∈ y.toList, u.oneCell' = true) (hlen : n + 1 ≤ 1000000) (hB : B ≤ w.heap.size)
    (h : ∀ v' w', w'.ownsRow B e size v' (n + 1) (xs ++ y.toList) → w.grownBy w' v.ownBlock → K (a.put o.dst v') w') :
    if Region.wanted o (yielded ops a.tmps) = true then Oper.wp Tryz.prog o a (w.alloc (.cells y e)) K Q else F := by
  subst hN
  have hw : Region.wanted o (yielded ops a.tmps) = true := by simp [Region.wanted, hgd]
  rw [if_pos hw]
  have hrow : RowG size (w.alloc (.cells y e)) (.slice (some ⟨w.heap.size, 0, none⟩) 1 1) 1 y.toList := by
    refine ⟨_, _, rfl, by rw [hy]; omega, Nat.le_refl _, by unfold maxLen; omega, fun k hk => ⟨_, _, rfl, by simp, ?_⟩⟩
    simp
  obtain ⟨v', w', hrun, h2, h3⟩ := run_app_rowG E (w.alloc (.cells y e)) B o.type v n 1 xs y.toList _ 1 (hown.alloc _) hrow hone hlen (by simp; omega)
  unfold Oper.wp execOp
  simp only [ho, resolve, invoke, builtin, Sem.run_bind, Sem.run_pure, Result.andThen_ok, List.map_toArray, List.map_cons, List.map_nil, hs, hx, hrun]
  have hg : w.grownBy w' v.ownBlock := ⟨h3.os, h3.tape, h3.output, Nat.le_trans (by simp) h3.size, fun k hk hne => (h3.block k (by simp; omega) hne).trans (Below.heap_alloc _ _ _ hk)⟩
  exact h v' w' h2 hg

theorem cell_old {w : World} {p : Addr} {v : Value} (h : w.cell? p = some v) (o : Obj) : (w.alloc o).cell? p = some v := by
  rw [World.cell?_alloc_lt _ _ _ (World.block_lt_of_cell? _ _ h)]; exact h

set_option maxRecDepth 20000 in
set_option maxHeartbeats 4000000 in
theorem ownFiles_any (l : List FileT) (v : Value) (w : World) (hrow : RowF w v l) (hx : ∀ f ∈ l, f.1.length ≤ 1000 ∧ f.2.length ≤ 1000) (hl : l.length ≤ 1000) :
    Calls Tryz.prog 45 #[v] w (FilesPost l w) := by
  obtain ⟨a, cap, rfl, hc1, hc2, hat⟩ := hrow.files
  clear hrow
  unfold maxLen at hc2
  go_enter Tryz.func45, Tryz.ntmps45
  go_wp2_with fail
  go_loopw [8, 3] (fun i v wr => ∃ k : Nat, k ≤ l.length ∧ i = .int .i64 k ∧ Hid (wr.ownsRow w.heap.size 44 2 v (l.take k).length (FC (l.take k))) ∧ Hid (Below w.heap.size w wr)) (fun i _ _ => l.length - (intOf i).toNat)
  case atStart => exact ⟨0, Nat.zero_le _, rfl, ⟨rfl, .inl ⟨rfl, rfl⟩⟩, Below.refl _ _⟩
  case round =>
    obtain ⟨k, hk, rfl, HN, HB⟩ := hrel
    have hbs := HB.out.size
    by_cases hlt : k < l.length
    · obtain ⟨g, o, rfl, hg, hcell1, hcell2⟩ := hat k hlt
      have hc1' : wr.cell? ⟨g, o + k * 2, none⟩ = some (.string ⟨(l[k]).1.toArray⟩) := by rw [HB.out.cell (p := ⟨g, o + k * 2, none⟩) hg]; exact hcell1
      have hc2' : wr.cell? ⟨g, o + k * 2 + 1, none⟩ = some (.string ⟨(l[k]).2.toArray⟩) := by rw [HB.out.cell (p := ⟨g, o + k * 2 + 1, none⟩) hg]; exact hcell2
      have HXL := Lib.hid (hx l[k] (List.getElem_mem hlt))
      have HT : Hid (l.take k ++ [(l[k].1, l[k].2)] = l.take (k + 1)) := (List.take_succ_eq_append_getElem hlt).symm
      have hln : (l.take k).length = k := by rw [List.length_take]; omega
      generalize l.take k = acc at HN HT hln
      clear hcell1 hcell2 hat hx
      generalize l[k].1 = x at hc1' HT HXL
      generalize l[k].2 = y at hc2' HT HXL
      have HBA := HB.out.alloc hbs (.cells #[.string ⟨x.toArray⟩, .string ⟨y.toArray⟩] 44)
      have HNA := HN.out.alloc (.cells #[.string ⟨x.toArray⟩, .string ⟨y.toArray⟩] 44)
      go_wp2_with fail
      have ks : (wr.alloc (.cells #[.string ⟨x.toArray⟩, .string ⟨y.toArray⟩] 44)).cell? ⟨wr.heap.size, 0, none⟩ = some (.string ⟨x.toArray⟩) ∧ (wr.alloc (.cells #[.string ⟨x.toArray⟩, .string ⟨y.toArray⟩] 44)).cell? ⟨wr.heap.size, 1, none⟩ = some (.string ⟨y.toArray⟩) := by constructor <;> simp
      generalize wr.alloc (.cells #[.string ⟨x.toArray⟩, .string ⟨y.toArray⟩] 44) = wa at ks HBA HNA ⊢
      have hne : some wr.heap.size ≠ u3.ownBlock := fun e => by have := (HN.out.lt _ e.symm).2; omega
      have HBc : Hid (Below w.heap.size w wa.drew) := Below.drew HBA
      have HNc : Hid (wa.drew.ownsRow w.heap.size 44 2 u3 acc.length (FC acc)) := HNA
      clear HBA HNA HB HN
      go_region_held3 (fun w' => w'.cell? ⟨wr.heap.size, 0, none⟩ = some (.string ⟨x.toArray⟩) ∧ w'.cell? ⟨wr.heap.size, 1, none⟩ = some (.string ⟨y.toArray⟩)) (first | exact ks | exact ⟨cell_old ks.1 _, cell_old ks.2 _⟩)
        (first
          | (go_at_call 56; refine (clone_any _ _ (by first | exact HXL.out.1 | exact HXL.out.2)).mono ?_; rintro e wc ⟨rfl, hbc⟩
             have ks := And.intro ((hbc.cell (p := ⟨wr.heap.size, 0, none⟩) (World.block_lt_of_cell? _ _ ks.1)).trans ks.1) ((hbc.cell (p := ⟨wr.heap.size, 1, none⟩) (World.block_lt_of_cell? _ _ ks.2)).trans ks.2)
             have HNc := Lib.hid (own_belowG HNc.out hbc)
             have HBc := Lib.hid (HBc.out.trans (hbc.mono HBc.out.size))
             clear hbc)
          | (refine step_appOneG elemF rfl _ _ rfl w.heap.size _ acc.length (FC acc) rfl HNc.out _ rfl rfl rfl (by intro u hu; simp at hu; rcases hu with rfl | rfl <;> rfl) (by omega) HBc.out.size ?_
             intro v2 w2 hown2 hg2
             have hgb := hg2.block wr.heap.size (World.block_lt_of_cell? _ _ ks.1) hne
             have ks := And.intro ((World.cell?_of_block (a := ⟨wr.heap.size, 0, none⟩) hgb).trans ks.1) ((World.cell?_of_block (a := ⟨wr.heap.size, 1, none⟩) hgb).trans ks.2)
             have HN2 := Lib.hid (file_snoc hown2)
             have HB2 := Lib.hid (HBc.out.trans (below_ownG HNc.out hg2 HBc.out.size))
             clear hown2 hg2))
      all_goals
        rw [HT.out] at HN2
        go_wp2_with fail
        go_roundw
        case rel => exact ⟨k + 1, by omega, by go_num, HN2, HB2⟩
        case measure => simp [intOf]; omega
    · have HN1 : Hid (wr.ownsRow w.heap.size 44 2 u3 l.length (FC l)) := by
        have := HN.out
        rw [List.take_of_length_le (by omega)] at this
        exact this
      clear HN hat hx
      go_wp2_with fail
      go_ret
      exact ⟨_, rfl, HN1.out, HB.out⟩

end Go.Proofs.YtgcaplbeahjbmaaGreatDoor

/- Walks: how many names are unlike in two maps of the program's. -/
namespace Go.Proofs.YtgcaplbeahjbmaaGreatDoor
open Go.RowKit Go.Maps Pth

/-- A file that is new, or another one. -/
def freshF (l : List FileT) (f : FileT) : Bool := !hasF l f.1 || !(bodyF l f.1 == f.2)
def lostF (l : List FileT) (f : FileT) : Bool := !hasF l f.1
def unlikeN (l1 l2 : List FileT) : Nat := (l2.filter (freshF l1)).length + (l1.filter (lostF l2)).length
theorem filter_snoc (P : FileT → Bool) (a : List FileT) (f : FileT) : ((a ++ [f]).filter P).length = (a.filter P).length + (if P f = true then 1 else 0) := by
  rw [List.filter_append, List.length_append]
  cases h : P f <;> simp [h]
theorem perm_count {a l : List FileT} (h : a.Perm l) (P : FileT → Bool) : (a.filter P).length = (l.filter P).length := (h.filter P).length_eq

end Go.Proofs.YtgcaplbeahjbmaaGreatDoor

/- Walks: what is taken (the reference). -/
namespace Go.Proofs.YtgcaplbeahjbmaaGreatDoor
open Go.RowKit Pth

/-- Whether a staged file makes a change. -/
def newF (l : List FileT) (f : FileT) : Bool := match l[(findF l f.1).toNat]? with | some g => decide (findF l f.1 < 0) || !(decide (g = f)) | none => true
def newN (s : StoreT) (k : Nat) : Nat := ((s.staged.take k).filter (newF s.files)).length
def gonN (s : StoreT) (k : Nat) : Nat := ((s.gone.take k).filter (fun n => decide (0 ≤ findF s.files n))).length
def commitN (s : StoreT) : Nat := if goodS s = true then newN s s.staged.length + gonN s s.gone.length else 0
def commitT (s : StoreT) : StoreT := if goodS s = true then ⟨takenF s, [], []⟩ else noStore
/-- A store, a number and a bool are handed back. -/
def StoreNOk (t : StoreT) (n : Nat) (ok : Bool) (w : World) (e : Ending) (w' : World) : Prop := ∃ v, e = .returned (.tuple #[v, .int .i64 (n : Int), .bool ok]) ∧ StoreO w.heap.size w' v t ∧ Below w.heap.size w w'

theorem noStore_own (B : Nat) (w : World) : StoreO B w (.agg #[.slice none 0 0, .slice none 0 0, .slice none 0 0]) noStore :=
  ⟨_, _, _, rfl, World.ownsRow_nil _ _ _ _, World.ownsRow_nil _ _ _ _, World.ownsRow_nil _ _ _ _, fun k hk => by simp [Value.ownBlock] at hk⟩

theorem newF_neg {l : List FileT} {f : FileT} (h : findF l f.1 < 0) : newF l f = true := by
  unfold newF
  rw [decide_eq_true h]
  cases l[(findF l f.1).toNat]? <;> rfl
theorem newF_hit {l : List FileT} {f : FileT} {j : Nat} (hj : j < l.length) (h : findF l f.1 = j) : newF l f = !(decide (l[j] = f)) := by
  have e : ((j : Int)).toNat = j := by omega
  unfold newF
  rw [h, e, List.getElem?_eq_getElem hj, decide_eq_false (by omega : ¬ (j : Int) < 0)]
  rfl
theorem newN_next {s : StoreT} {k : Nat} (hk : k < s.staged.length) : newN s (k + 1) = newN s k + (if newF s.files s.staged[k] = true then 1 else 0) := by
  unfold newN
  rw [List.take_succ_eq_append_getElem hk, List.filter_append, List.length_append]
  cases h : newF s.files s.staged[k] <;> simp [h]
theorem newN_le (s : StoreT) (k : Nat) : newN s k ≤ k := by
  unfold newN
  have h1 := List.length_filter_le (newF s.files) (s.staged.take k)
  have h2 := List.length_take_le k s.staged
  omega
theorem gonN_next {s : StoreT} {k : Nat} (hk : k < s.gone.length) : gonN s (k + 1) = gonN s k + (if 0 ≤ findF s.files s.gone[k] then 1 else 0) := by
  unfold gonN
  rw [List.take_succ_eq_append_getElem hk, List.filter_append, List.length_append]
  by_cases h : 0 ≤ findF s.files s.gone[k] <;> simp [h]
theorem gonN_le (s : StoreT) (k : Nat) : gonN s k ≤ k := by
  unfold gonN
  have h1 := List.length_filter_le (fun n => decide (0 ≤ findF s.files n)) (s.gone.take k)
  have h2 := List.length_take_le k s.gone
  omega

end Go.Proofs.YtgcaplbeahjbmaaGreatDoor

/- Mathematics of a commit: how many names are unlike. -/
namespace Go.Proofs.YtgcaplbeahjbmaaGreatDoor
open Go.RowKit Go.Maps Pth

theorem hasF_iff {l : List FileT} {n : List UInt8} : hasF l n = true ↔ ∃ f ∈ l, f.1 = n := by
  rw [hasF, List.any_eq_true]
  exact ⟨fun ⟨f, h, e⟩ => ⟨f, h, by simpa using e⟩, fun ⟨f, h, e⟩ => ⟨f, h, by simpa using e⟩⟩
theorem hasF_body {l : List FileT} {n : List UInt8} (h : hasF l n = true) : (n, bodyF l n) ∈ l := by
  obtain ⟨f, hf, e⟩ := hasF_iff.1 h
  rcases hq : l.find? (fun f => f.1 == n) with _ | g
  · have := List.find?_eq_none.1 hq f hf
    simp [e] at this
  · have h1 := List.find?_some hq
    have h2 := List.mem_of_find?_eq_some hq
    have e2 : g = (n, bodyF l n) := Prod.ext (by simpa using h1) (by rw [bodyF, hq])
    exact e2 ▸ h2
theorem fresh_mem {l : List FileT} (hr : RiseF l) (f : FileT) : freshF l f = !decide (f ∈ l) := by
  rcases h : hasF l f.1 with _ | _
  · have : ¬ f ∈ l := fun hm => by
      have := hasF_iff.2 ⟨f, hm, rfl⟩
      rw [h] at this; cases this
    simp [freshF, h, this]
  · have hb := hasF_body h
    by_cases hm : f ∈ l
    · have e := hr.one hm hb rfl
      have e2 : bodyF l f.1 = f.2 := (congrArg Prod.snd e).symm
      simp [freshF, h, e2, hm]
    · have e2 : ¬ bodyF l f.1 = f.2 := fun e => hm (by
        have : (f.1, bodyF l f.1) = f := Prod.ext rfl e
        exact this ▸ hb)
      simp [freshF, h, e2, hm]
theorem find_name {l : List FileT} {n : List UInt8} (h : 0 ≤ findF l n) : ∃ hj : (findF l n).toNat < l.length, (l[(findF l n).toNat]).1 = n := by
  induction l with
  | nil => simp [findF] at h
  | cons f t ih =>
    by_cases e : f.1 = n
    · have e1 : findF (f :: t) n = 0 := by rw [findF, if_pos e]
      simp only [e1]
      exact ⟨by simp, e⟩
    · by_cases h2 : findF t n = -1
      · have e1 : findF (f :: t) n = -1 := by rw [findF, if_neg e, if_pos h2]
        rw [e1] at h
        omega
      · have h3 := (find_range t n).1
        have e1 : findF (f :: t) n = findF t n + 1 := by rw [findF, if_neg e, if_neg h2]
        obtain ⟨hj, hn⟩ := ih (by omega)
        have e2 : (findF t n + 1).toNat = (findF t n).toNat + 1 := by omega
        simp only [e1, e2, List.length_cons, List.getElem_cons_succ]
        exact ⟨by omega, hn⟩
theorem new_mem {l : List FileT} (hr : RiseF l) (f : FileT) : newF l f = !decide (f ∈ l) := by
  by_cases h : findF l f.1 < 0
  · have hh : hasF l f.1 = false := (find_has l f.1).1 (by have := (find_range l f.1).1; omega)
    have : ¬ f ∈ l := fun hm => by
      have := hasF_iff.2 ⟨f, hm, rfl⟩
      rw [hh] at this; cases this
    rw [newF_neg h]; simp [this]
  · obtain ⟨hj, hn⟩ := find_name (l := l) (n := f.1) (by omega)
    have e : findF l f.1 = ((findF l f.1).toNat : Int) := by omega
    rw [newF_hit hj e]
    congr 1
    by_cases hm : f ∈ l
    · have : l[(findF l f.1).toNat] = f := hr.one (List.getElem_mem hj) hm hn
      simp [this, hm]
    · have : ¬ l[(findF l f.1).toNat] = f := fun e => hm (e ▸ List.getElem_mem hj)
      simp [this, hm]
theorem mem_put_iff {l : List FileT} (hr : RiseF l) {f g : FileT} : g ∈ putF l f ↔ g = f ∨ (g ∈ l ∧ g.1 ≠ f.1) := by
  induction l with
  | nil => simp [putF]
  | cons x t ih =>
    unfold putF
    split
    · rename_i hx
      rw [List.mem_cons, ih hr.tail]
      constructor
      · rintro (rfl | rfl | ⟨h1, h2⟩)
        · exact .inr ⟨by simp, ltT_ne hx⟩
        · exact .inl rfl
        · exact .inr ⟨by simp [h1], h2⟩
      · rintro (rfl | ⟨h1, h2⟩)
        · exact .inr (.inl rfl)
        · rcases List.mem_cons.1 h1 with rfl | h1
          · exact .inl rfl
          · exact .inr (.inr ⟨h1, h2⟩)
    · rename_i hx
      split
      · rename_i he
        rw [List.mem_cons]
        constructor
        · rintro (h | h)
          · exact .inl h
          · exact .inr ⟨by simp [h], he ▸ (ltT_ne (hr.head g h)).symm⟩
        · rintro (h | ⟨h1, h2⟩)
          · exact .inl h
          · rcases List.mem_cons.1 h1 with rfl | h1
            · exact absurd he h2
            · exact .inr h1
      · rename_i he
        have hlt : ltT f.1 x.1 = true := by
          rcases ltT_total x.1 f.1 with h1 | h1 | h1
          · exact absurd h1 hx
          · exact absurd h1 he
          · exact h1
        rw [List.mem_cons]
        constructor
        · rintro (h | h)
          · exact .inl h
          · refine .inr ⟨h, ?_⟩
            rcases List.mem_cons.1 h with rfl | h
            · exact he
            · exact (ltT_ne (ltT_trans hlt (hr.head g h))).symm
        · rintro (h | ⟨h1, _⟩)
          · exact .inl h
          · exact .inr h1
theorem mem_fold_put {l m : List FileT} (hl : RiseF l) (hm : RiseF m) {g : FileT} : g ∈ l.foldl putF m ↔ g ∈ l ∨ (g ∈ m ∧ hasF l g.1 = false) := by
  induction l generalizing m with
  | nil => simp [hasF]
  | cons x t ih =>
    rw [List.foldl_cons, ih hl.tail (hm.put x), mem_put_iff hm]
    have hh : hasF (x :: t) g.1 = (x.1 == g.1 || hasF t g.1) := rfl
    constructor
    · rintro (h | ⟨rfl | ⟨h1, h2⟩, h3⟩)
      · exact .inl (by simp [h])
      · exact .inl (by simp)
      · refine .inr ⟨h1, ?_⟩
        rw [hh, h3, Bool.or_false]
        simpa using fun e => h2 e.symm
    · rintro (h | ⟨h1, h2⟩)
      · rcases List.mem_cons.1 h with rfl | h
        · refine .inr ⟨.inl rfl, ?_⟩
          rw [hasF, List.any_eq_false]
          intro f hf
          simpa using (ltT_ne (hl.head f hf)).symm
        · exact .inl h
      · rw [hh, Bool.or_eq_false_iff] at h2
        exact .inr ⟨.inr ⟨h1, fun e => by simp [e] at h2⟩, h2.2⟩
theorem mem_fold_drop {l : List (List UInt8)} {m : List FileT} {g : FileT} : g ∈ l.foldl dropF m ↔ g ∈ m ∧ g.1 ∉ l := by
  induction l generalizing m with
  | nil => simp
  | cons x t ih =>
    rw [List.foldl_cons, ih, dropF, List.mem_filter]
    simp only [List.mem_cons, not_or, Bool.not_eq_true', beq_eq_false_iff_ne]
    exact ⟨fun ⟨⟨a, b⟩, c⟩ => ⟨a, b, c⟩, fun ⟨a, b, c⟩ => ⟨⟨a, b⟩, c⟩⟩
theorem mem_taken_iff {s : StoreT} (h1 : RiseF s.files) (h2 : RiseF s.staged) {g : FileT} : g ∈ takenF s ↔ (g ∈ s.staged ∨ (g ∈ s.files ∧ hasF s.staged g.1 = false)) ∧ g.1 ∉ s.gone := by
  rw [takenF, mem_fold_drop, mem_fold_put h2 h1]
/-- What a good store says of its parts. -/
theorem goodS_names {s : StoreT} (h : goodS s = true) : RiseF s.files ∧ RiseF s.staged ∧ s.gone.Nodup ∧ (∀ n ∈ s.gone, hasF s.staged n = false) ∧ RiseF (takenF s) := by
  have hg := goodS_files h
  rw [goodS_parts] at h
  simp only [Bool.and_eq_true, decide_eq_true_iff] at h
  obtain ⟨_, _, _, hn, ha, _⟩ := h
  rw [namesOk, Bool.and_eq_true, riseN_iff] at hn
  refine ⟨good_rise hg.1, good_rise hg.2.1, hn.2.imp (fun h => ltT_ne h), fun n hm => ?_, good_rise hg.2.2⟩
  have := List.all_eq_true.1 ha n hm
  simpa using this
theorem len_of_mem {α : Type} {a b : List α} (ha : a.Nodup) (hb : b.Nodup) (h : ∀ x, x ∈ a ↔ x ∈ b) : a.length = b.length := by
  classical
  exact ((List.perm_ext_iff_of_nodup ha hb).2 h).length_eq
theorem commit_count {s : StoreT} (h : goodS s = true) : unlikeN s.files (takenF s) = commitN s := by
  obtain ⟨h1, h2, h3, h4, h5⟩ := goodS_names h
  have e0 : commitN s = newN s s.staged.length + gonN s s.gone.length := by rw [commitN, h]; rfl
  have e1 : ((takenF s).filter (freshF s.files)).length = newN s s.staged.length := by
    unfold newN
    rw [List.take_of_length_le (Nat.le_refl _)]
    refine len_of_mem ((nodup_of_map h5.nodup).filter _) ((nodup_of_map h2.nodup).filter _) fun f => ?_
    rw [List.mem_filter, List.mem_filter, fresh_mem h1, new_mem h1, mem_taken_iff h1 h2]
    constructor
    · rintro ⟨⟨ha | ⟨ha, _⟩, _⟩, hb⟩
      · exact ⟨ha, hb⟩
      · simp [ha] at hb
    · rintro ⟨ha, hb⟩
      refine ⟨⟨.inl ha, fun hg => ?_⟩, hb⟩
      have := h4 _ hg
      rw [hasF_iff.2 ⟨f, ha, rfl⟩] at this
      cases this
  have e2 : (s.files.filter (lostF (takenF s))).length = gonN s s.gone.length := by
    unfold gonN
    rw [List.take_of_length_le (Nat.le_refl _), ← List.length_map (f := (·.1))]
    refine len_of_mem ?_ (h3.filter _) fun n => ?_
    · exact (h1.nodup.sublist (List.Sublist.map _ List.filter_sublist))
    · rw [List.mem_map, List.mem_filter, has_find]
      constructor
      · rintro ⟨f, hf, rfl⟩
        obtain ⟨hf1, hf2⟩ := List.mem_filter.1 hf
        have hl : hasF (takenF s) f.1 = false := by simpa [lostF] using hf2
        refine ⟨?_, hasF_iff.2 ⟨f, hf1, rfl⟩⟩
        by_cases hg : f.1 ∈ s.gone
        · exact hg
        · exfalso
          rcases hs : hasF s.staged f.1 with _ | _
          · have := hasF_iff.2 ⟨f, (mem_taken_iff h1 h2).2 ⟨.inr ⟨hf1, hs⟩, hg⟩, rfl⟩
            rw [hl] at this; cases this
          · obtain ⟨g, hg1, hg2⟩ := hasF_iff.1 hs
            have := hasF_iff.2 ⟨g, (mem_taken_iff h1 h2).2 ⟨.inl hg1, by rw [hg2]; exact hg⟩, hg2⟩
            rw [hl] at this; cases this
      · rintro ⟨hg, hf⟩
        obtain ⟨f, hf1, rfl⟩ := hasF_iff.1 hf
        refine ⟨f, List.mem_filter.2 ⟨hf1, ?_⟩, rfl⟩
        have : hasF (takenF s) f.1 = false := by
          rcases hq : hasF (takenF s) f.1 with _ | _
          · rfl
          · obtain ⟨g, hg1, hg2⟩ := hasF_iff.1 hq
            exact absurd (hg2 ▸ hg) ((mem_taken_iff h1 h2).1 hg1).2
        simp [lostF, this]
  rw [unlikeN, e0, e1, e2]

end Go.Proofs.YtgcaplbeahjbmaaGreatDoor

/- Walks: the program's commits and discards. -/
namespace Go.Proofs.YtgcaplbeahjbmaaGreatDoor
open Go.RowKit Go.Maps Pth

/-- A store and a bool are handed back. -/
def StoreBOk (t : StoreT) (ok : Bool) (w : World) (e : Ending) (w' : World) : Prop := ∃ v, e = .returned (.tuple #[v, .bool ok]) ∧ StoreO w.heap.size w' v t ∧ Below w.heap.size w w'
def discardT (s : StoreT) : StoreT := if goodS s = true then ⟨s.files, [], []⟩ else noStore
theorem name_len {n : List UInt8} (h : nameOk n = true) : n.length ≤ 20 := by
  simp only [nameOk, Bool.and_eq_true, decide_eq_true_iff] at h
  exact h.2.1
theorem good_small {l : List FileT} (h : goodF l = true) : ∀ f ∈ l, f.1.length ≤ 1000 ∧ f.2.length ≤ 1000 := fun f hf => by
  have h1 := good_bodies h f hf
  rw [goodF_parts, Bool.and_eq_true, namesOk, Bool.and_eq_true] at h
  have h2 := name_len (List.all_eq_true.1 h.1.1 f.1 (List.mem_map.2 ⟨f, hf, rfl⟩))
  exact ⟨by omega, by omega⟩

end Go.Proofs.YtgcaplbeahjbmaaGreatDoor

/- Walks: the laws' marks in files. -/
namespace Go.Proofs.YtgcaplbeahjbmaaGreatDoor
open Go.RowKit Pth

/-- The files that are marks, from k on. -/
def marksF (k : Nat) (n : Nat) : List FileT := (List.range n).map (fun (i : Nat) => (markT (k + i * 2), markT (k + i * 2 + 1)))
theorem marksF_len (k n : Nat) : (marksF k n).length = n := by simp [marksF]
theorem marksF_snoc (k n : Nat) : marksF k (n + 1) = marksF k n ++ [(markT (k + n * 2), markT (k + n * 2 + 1))] := by simp [marksF, List.range_succ]
theorem marksF_at (k n j : Nat) (hj : j < (marksF k n).length) : (marksF k n)[j] = (markT (k + j * 2), markT (k + j * 2 + 1)) := by simp [marksF]
theorem set_nameF (a : List FileT) (k : Nat) (ha : a.length = k) (x p q : List UInt8) (rest : List FileT) :
    (FC a ++ FC ((p, q) :: rest)).set (k * 2) (.string ⟨x.toArray⟩) = FC a ++ FC ((x, q) :: rest) := by
  have hl : (FC a).length = k * 2 := by rw [FC_len, ha]
  rw [List.set_append_right _ _ (by omega), hl, Nat.sub_self]
  rfl
theorem set_bodyF (a : List FileT) (k : Nat) (ha : a.length = k) (x y q : List UInt8) (rest : List FileT) :
    (FC a ++ FC ((x, q) :: rest)).set (k * 2 + 1) (.string ⟨y.toArray⟩) = FC (a ++ [(x, y)]) ++ FC rest := by
  have hl : (FC a).length = k * 2 := by rw [FC_len, ha]
  rw [List.set_append_right _ _ (by omega), hl, show k * 2 + 1 - k * 2 = 1 by omega, FC_append]
  simp [FC, fileC]

/-- The files hold the marks, and nothing but their own block has turned. -/
def MarkedF (B : Nat) (v : Value) (k : Nat) (n : Nat) (w : World) (e : Ending) (w' : World) : Prop :=
  e = .returned (.int .i64 ((k : Int) + (n : Int) * 2)) ∧ w'.ownsRow B 44 2 v n (FC (marksF k n)) ∧ w.grownBy w' v.ownBlock

theorem mark_l (k j : Nat) (i : Int) (h : (j : Int) = i) (hk : k = j) (hk1 : j ≤ 8000000) (h1 : 1 ≤ j) (w : World) : Calls Tryz.prog 48 #[.int .i64 i] w fun e w' => e = .returned (.string ⟨(markT j).toArray⟩) ∧ Below w.heap.size w w' := by
  subst h
  exact markText_any j w hk1 h1

set_option maxRecDepth 20000 in
set_option maxHeartbeats 1000000 in
theorem markFileS_any (l : List FileT) (k : Nat) (B : Nat) (v : Value) (w : World) (hown : w.ownsRow B 44 2 v l.length (FC l)) (hl : l.length ≤ 1500000) (hk : k ≤ 4000000) (hk1 : 1 ≤ k) :
    Calls Tryz.prog 28 #[v, .int .i64 (k : Int)] w (MarkedF B v k l.length w) := by
  have HW := Lib.hid hown
  obtain ⟨a, cap, rfl⟩ := own_sliceG hown
  clear hown
  go_enter Tryz.func28, Tryz.ntmps28
  go_wp2_with fail
  go_loopw [1, 5] (fun q i wr => ∃ j : Nat, j ≤ l.length ∧ q = .int .i64 ((k : Int) + (j : Int) * 2) ∧ i = .int .i64 j ∧ wr.ownsRow B 44 2 (.slice a l.length cap) l.length (FC (marksF k j) ++ FC (l.drop j)) ∧ w.grownBy wr (Value.slice a l.length cap).ownBlock) (fun _ i _ => l.length - (intOf i).toNat)
  case atStart => exact ⟨0, Nat.zero_le _, by simp, rfl, HW.out, grown_refl _ _⟩
  case round =>
    clear HW
    obtain ⟨j, hj, rfl, rfl, hown, hg⟩ := hrel
    by_cases hlt : j < l.length
    · obtain ⟨g, c2, hv⟩ : ∃ g c2, (Value.slice a l.length cap) = .slice (some ⟨g, 0, none⟩) l.length c2 := by
        rcases hown.2 with ⟨_, h0⟩ | ⟨g, c2, cur, hv, _⟩
        · omega
        · exact ⟨g, c2, hv⟩
      injection hv with hv1 hv2 hv3
      subst hv1
      have hc4 : l.length ≤ cap := by
        rcases hown.2 with ⟨_, h0⟩ | ⟨g, c2, cur, hv, _, _, h5, _⟩
        · omega
        · injection hv with _ _ hv3; omega
      have HC := Lib.hid (fun W => mark_l _ (k + j * 2) ((k : Int) + (j : Int) * 2) (by omega) rfl (by omega) (by omega) W)
      have HC2 := Lib.hid (fun W => mark_l _ (k + j * 2 + 1) ((k : Int) + (j : Int) * 2 + 1) (by omega) rfl (by omega) (by omega) W)
      rw [List.drop_eq_getElem_cons hlt, show l[j] = (l[j].1, l[j].2) from rfl] at hown
      have HN := Lib.hid hown
      have HG := Lib.hid hg
      have ha := marksF_len k j
      have HE := Lib.hid (marksF_snoc k j)
      clear hown hg hv2 hv3
      generalize l[j].1 = p at HN
      generalize l[j].2 = q at HN
      generalize markT (k + j * 2) = x at HC HE
      generalize markT (k + j * 2 + 1) = y at HC2 HE
      go_wp2_with fail
      refine (HC.out _).mono ?_
      rintro e w1 ⟨rfl, hb1⟩
      have HN1 := Lib.hid (own_belowG HN.out hb1)
      have hfz := HN1.out.frozenAt (j * 2)
      have hcz : w1.cell? ⟨g, j * 2, none⟩ = some (.string ⟨p.toArray⟩) := by rw [HN1.out.cellAt (j * 2) (by omega), (get_two (marksF k j) j ha (p, q) _).1]
      have hst := HN1.out.stored (j * 2) (.string ⟨x.toArray⟩)
      rw [set_nameF (marksF k j) j ha] at hst
      have HN2 := Lib.hid hst.1
      have HG2 := Lib.hid (grown_trans (grown_trans HG.out (below_grown hb1)) hst.2)
      clear hst hb1 HN HN1 HG
      go_wp2_with fail
      generalize w1.setCell ⟨g, j * 2, none⟩ (.string ⟨x.toArray⟩) = w2 at HN2 HG2
      refine (HC2.out _).mono ?_
      rintro e w3 ⟨rfl, hb3⟩
      have HN3 := Lib.hid (own_belowG HN2.out hb3)
      have hfz2 := HN3.out.frozenAt (j * 2 + 1)
      have hcz2 : w3.cell? ⟨g, j * 2 + 1, none⟩ = some (.string ⟨q.toArray⟩) := by rw [HN3.out.cellAt (j * 2 + 1) (by omega), (get_two (marksF k j) j ha (x, q) _).2]
      have hst := HN3.out.stored (j * 2 + 1) (.string ⟨y.toArray⟩)
      rw [set_bodyF (marksF k j) j ha, ← HE.out] at hst
      have HN4 := Lib.hid hst.1
      have HG4 := Lib.hid (grown_trans (grown_trans HG2.out (below_grown hb3)) hst.2)
      clear hst hb3 HN2 HN3 HG2 hcz hfz
      go_wp2_with fail
      go_roundw
      case rel => exact ⟨j + 1, by omega, by go_num, by go_num, HN4.out, HG4.out⟩
      case measure => simp [intOf]; omega
    · obtain rfl : j = l.length := by omega
      rw [List.drop_of_length_le (Nat.le_refl _), show FC [] = [] from rfl, List.append_nil] at hown
      have HN := Lib.hid hown
      have HG := Lib.hid hg
      clear hown hg
      go_wp2_with fail
      go_ret
      exact ⟨rfl, HN.out, HG.out⟩

end Go.Proofs.YtgcaplbeahjbmaaGreatDoor

/- Walks: whether the laws' marks are held in files. -/
namespace Go.Proofs.YtgcaplbeahjbmaaGreatDoor
open Go.RowKit Pth

set_option maxRecDepth 20000 in
set_option maxHeartbeats 2000000 in
theorem heldFileS_any (k n : Nat) (v : Value) (w : World) (hrow : RowF w v (marksF k n)) (hn : n ≤ 1500000) (hk : k ≤ 4000000) (hk1 : 1 ≤ k) :
    Calls Tryz.prog 30 #[v, .int .i64 (k : Int)] w fun e w' => e = .returned (.int .i64 ((k : Int) + (n : Int) * 2)) ∧ Below w.heap.size w w' := by
  obtain ⟨a, cap, rfl, hc1, hc2, hat⟩ := hrow.files
  rw [marksF_len] at hc1 ⊢
  clear hrow
  unfold maxLen at hc2
  go_enter Tryz.func30, Tryz.ntmps30
  go_wp2_with fail
  go_loopw [1, 5] (fun q i wr => ∃ j : Nat, j ≤ n ∧ q = .int .i64 ((k : Int) + (j : Int) * 2) ∧ i = .int .i64 j ∧ Hid (Below w.heap.size w wr)) (fun _ i _ => n - (intOf i).toNat)
  case atStart => exact ⟨0, Nat.zero_le _, by simp, rfl, Below.refl _ _⟩
  case round =>
    obtain ⟨j, hj, rfl, rfl, HB⟩ := hrel
    by_cases hlt : j < n
    · obtain ⟨g, o, rfl, hg, hcell1, hcell2⟩ := hat j (by rw [marksF_len]; exact hlt)
      rw [marksF_at] at hcell1 hcell2
      have s1 := (HB.out.cell (p := ⟨g, o + j * 2, none⟩) hg).trans hcell1
      have s2 := (HB.out.cell (p := ⟨g, o + j * 2 + 1, none⟩) hg).trans hcell2
      dsimp only at s1 s2
      have hbs := HB.out.size
      have hgw : g < wr.heap.size := by omega
      have HC := Lib.hid (fun W => mark_l _ (k + j * 2) ((k : Int) + (j : Int) * 2) (by omega) rfl (by omega) (by omega) W)
      have HC2 := Lib.hid (fun W => mark_l _ (k + j * 2 + 1) ((k : Int) + (j : Int) * 2 + 1) (by omega) rfl (by omega) (by omega) W)
      have hj1 : (j : Int) < (n : Int) := by omega
      clear hcell1 hcell2 hat
      generalize markT (k + j * 2) = x at s1 HC
      generalize markT (k + j * 2 + 1) = y at s2 HC2
      go_wp2_with fail
      go_region_held3 (fun w' => w'.cell? ⟨g, o + j * 2, none⟩ = some (.string ⟨x.toArray⟩)) (first | exact s1 | exact k0)
        (first | (go_at_call 48; refine (HC.out _).mono ?_; rintro e w5 ⟨rfl, hb5⟩; have k0 := (hb5.cell (p := ⟨g, o + j * 2, none⟩) hgw).trans s1))
      have q2 := (hb5.cell (p := ⟨g, o + j * 2 + 1, none⟩) hgw).trans s2
      have hgw5 : g < w5.heap.size := by have := hb5.size; simp at this; omega
      have HB5 := Lib.hid ((Below.drew HB.out).trans (hb5.mono HB.out.size))
      clear hb5 k0 s1 s2
      go_wp2_with fail
      go_region_held3 (fun w' => w'.cell? ⟨g, o + j * 2 + 1, none⟩ = some (.string ⟨y.toArray⟩)) (first | exact q2 | exact k0)
        (first | (go_at_call 48; refine (HC2.out _).mono ?_; rintro e w7 ⟨rfl, hb7⟩; have k0 := (hb7.cell (p := ⟨g, o + j * 2 + 1, none⟩) hgw5).trans q2))
      have HB7 := Lib.hid ((Below.drew HB5.out).trans (hb7.mono HB5.out.size))
      clear hb7 k0 q2
      go_wp2_with fail
      go_roundw
      case rel => exact ⟨j + 1, by omega, by go_num, by go_num, HB7⟩
      case measure => simp [intOf]; omega
    · obtain rfl : j = n := by omega
      clear hat
      go_wp2_with fail
      go_ret
      exact ⟨rfl, HB.out⟩

end Go.Proofs.YtgcaplbeahjbmaaGreatDoor
