/- Texts of one claim, joined in their order. -/
import Derived.Shelf.Small.Wraps
import Derived.Shelf.LaysM
import Derived.Shelf.Strconv.Clone
import Derived.Shelf.Sort.Plain
import Derived.Shelf.Slices.In.SortNone
import Derived.Test.YtnkkbleebfijgaaProg
import Derived.Lib.OwnBridge
import Derived.Sort.OwnSortedInts
import Derived.Laws.EntriesVeiled
import Derived.RangeFuncNested
import Derived.RangeFuncBound
import Derived.RangeFuncCalls
import Derived.RangeFuncLeaves
import Derived.RangeFuncWrites
import Derived.Shelf.Abstract
import Derived.Shelf.RegionOpen
import Derived.OwnWalkIn
import Derived.TacticsInMore
import Derived.LoopNIn
import Derived.LoopIn
import Derived.Test.YtnkkbleebfijgaaM5
import Derived.Test.YtnkkbleebfijgaaM2
import Derived.Test.YtnkkbleebfijgaaM4

/- The library's contracts that the walks use, at this program: each an application of the shelf's; each structure's fields are facts of the loaded program. -/
namespace Go.Proofs
open Go.Shelf Go.RowKit Go.Sort
def Try.laysM316_ren : Go.Shelf.Ren := ⟨fun | 316 => 130 | n => n, fun | 9 => 9 | 3 => 3 | 4 => 4 | 37 => 126 | 0 => 0 | 127 => 172 | 5 => 5 | n => n, fun | n => n⟩
theorem Try.laysM316 : Go.Proofs.LaysM.n316 Try.prog Try.laysM316_ren := {
  mixed := by kernel_rfl
  f316 := Try.func130.trans (congrArg some (by kernel_rfl))
  t0 := Try.underlying0
  a0 := Try.isAgg0
  z0 := Try.sizeOf0
  v0 := Try.zeroValue0
  t3 := Try.underlying3
  a3 := Try.isAgg3
  z3 := Try.sizeOf3
  v3 := Try.zeroValue3
  t4 := Try.underlying4
  a4 := Try.isAgg4
  z4 := Try.sizeOf4
  v4 := Try.zeroValue4
  t9 := Try.underlying9
  a9 := Try.isAgg9
  z9 := Try.sizeOf9
  v9 := Try.zeroValue9
  t37 := Try.underlying126
  a37 := Try.isAgg126
  z37 := Try.sizeOf126
  v37 := Try.zeroValue126
  t127 := Try.underlying172
  a127 := Try.isAgg172
  z127 := Try.sizeOf172
  v127 := Try.zeroValue172
  t5 := Try.underlying5
  a5 := Try.isAgg5
  z5 := Try.sizeOf5
  v5 := Try.zeroValue5
  i0 := by kernel_rfl
  i3 := by kernel_rfl
  i4 := by kernel_rfl
  i5 := by kernel_rfl
  i9 := by kernel_rfl
  i37 := by kernel_rfl
  i127 := by kernel_rfl }
theorem Try.stringslite_Clone (s : ByteArray) (w : World) (hlim : s.size ≤ 281474976710656) :
    Calls Try.prog 130 #[.string s] w fun e w' => e = .returned (.string s) ∧ Below w.heap.size w w' := Any.stringslite_Clone Try.laysM316 s w hlim
def Try.lays189_ren : Go.Shelf.Ren := ⟨fun | 189 => 58 | 125 => 99 | 257 => 98 | 128 => 122 | 129 => 123 | 294 => 113 | 295 => 114 | 296 => 115 | 297 => 116 | 298 => 117 | 299 => 118 | 216 => 119 | 300 => 120 | 301 => 121 | 328 => 132 | 329 => 133 | 330 => 134 | 331 => 135 | 332 => 136 | 215 => 137 | 343 => 138 | n => n, fun | 28 => 23 | 3 => 3 | 46 => 112 | 0 => 0 | 51 => 140 | 53 => 142 | 4 => 4 | 183 => 134 | 182 => 133 | 131 => 63 | 5 => 5 | 9 => 9 | 218 => 154 | 222 => 158 | 228 => 173 | 229 => 174 | n => n, fun | n => n⟩
theorem Try.lays189 : Go.Proofs.Lays.n189 Try.prog Try.lays189_ren := {
  mixed := by kernel_rfl
  f125 := Try.func99.trans (congrArg some (by kernel_rfl))
  f128 := Try.func122.trans (congrArg some (by kernel_rfl))
  f129 := Try.func123.trans (congrArg some (by kernel_rfl))
  f189 := Try.func58.trans (congrArg some (by kernel_rfl))
  f215 := Try.func137.trans (congrArg some (by kernel_rfl))
  f216 := Try.func119.trans (congrArg some (by kernel_rfl))
  f257 := Try.func98.trans (congrArg some (by kernel_rfl))
  f294 := Try.func113.trans (congrArg some (by kernel_rfl))
  f295 := Try.func114.trans (congrArg some (by kernel_rfl))
  f296 := Try.func115.trans (congrArg some (by kernel_rfl))
  f297 := Try.func116.trans (congrArg some (by kernel_rfl))
  f298 := Try.func117.trans (congrArg some (by kernel_rfl))
  f299 := Try.func118.trans (congrArg some (by kernel_rfl))
  f300 := Try.func120.trans (congrArg some (by kernel_rfl))
  f301 := Try.func121.trans (congrArg some (by kernel_rfl))
  f328 := Try.func132.trans (congrArg some (by kernel_rfl))
  f329 := Try.func133.trans (congrArg some (by kernel_rfl))
  f330 := Try.func134.trans (congrArg some (by kernel_rfl))
  f331 := Try.func135.trans (congrArg some (by kernel_rfl))
  f332 := Try.func136.trans (congrArg some (by kernel_rfl))
  f343 := Try.func138.trans (congrArg some (by kernel_rfl))
  t0 := Try.underlying0
  a0 := Try.isAgg0
  z0 := Try.sizeOf0
  v0 := Try.zeroValue0
  t3 := Try.underlying3
  a3 := Try.isAgg3
  z3 := Try.sizeOf3
  v3 := Try.zeroValue3
  t4 := Try.underlying4
  a4 := Try.isAgg4
  z4 := Try.sizeOf4
  v4 := Try.zeroValue4
  t5 := Try.underlying5
  a5 := Try.isAgg5
  z5 := Try.sizeOf5
  v5 := Try.zeroValue5
  t9 := Try.underlying9
  a9 := Try.isAgg9
  z9 := Try.sizeOf9
  v9 := Try.zeroValue9
  t28 := Try.underlying23
  a28 := Try.isAgg23
  z28 := Try.sizeOf23
  v28 := Try.zeroValue23
  t46 := Try.underlying112
  a46 := Try.isAgg112
  z46 := Try.sizeOf112
  v46 := Try.zeroValue112
  t51 := Try.underlying140
  a51 := Try.isAgg140
  z51 := Try.sizeOf140
  v51 := Try.zeroValue140
  t53 := Try.underlying142
  a53 := Try.isAgg142
  z53 := Try.sizeOf142
  v53 := Try.zeroValue142
  t131 := Try.underlying63
  a131 := Try.isAgg63
  z131 := Try.sizeOf63
  v131 := Try.zeroValue63
  t182 := Try.underlying133
  a182 := Try.isAgg133
  z182 := Try.sizeOf133
  v182 := Try.zeroValue133
  t183 := Try.underlying134
  a183 := Try.isAgg134
  z183 := Try.sizeOf134
  v183 := Try.zeroValue134
  t218 := Try.underlying154
  a218 := Try.isAgg154
  z218 := Try.sizeOf154
  v218 := Try.zeroValue154
  t222 := Try.underlying158
  a222 := Try.isAgg158
  z222 := Try.sizeOf158
  v222 := Try.zeroValue158
  t228 := Try.underlying173
  a228 := Try.isAgg173
  z228 := Try.sizeOf173
  v228 := Try.zeroValue173
  t229 := Try.underlying174
  a229 := Try.isAgg174
  z229 := Try.sizeOf174
  v229 := Try.zeroValue174 }
theorem Try.slices_Sort_int (blk off cap : Nat) (zs : List Int) (w : World) (hH : Holds (Value.int .i64) w blk off zs.toArray) (hblk : blk < w.heap.size) (hsz : zs.length < 4611686018427387904) :
    Calls Try.prog 58 #[.slice (some ⟨blk, off, none⟩) zs.length cap] w fun e w' =>
      e = .returned (.tuple #[]) ∧ ∃ n os, w' = grow (putRow (Value.int .i64) (Sort.ahead w n) blk off (zs.mergeSort fun x y => decide (x ≤ y)).toArray) os := Any.slices_Sort_int Try.lays189 blk off cap zs w hH hblk hsz
theorem Try.slices_Sort_int_none (p : Option Addr) (cap : Nat) (w : World) :
    Calls Try.prog 58 #[.slice p 0 cap] w fun e w' => e = .returned (.tuple #[]) ∧ w' = w := Any.slices_Sort_int_none Try.lays189 p cap w
end Go.Proofs

/- Numbers in memory of the call's own: sorted, and without two alike, by the library. -/
namespace Go.Proofs.Ytnkkbleebfijgaa
open Go.RowKit Pth Go.Lib Go.Sort

theorem I_enc (l : List Int) : I l = l.map (Value.int .i64) := rfl
theorem sortI_len (l : List Int) : (sortI l).length = l.length := (sortI_perm l).length_eq
theorem sortInts_any (l : List Int) (v : Value) (B : Nat) (w : World) (hown : w.ownsRow B 3 1 v l.length (I l)) (hl : l.length ≤ 1000000) (hB : B ≤ w.heap.size) :
    Calls Try.prog 58 #[v] w fun e w' => e = .returned (.tuple #[]) ∧ w'.ownsRow B 3 1 v (sortI l).length (I (sortI l)) ∧ Below B w w' := by
  rcases hown.2 with ⟨hv, h0⟩ | ⟨g, cap, cur, hv, hBg, hh, h1, h2, h3, h4⟩
  · subst hv
    have h00 : l = [] := List.eq_nil_of_length_eq_zero h0
    subst h00
    refine (Try.slices_Sort_int_none none 0 w).mono fun e w' ⟨he, hw⟩ => ?_
    subst hw
    rw [show sortI [] = [] by simp [sortI]]
    exact ⟨he, hown, Below.refl _ _⟩
  · subst hv
    have hH := holds_of_blockI (ss := l) hh (by rw [Nat.mul_one] at h4; rw [← I_enc]; exact h4)
    refine (Try.slices_Sort_int g 0 cap l w hH (lt_of_block hh) (by omega)).mono ?_
    rintro e w' ⟨he, n, os, rfl⟩
    refine ⟨he, ?_, (Below.refl B w).grown (grownBy_sortedI _) hB (fun k hk => by cases hk; exact hBg)⟩
    have := ownsRow_sortedI (base := B) (n := n) (os := os) (ss := l) (ts := sortI l) (sortI_len l) hBg hh h1 h2 h3
    rw [sortI_len, I_enc]
    exact this
theorem compact_len (l : List Int) : (compact l).length ≤ l.length := compact_length_le l
end Go.Proofs.Ytnkkbleebfijgaa

/- Walks: risingWhere, areTasks, slices.ContainsFunc at a function value, the test whether a number is among some. -/
namespace Go.Proofs.Ytnkkbleebfijgaa
open Go.RowKit Pth

theorem rising_is {ls : List (List Int)} {l : List Int} (hg : GoodP ls l) (p : Int → Bool) : sortI (l.filter p) = (upto ls.length).filter p :=
  sort_filter hg.nodup (fun _ => hg.all) (sortI_perm _) (sortI_sorted _)

/-- A place, or a number below 0 where there is none. -/
def PlaceB (b : Bool) (w : World) (e : Ending) (w' : World) : Prop := ∃ i : Int, e = .returned (.int .i64 i) ∧ (0 ≤ i ↔ b = true) ∧ Below w.heap.size w w'

/-- A block of one cell. -/
def Blk1 (w : World) (b t : Nat) (x : Value) : Prop := w.heap[b]? = some (.cells #[x] t (0, 0))
theorem Blk1.cell {w : World} {b t : Nat} {x : Value} (h : Blk1 w b t x) : w.cell? ⟨b, 0, none⟩ = some x := by rw [cell_of_row w b _ _ t (0, 0) h]; rfl
theorem Blk1.below {w w' : World} {B b t : Nat} {x : Value} (h : Blk1 w b t x) (hb : Below B w w') (hlt : b < B) : Blk1 w' b t x := (hb.block b hlt).trans h
theorem Blk1.new {w : World} {t : Nat} {x : Value} : Blk1 (w.alloc (.cells #[x] t)) w.heap.size t x := heap_alloc_new w _

/-- A function value is handed back that tells whether p. -/
def TestPost (D : Int → Prop) (p : Int → Bool) (w : World) (e : Ending) (w' : World) : Prop := ∃ fv, e = .returned fv ∧ TestV w' fv D p ∧ Below w.heap.size w w' ∧ ∃ K b, fv = .func (.func K) #[] #[.pointer (some ⟨b, 0, none⟩)]

end Go.Proofs.Ytnkkbleebfijgaa

/- What is touched, needed, ready, closed, as answers; IsClosed and ReadyWith of the program. -/
namespace Go.Proofs.Ytnkkbleebfijgaa
open Go.RowKit Pth

/-- A good graph, and rising tasks of it. -/
noncomputable def someG (ls : List (List Int)) (l cs : List Int) : Bool := goodG ls l && riseB 0 ((ls.length : Int) - 1) cs
theorem some_eq (ls : List (List Int)) (l cs : List Int) : (goodG ls l && riseB 0 ((ls.length : Int) - 1) cs) = someG ls l cs := rfl
theorem some_eq2 (ls : List (List Int)) (l cs ds : List Int) : (goodG ls l && riseB 0 ((ls.length : Int) - 1) cs && riseB 0 ((ls.length : Int) - 1) ds) = (someG ls l cs && someG ls l ds) := by
  unfold someG
  cases goodG ls l <;> simp
theorem some_yes {ls : List (List Int)} {l cs : List Int} (h : someG ls l cs = true) : GoodG ls l ∧ (Rise cs ∧ ∀ x ∈ cs, 0 ≤ x ∧ x < (ls.length : Int)) := by
  unfold someG at h
  rw [Bool.and_eq_true] at h
  have := riseB_iff.1 h.2
  exact ⟨goodG_iff.1 h.1, this.1, fun x hx => by have := this.2 x hx; omega⟩
theorem some_yes2 {ls : List (List Int)} {l cs ds : List Int} (h : (someG ls l cs && someG ls l ds) = true) : GoodG ls l ∧ (Rise cs ∧ ∀ x ∈ cs, 0 ≤ x ∧ x < (ls.length : Int)) ∧ (Rise ds ∧ ∀ x ∈ ds, 0 ≤ x ∧ x < (ls.length : Int)) := by
  rw [Bool.and_eq_true] at h
  exact ⟨(some_yes h.1).1, (some_yes h.1).2, (some_yes h.2).2⟩
/-- One that is not among some, and all that it needs is. -/
def readyP (ls : List (List Int)) (cs : List Int) (k : Int) : Bool := !hasL cs k && !(needsAt ls k).any (fun x => !hasL cs x)
noncomputable def touchA_v (ls : List (List Int)) (_l cs : List Int) : List Int := touchS ls cs
noncomputable def touchA (ls : List (List Int)) (l cs : List Int) : List Int := if someG ls l cs then touchA_v ls l cs else []
theorem touchA_no {ls : List (List Int)} {l cs : List Int} (h : someG ls l cs = false) : touchA ls l cs = [] := by unfold touchA; rw [h]; rfl
theorem touchA_yes {ls : List (List Int)} {l cs : List Int} (h : someG ls l cs = true) : touchA ls l cs = touchA_v ls l cs := by unfold touchA; rw [h]; rfl
theorem touchA_short (ls : List (List Int)) (l cs : List Int) : (touchA ls l cs).length ≤ 1000000 := by
  rcases h : someG ls l cs with _ | _
  · rw [touchA_no h]; simp
  · rw [touchA_yes h]
    have h1 := (some_yes h).1.high
    exact Nat.le_trans (touchS_len ls cs) (by omega)
noncomputable def needA_v (ls : List (List Int)) (_l cs : List Int) : List Int := needS ls cs
noncomputable def needA (ls : List (List Int)) (l cs : List Int) : List Int := if someG ls l cs then needA_v ls l cs else []
theorem needA_no {ls : List (List Int)} {l cs : List Int} (h : someG ls l cs = false) : needA ls l cs = [] := by unfold needA; rw [h]; rfl
theorem needA_yes {ls : List (List Int)} {l cs : List Int} (h : someG ls l cs = true) : needA ls l cs = needA_v ls l cs := by unfold needA; rw [h]; rfl
theorem needA_short (ls : List (List Int)) (l cs : List Int) : (needA ls l cs).length ≤ 1000000 := by
  rcases h : someG ls l cs with _ | _
  · rw [needA_no h]; simp
  · rw [needA_yes h]
    have h1 := (some_yes h).1.high
    exact Nat.le_trans (needS_len ls cs) (by omega)
noncomputable def readyA_v (ls : List (List Int)) (_l cs : List Int) : List Int := (upto ls.length).filter (readyP ls cs)
noncomputable def readyA (ls : List (List Int)) (l cs : List Int) : List Int := if someG ls l cs then readyA_v ls l cs else []
theorem readyA_no {ls : List (List Int)} {l cs : List Int} (h : someG ls l cs = false) : readyA ls l cs = [] := by unfold readyA; rw [h]; rfl
theorem readyA_yes {ls : List (List Int)} {l cs : List Int} (h : someG ls l cs = true) : readyA ls l cs = readyA_v ls l cs := by unfold readyA; rw [h]; rfl
theorem readyA_short (ls : List (List Int)) (l cs : List Int) : (readyA ls l cs).length ≤ 1000000 := by
  rcases h : someG ls l cs with _ | _
  · rw [readyA_no h]; simp
  · rw [readyA_yes h]
    have h1 := (some_yes h).1.high
    exact Nat.le_trans (Nat.le_trans (List.length_filter_le _ _) (Nat.le_of_eq (upto_len _))) (by omega)
noncomputable def shutA_v (ls : List (List Int)) (_l cs : List Int) : Bool := shutB ls cs
noncomputable def shutA (ls : List (List Int)) (l cs : List Int) : Bool := if someG ls l cs then shutA_v ls l cs else false
theorem shutA_no {ls : List (List Int)} {l cs : List Int} (h : someG ls l cs = false) : shutA ls l cs = false := by unfold shutA; rw [h]; rfl
theorem shutA_yes {ls : List (List Int)} {l cs : List Int} (h : someG ls l cs = true) : shutA ls l cs = shutA_v ls l cs := by unfold shutA; rw [h]; rfl
/-- Two yes-or-noes. -/
def PairOk (p b : Bool) (w : World) (e : Ending) (w' : World) : Prop := e = .returned (.tuple #[.bool p, .bool b]) ∧ Below w.heap.size w w'
theorem shut_yes {ls : List (List Int)} {cs : List Int} (h : Pth.Shut ls cs) : shutB ls cs = true := by unfold shutB; exact @decide_eq_true _ (Classical.propDecidable _) h
theorem shut_no {ls : List (List Int)} {cs : List Int} (h : ¬ Pth.Shut ls cs) : shutB ls cs = false := by unfold shutB; exact @decide_eq_false _ (Classical.propDecidable _) h
theorem any_has {l cs : List Int} : l.any (hasL cs) = true ↔ ∃ x ∈ l, x ∈ cs := by
  rw [List.any_eq_true]
  constructor
  · rintro ⟨x, hx, h⟩; exact ⟨x, hx, by simpa [hasL] using h⟩
  · rintro ⟨x, hx, h⟩; exact ⟨x, hx, by simpa [hasL] using h⟩

end Go.Proofs.Ytnkkbleebfijgaa

/- Walks: tests that leave the world as it was; ReadyWith of the program. -/
namespace Go.Proofs.Ytnkkbleebfijgaa
open Go.RowKit Pth

theorem GraphV.parts {w : World} {a b : Value} {ls : List (List Int)} {l : List Int} (h : GraphV w (.agg #[a, b]) ls l) : RowN w a ls ∧ RowV w b (I l) := by
  obtain ⟨nv, ov, hv, h1, h2⟩ := h
  injection hv with hv
  simp only [Array.mk.injEq, List.cons.injEq, and_true] at hv
  obtain ⟨rfl, rfl⟩ := hv
  exact ⟨h1, h2⟩
/-- A yes-or-no, and the world is as it was. -/
def BoolS (b : Bool) (w : World) (e : Ending) (w' : World) : Prop := e = .returned (.bool b) ∧ w' = w
/-- A function value that tells of each number of D whether p holds, and only reads. -/
def TestS (w0 : World) (fv : Value) (D : Int → Prop) (p : Int → Bool) : Prop :=
  ∃ K cap, fv = .func (.func K) #[] cap ∧ (∀ args w, (callFunc K args).run Try.prog w = .ok (.enter K args) w) ∧ ∀ W, Below w0.heap.size w0 W → ∀ x, D x → Calls Try.prog K (#[.int .i64 x] ++ cap) W (BoolS (p x) W)
theorem TestS.below {w w' : World} {fv : Value} {D : Int → Prop} {p : Int → Bool} (h : TestS w fv D p) (hb : Below w.heap.size w w') : TestS w' fv D p := by
  obtain ⟨K, cap, h1, h2, h3⟩ := h
  exact ⟨K, cap, h1, h2, fun W hW x hx => h3 W (bth hb hW (Nat.le_refl _)) x hx⟩
theorem TestS.toV {w : World} {fv : Value} {D : Int → Prop} {p : Int → Bool} (h : TestS w fv D p) : TestV w fv D p := by
  obtain ⟨K, cap, h1, h2, h3⟩ := h
  exact ⟨K, cap, h1, h2, fun W hW x hx => (h3 W hW x hx).mono fun e w' ⟨he, hw⟩ => ⟨he, by rw [hw]; exact Below.refl _ _⟩⟩

/-- A place, or a number below 0 where there is none; the world is as it was. -/
def PlaceS (b : Bool) (w : World) (e : Ending) (w' : World) : Prop := ∃ i : Int, e = .returned (.int .i64 i) ∧ (0 ≤ i ↔ b = true) ∧ w' = w

/-- A function value is handed back that tells whether p, and only reads. -/
def TestSPost (D : Int → Prop) (p : Int → Bool) (w : World) (e : Ending) (w' : World) : Prop := ∃ fv, e = .returned fv ∧ TestS w' fv D p ∧ Below w.heap.size w w'

end Go.Proofs.Ytnkkbleebfijgaa

/- Walks: the reference's l6Some, l6Touched, TouchedBy, IsClosed. -/
namespace Go.Proofs.Ytnkkbleebfijgaa
open Go.RowKit Pth

theorem touch1_in {n : Nat} {k : Int} (hk : 0 ≤ k ∧ k < (n : Int)) (nd : List Int) : ∀ {out : List Int}, (∀ x ∈ out, 0 ≤ x ∧ x < (n : Int)) → ∀ x ∈ touch1 k out nd, 0 ≤ x ∧ x < (n : Int) := by
  induction nd with
  | nil => intro out h; exact h
  | cons a b ih =>
    intro o ho
    refine ih (fun x hx0 => ?_)
    have hx : x ∈ (if hasL o a then putL o k else o) := hx0
    split at hx
    · rcases mem_put.1 hx with rfl | hx
      · exact hk
      · exact ho x hx
    · exact ho x hx
theorem short_in {l : List Int} {n : Nat} (hr : Rise l) (h : ∀ x ∈ l, 0 ≤ x ∧ x < (n : Int)) : l.length ≤ n := by
  have := rise_len (lo := 0) (hi := (n : Int) - 1) hr (fun x hx => by have := h x hx; omega) (by omega)
  omega

end Go.Proofs.Ytnkkbleebfijgaa

/- Walks: the reference's l6Needed, NeededFor. -/
namespace Go.Proofs.Ytnkkbleebfijgaa
open Go.RowKit Pth

end Go.Proofs.Ytnkkbleebfijgaa

/- Walks: the reference's ReadyWith and MustMake. -/
namespace Go.Proofs.Ytnkkbleebfijgaa
open Go.RowKit Pth

/-- One that is not among some, and so many of what it needs are. -/
def readyK (cs : List Int) (k : Int) (nd : List Int) : Bool := !hasL cs k && !nd.any (fun x => !hasL cs x)
theorem readyK_snoc (cs : List Int) (k : Int) (nd : List Int) (x : Int) : readyK cs k (nd ++ [x]) = (readyK cs k nd && hasL cs x) := by
  unfold readyK
  rw [List.any_append]
  cases hasL cs k <;> cases nd.any (fun x => !hasL cs x) <;> cases hx : hasL cs x <;> simp [hx]
theorem readyK_nil (cs : List Int) (k : Int) : readyK cs k [] = !hasL cs k := by unfold readyK; simp
theorem readyK_all {ls : List (List Int)} {cs : List Int} {k : Nat} (hk : k < ls.length) : readyK cs k ls[k] = readyP ls cs k := by unfold readyK readyP; rw [needsAt_get hk]
theorem upto_yes {p : Int → Bool} {k : Nat} (h : p (k : Int) = true) : (upto (k + 1)).filter p = (upto k).filter p ++ [(k : Int)] := by
  rw [upto_succ, List.filter_append, List.filter_cons, h]; rfl
theorem upto_no {p : Int → Bool} {k : Nat} (h : p (k : Int) = false) : (upto (k + 1)).filter p = (upto k).filter p := by
  rw [upto_succ, List.filter_append, List.filter_cons, h]; simp

/-- One that is touched and needed. -/
noncomputable def mustP (ls : List (List Int)) (cs ds : List Int) (y : Int) : Bool := hasL (touchS ls cs) y && hasL (needS ls ds) y
noncomputable def mustA_v (ls : List (List Int)) (l cs ds : List Int) : List Int := l.filter (mustP ls cs ds)
noncomputable def mustA (ls : List (List Int)) (l cs ds : List Int) : List Int := if someG ls l cs && someG ls l ds then mustA_v ls l cs ds else []
theorem mustA_no {ls : List (List Int)} {l cs ds : List Int} (h : (someG ls l cs && someG ls l ds) = false) : mustA ls l cs ds = [] := by unfold mustA; rw [h]; rfl
theorem mustA_yes {ls : List (List Int)} {l cs ds : List Int} (h : (someG ls l cs && someG ls l ds) = true) : mustA ls l cs ds = mustA_v ls l cs ds := by unfold mustA; rw [h]; rfl
theorem mustA_short (ls : List (List Int)) (l cs ds : List Int) : (mustA ls l cs ds).length ≤ 1000000 := by
  rcases h : (someG ls l cs && someG ls l ds) with _ | _
  · rw [mustA_no h]; simp
  · rw [mustA_yes h]
    have h1 := (some_yes2 h).1.high
    have h2 := (some_yes2 h).1.same
    exact Nat.le_trans (List.length_filter_le _ _) (by omega)

end Go.Proofs.Ytnkkbleebfijgaa

/- Marks as mathematics; markUsers again, with what it leaves as it was. -/
namespace Go.Proofs.Ytnkkbleebfijgaa
open Go.RowKit Pth

theorem Up.congr {ls : List (List Int)} {l : List Int} (hg : GoodP ls l) {P Q : Int → Prop} (h : ∀ z ∈ l, P z → Q z) {y : Int} (hy : y ∈ l) (hu : Up ls P y) : Up ls Q y := by
  induction hu with
  | base hp => exact .base (h _ hy hp)
  | @step k x h0 hx _ ih =>
    obtain ⟨i, hi, rfl⟩ := List.getElem_of_mem hy
    exact .step h0 hx (ih (List.mem_of_mem_take (hg.needs_take hi hx)))
theorem Dn.congr {ls : List (List Int)} {l : List Int} (hg : GoodP ls l) {P Q : Int → Prop} (h : ∀ z ∈ l, P z → Q z) (hP : ∀ z, P z → z ∈ l) {y : Int} (hu : Dn ls P y) : Dn ls Q y := by
  have key : ∀ {y}, Dn ls P y → y ∈ l := by
    intro y hy
    cases hy with
    | base hp => exact hP _ hp
    | @step k u h0 hx _ =>
      obtain ⟨i, hi, rfl⟩ := List.getElem_of_mem (hg.all.2 ⟨h0, needs_in h0 hx⟩)
      exact List.mem_of_mem_take (hg.needs_take hi hx)
  induction hu with
  | base hp => exact .base (h _ (hP _ hp) hp)
  | step h0 hx _ ih => exact .step h0 hx ih
theorem markB_set {bs : List Bool} {u : Nat} {b : Bool} {z : Int} (hu : u < bs.length) (hz : 0 ≤ z) : markB (bs.set u b) z = if z = (u : Int) then b else markB bs z := by
  obtain ⟨n, rfl⟩ : ∃ n : Nat, z = n := ⟨z.toNat, by omega⟩
  unfold markB
  rw [show ((n : Int)).toNat = n by omega, List.getD_eq_getElem?_getD, List.getD_eq_getElem?_getD, List.getElem?_set]
  by_cases h : n = u
  · subst h; simp [hu]
  · rw [if_neg (fun e => h e.symm), if_neg (by omega)]
theorem markOne_mem {u : Nat} {nd : List Int} (hn : (u : Int) ∉ nd) (h0 : ∀ x ∈ nd, 0 ≤ x) : ∀ {bs : List Bool} (_ : u < bs.length) {y : Int} (_ : 0 ≤ y), markB (markOne u bs nd) y = true ↔ markB bs y = true ∨ (y = (u : Int) ∧ ∃ x ∈ nd, markB bs x = true) := by
  induction nd with
  | nil => intro bs hu y hy; simp [markOne]
  | cons x r ih =>
    intro bs hu y hy
    rw [List.mem_cons, not_or] at hn
    have hx0 := h0 x (by simp)
    show markB (markOne u (bs.set u (markB bs u || markB bs x)) r) y = true ↔ _
    have hlen : u < (bs.set u (markB bs u || markB bs x)).length := by rw [List.length_set]; exact hu
    rw [ih hn.2 (fun z hz => h0 z (by simp [hz])) hlen hy, markB_set hu hy]
    have key : ∀ z ∈ r, markB (bs.set u (markB bs u || markB bs x)) z = markB bs z := fun z hz => by
      rw [markB_set hu (h0 z (by simp [hz])), if_neg (fun e => hn.2 (by rw [← e]; exact hz))]
    by_cases hyu : y = (u : Int)
    · subst hyu
      rw [if_pos rfl, Bool.or_eq_true]
      constructor
      · rintro ((h | h) | ⟨_, z, hz, h⟩)
        · exact .inl h
        · exact .inr ⟨rfl, x, by simp, h⟩
        · exact .inr ⟨rfl, z, by simp [hz], by rw [← key z hz]; exact h⟩
      · rintro (h | ⟨_, z, hz, h⟩)
        · exact .inl (.inl h)
        · rw [List.mem_cons] at hz
          rcases hz with rfl | hz
          · exact .inl (.inr h)
          · exact .inr ⟨rfl, z, hz, by rw [key z hz]; exact h⟩
    · rw [if_neg hyu]
      constructor
      · rintro (h | ⟨h, _⟩)
        · exact .inl h
        · exact absurd h hyu
      · rintro (h | ⟨h, _⟩)
        · exact .inl h
        · exact absurd h hyu
theorem markUs_up {ls : List (List Int)} {l : List Int} (hg : GoodP ls l) {bs : List Bool} (hb : bs.length = ls.length) : ∀ y ∈ l, (markB (markUs ls bs l) y = true ↔ Up ls (fun z => markB bs z = true) y) := by
  have := up_whole hg (P := fun z => markB bs z = true) (S := fun k y => markB (markUs ls bs (l.take k)) y = true) (fun y _ => by simp [markUs]) (fun k hk y hy => by
    show markB (markUs ls bs (l.take (k + 1))) y = true ↔ _
    have hr := hg.range _ (List.getElem_mem hk)
    obtain ⟨u, hu⟩ : ∃ u : Nat, l[k] = u := ⟨l[k].toNat, by omega⟩
    have hs := hg.self hk
    have hn0 : ∀ x ∈ needsAt ls l[k], 0 ≤ x := fun x hx => (hg.range x (List.mem_of_mem_take (hg.needs_take hk hx))).1
    rw [List.take_succ_eq_append_getElem hk, markUs_snoc]
    rw [hu] at hs hn0 ⊢
    rw [show ((u : Int)).toNat = u by omega]
    exact markOne_mem hs hn0 (by rw [markUs_len, hb]; omega) (hg.range y hy).1)
  simpa using this

/-- The marks of each of some, one by one. -/
def marksOf (F : List (List Int) → List Int → Nat → List Bool → List Bool) (ls : List (List Int)) (l cs : List Int) : List Bool := cs.foldl (fun b c => F ls l c.toNat b) (List.replicate ls.length false)
theorem marksOf_snoc (F : List (List Int) → List Int → Nat → List Bool → List Bool) (ls : List (List Int)) (l cs : List Int) (c : Int) : marksOf F ls l (cs ++ [c]) = F ls l c.toNat (marksOf F ls l cs) := by
  unfold marksOf; rw [List.foldl_append]; rfl
def usersF (ls : List (List Int)) (l : List Int) (t : Nat) (bs : List Bool) : List Bool := markUs ls (bs.set t true) l
theorem marksOf_len {F : List (List Int) → List Int → Nat → List Bool → List Bool} (hF : ∀ ls l t bs, (F ls l t bs).length = bs.length) (ls : List (List Int)) (l : List Int) (cs : List Int) : (marksOf F ls l cs).length = ls.length := by
  have key : ∀ (cs : List Int) (bs : List Bool), (cs.foldl (fun b c => F ls l c.toNat b) bs).length = bs.length := by
    intro cs
    induction cs with
    | nil => intro bs; rfl
    | cons c r ih => intro bs; rw [List.foldl_cons, ih, hF]
  unfold marksOf
  rw [key, List.length_replicate]
theorem usersF_len (ls : List (List Int)) (l : List Int) (t : Nat) (bs : List Bool) : (usersF ls l t bs).length = bs.length := by unfold usersF; rw [markUs_len, List.length_set]
theorem markB_none (n : Nat) (y : Int) : markB (List.replicate n false) y = false := by
  unfold markB
  rw [List.getD_eq_getElem?_getD, List.getElem?_replicate]
  split <;> rfl
theorem rev_ind {motive : List Int → Prop} (h0 : motive []) (hs : ∀ cs c, motive cs → motive (cs ++ [c])) : ∀ cs, motive cs := by
  intro cs
  have : ∀ n (cs : List Int), cs.length = n → motive cs := by
    intro n
    induction n with
    | zero => intro cs h; rw [List.eq_nil_of_length_eq_zero h]; exact h0
    | succ n ih =>
      intro cs h
      have hne : cs ≠ [] := fun e => by rw [e] at h; simp at h
      rw [← List.dropLast_concat_getLast hne]
      exact hs _ _ (ih _ (by rw [List.length_dropLast]; omega))
  exact this _ cs rfl
theorem users_marks {ls : List (List Int)} {l : List Int} (hg : GoodP ls l) : ∀ cs : List Int, (∀ x ∈ cs, 0 ≤ x ∧ x < (ls.length : Int)) → ∀ y ∈ l, (markB (marksOf usersF ls l cs) y = true ↔ Up ls (· ∈ cs) y) := by
  refine rev_ind ?_ ?_
  · intro _ y _
    show markB (List.replicate ls.length false) y = true ↔ _
    rw [markB_none]
    constructor
    · intro h; cases h
    · intro h; exact absurd (h.mono (Q := fun _ => False) (fun x hx => by simp at hx)) Up.none
  · intro cs c ih hc y hy
    have hcr := hc c (by simp)
    have ihc := ih (fun x hx => hc x (by simp [hx]))
    have hlen := marksOf_len usersF_len ls l cs
    obtain ⟨t, rfl⟩ : ∃ t : Nat, c = t := ⟨c.toNat, by omega⟩
    rw [marksOf_snoc, show ((t : Int)).toNat = t by omega, usersF, markUs_up hg (by rw [List.length_set, hlen]) y hy]
    have hset : ∀ z ∈ l, (markB ((marksOf usersF ls l cs).set t true) z = true ↔ z = (t : Int) ∨ Up ls (· ∈ cs) z) := fun z hz => by
      rw [markB_set (by omega) (hg.range z hz).1, ← ihc z hz]
      by_cases h : z = (t : Int)
      · simp [h]
      · rw [if_neg h]; simp [h]
    constructor
    · intro h
      refine Up.twice (P := fun z => z = (t : Int) ∨ Up ls (· ∈ cs) z) (fun x hx => ?_) (Up.congr hg (fun z hz h => (hset z hz).1 h) hy h)
      rcases hx with rfl | hx
      · exact .base (by simp)
      · exact hx.mono (fun z hz => by simp [hz])
    · intro h
      refine Up.congr hg (fun z hz h => (hset z hz).2 ?_) hy h
      rw [List.mem_append, List.mem_singleton] at h
      rcases h with h | h
      · exact .inr (.base h)
      · exact .inl h
theorem users_told {ls : List (List Int)} {l cs : List Int} (hg : GoodP ls l) (hc : ∀ x ∈ cs, 0 ≤ x ∧ x < (ls.length : Int)) : ∀ y ∈ l, markB (marksOf usersF ls l cs) y = hasL (touchS ls cs) y := by
  intro y hy
  rw [Bool.eq_iff_iff, users_marks hg cs hc y hy, hasL, decide_eq_true_iff, mem_touchS]
  exact ⟨fun h => ⟨hg.range y hy, h⟩, fun h => h.2⟩

set_option maxRecDepth 20000 in
set_option maxHeartbeats 8000000 in
theorem markUsersG_any (ls : List (List Int)) (l st : List Int) (t : Nat) (bs : List Bool) (v s : Value) (gm cm : Nat) (w0 w : World) (hst : GraphV w0 v ls l) (hsr : RowV w0 s (I st)) (hb0 : Below w0.heap.size w0 w)
    (hown : w.ownsRow w0.heap.size 4 1 (.slice (some ⟨gm, 0, none⟩) bs.length cm) bs.length (Bo bs)) (hbl : bs.length = ls.length) (h10 : ls.length ≤ 10) (ht : t < ls.length) (hin : ∀ x ∈ st, 0 ≤ x ∧ x < (ls.length : Int)) (hnd : ∀ k (hk : k < ls.length), ∀ x ∈ ls[k], 0 ≤ x ∧ x < (ls.length : Int)) :
    Calls Try.prog 96 #[v, s, .int .i64 (t : Int), .slice (some ⟨gm, 0, none⟩) bs.length cm] w fun e w' => e = .returned (.tuple #[]) ∧ Below w0.heap.size w0 w' ∧ w'.ownsRow w0.heap.size 4 1 (.slice (some ⟨gm, 0, none⟩) bs.length cm) bs.length (Bo (markUs ls (bs.set t true) st)) ∧ w.grownBy w' (some gm) := by
  have HV := Lib.hid hst
  have HS := Lib.hid hsr
  obtain ⟨B, hBB⟩ : ∃ B, B = w0.heap.size := ⟨_, rfl⟩
  rw [← hBB] at hb0 hown
  rw [← hBB]
  have hB : B ≤ w.heap.size := by have := hb0.size; omega
  have HB00 := Lib.hid hb0
  have HBB := Lib.hid hBB
  obtain ⟨nv, ov, rfl, h1, h2⟩ := hst
  obtain ⟨an, cn, rfl, hn1, hn2, hat⟩ := h1.lists
  obtain ⟨ao, co, rfl, ho1, ho2, _⟩ := h2.ints
  obtain ⟨sa, sc, rfl, hs1, hs2, hsat⟩ := hsr.ints
  clear h1 h2 hsr
  unfold maxLen at hn2 ho2 hs2
  have HAT := Lib.hid hat
  have HSA := Lib.hid hsat
  have HIN := Lib.hid hin
  have HND := Lib.hid hnd
  clear hat hsat hin hnd hb0 hBB
  obtain ⟨wa, hwa⟩ : ∃ wa, wa = w.alloc (.cells #[.slice an ls.length cn, .slice ao l.length co] 27) := ⟨_, rfl⟩
  have P0 : Hid (Blk2 wa w.heap.size 27 (.slice an ls.length cn) (.slice ao l.length co)) := by rw [hwa]; exact Blk2.new
  have HA : Hid (Below B w0 wa) := by rw [hwa]; exact HB00.out.alloc hB _
  have hgl := hown.lt gm rfl
  have hBa : B ≤ wa.heap.size := by rw [hwa]; simp; omega
  have hcm : bs.length ≤ cm ∧ cm ≤ 2 ^ 63 - 1 := by
    rcases hown.2 with ⟨h, _⟩ | ⟨g, cap, cur, hv, _, _, hcap, hmx, _⟩
    · injection h with h _ _; cases h
    · unfold maxLen at hmx; injection hv with _ _ h3; omega
  obtain ⟨hcm1, hcm2⟩ := hcm
  have ho1' := hown.alloc (.cells #[.slice an ls.length cn, .slice ao l.length co] 27)
  have htb : t < bs.length := by omega
  have htb2 : (t : Int) < (bs.length : Int) := by omega
  have hfz := ho1'.frozenAt t
  have hcz : (w.alloc (.cells #[.slice an ls.length cn, .slice ao l.length co] 27)).cell? ⟨gm, t, none⟩ = some (.bool bs[t]) := by rw [ho1'.cellAt t (by omega), Bo_get? htb]
  have hst := ho1'.stored t (.bool true)
  rw [Bo_set] at hst
  obtain ⟨w2, hw2⟩ : ∃ w2, w2 = (w.alloc (.cells #[.slice an ls.length cn, .slice ao l.length co] 27)).setCell ⟨gm, t, none⟩ (.bool true) := ⟨_, rfl⟩
  rw [← hw2, ← hwa] at hst
  have HO0 := Lib.hid hst.1
  have HB0 := Lib.hid (HA.out.trans (only_below hst.2 hgl.1 hBa))
  have HG0 : Hid (w.grownBy w2 (some gm)) := grown_trans (below_grown (show Below w.heap.size w wa by rw [hwa]; exact (Below.refl w.heap.size w).alloc (Nat.le_refl _) _)) hst.2
  have HP0 := Lib.hid (P0.out.beside hst.2 (by intro e; have := Option.some.inj e; omega))
  have HW2 := Lib.hid hw2
  have HBL := Lib.hid hbl
  have hg1 : B ≤ gm := hgl.1
  have hg2 : gm < w.heap.size := hgl.2
  have HG2 := Lib.hid hg2
  clear hown ho1' hst hw2 hwa hbl hgl hg2
  go_enter Try.func96, Try.ntmps96
  go_wp2_with fail
  rw [← HW2.out]
  clear hfz hcz HW2
  have HLN := Lib.hid (fun k => markUs_len ls (st.take k) (bs.set t true))
  go_loopw [17] (fun i wr => ∃ k : Nat, k ≤ st.length ∧ i = .int .i64 (k : Int) ∧ Hid (w.grownBy wr (some gm)) ∧ Hid (Below B w0 wr) ∧ Hid (Blk2 wr w.heap.size 27 (.slice an ls.length cn) (.slice ao l.length co)) ∧ Hid (wr.ownsRow B 4 1 (.slice (some ⟨gm, 0, none⟩) bs.length cm) bs.length (Bo (markUs ls (bs.set t true) (st.take k))))) (fun i _ => st.length - (intOf i).toNat)
  case atStart => exact ⟨0, Nat.zero_le _, rfl, HG0, HB0, HP0, HO0⟩
  case round =>
    clear HB0 HP0 HO0 HG0
    obtain ⟨k, hk, rfl, HG, HB, HP, HO⟩ := hrel
    by_cases hlt : k < st.length
    · obtain ⟨un, hun⟩ : ∃ un : Nat, st[k] = un := ⟨st[k].toNat, by have := HIN.out st[k] (List.getElem_mem hlt); omega⟩
      have hul : un < ls.length := by have := HIN.out st[k] (List.getElem_mem hlt); omega
      have hul2 : (un : Int) < (ls.length : Int) := by omega
      obtain ⟨g, o, hgo, hgg, hcell0⟩ := HSA.out k hlt
      subst hgo
      have hcell : wr.cell? ⟨g, o + k, none⟩ = some (.int .i64 (un : Int)) := by rw [HB.out.cell (p := ⟨g, o + k, none⟩) (by rw [HBB.out]; exact hgg), hcell0, hun]
      obtain ⟨d0, d1⟩ := HP.out.cells
      obtain ⟨g1, o1, a2, c2, hgn, hg1', hcell1, hrow⟩ := HAT.out un hul
      have hcn : wr.cell? ⟨g1, o1 + un, none⟩ = some (.slice a2 ls[un].length c2) := by rw [HB.out.cell (p := ⟨g1, o1 + un, none⟩) (by rw [HBB.out]; exact hg1'), hcell1]
      have hnl : ls[un].length ≤ c2 ∧ c2 ≤ 2 ^ 63 - 1 := by
        obtain ⟨_, _, h, h', h4, _⟩ := hrow.ints
        unfold maxLen at h4
        injection h with _ _ h3; omega
      obtain ⟨hnl, hc2⟩ := hnl
      subst hgn
      have HBK : Hid (markUs ls (bs.set t true) (st.take (k + 1)) = markOne un (markUs ls (bs.set t true) (st.take k)) ls[un]) := by
        show _ = _
        rw [List.take_succ_eq_append_getElem hlt, markUs_snoc, hun, needsAt_get hul]
        rfl
      have hbk : (markUs ls (bs.set t true) (st.take k)).length = bs.length := by rw [markUs_len, List.length_set]
      have HRW : Hid (∀ W, Below B w0 W → ∀ m (hm : m < ls[un].length), ∃ gr or, a2 = some ⟨gr, or, none⟩ ∧ W.cell? ⟨gr, or + m, none⟩ = some (.int .i64 ls[un][m])) := by
        intro W hW m hm
        obtain ⟨_, _, h, _, _, hc⟩ := hrow.ints
        injection h with h1 _ _
        obtain ⟨gr, or, h2, h3, h4⟩ := hc m hm
        exact ⟨gr, or, by rw [h1, h2], by rw [hW.cell (p := ⟨gr, or + m, none⟩) (by rw [HBB.out]; exact h3), h4]⟩
      generalize markUs ls (bs.set t true) (st.take k) = bk at *
      have HBKL := Lib.hid hbk
      clear hcell0 hcell1 hrow hun hbk
      go_wp2_with fail
      clear hcell hcn d0 d1
      go_loopw [27] (fun i wz => ∃ m : Nat, m ≤ ls[un].length ∧ i = .int .i64 (m : Int) ∧ Hid (w.grownBy wz (some gm)) ∧ Hid (Below B w0 wz) ∧ Hid (Blk2 wz w.heap.size 27 (.slice (some ⟨g1, o1, none⟩) ls.length cn) (.slice ao l.length co)) ∧ Hid (wz.ownsRow B 4 1 (.slice (some ⟨gm, 0, none⟩) bs.length cm) bs.length (Bo (markOne un bk (ls[un].take m))))) (fun i _ => ls[un].length - (intOf i).toNat)
      case atStart => exact ⟨0, Nat.zero_le _, rfl, HG, HB, HP, HO⟩
      case round =>
        clear HB HP HO HG
        obtain ⟨m, hm, rfl, HG, HB, HP, HO⟩ := hrel
        by_cases hlt2 : m < ls[un].length
        · have hxm := HND.out un hul ls[un][m] (List.getElem_mem hlt2)
          obtain ⟨kn, hkn⟩ : ∃ kn : Nat, ls[un][m] = kn := ⟨ls[un][m].toNat, by omega⟩
          have hkl : kn < bs.length := by have := HBL.out; omega
          have hul3 : un < bs.length := by have := HBL.out; omega
          have hkl2 : (kn : Int) < (bs.length : Int) := by omega
          have hul4 : (un : Int) < (bs.length : Int) := by omega
          obtain ⟨gr, or, hra, hcr⟩ := HRW.out wr HB.out m hlt2
          subst hra
          rw [hkn] at hcr
          have hln : (markOne un bk (ls[un].take m)).length = bs.length := by rw [markOne_len, HBKL.out]
          have HE : Hid (markOne un bk (ls[un].take (m + 1)) = (markOne un bk (ls[un].take m)).set un (markB (markOne un bk (ls[un].take m)) un || markB (markOne un bk (ls[un].take m)) kn)) := by
            show _ = _
            rw [List.take_succ_eq_append_getElem hlt2, markOne_snoc, hkn]
          generalize markOne un bk (ls[un].take m) = bo at *
          have hcu : wr.cell? ⟨gm, un, none⟩ = some (.bool (markB bo un)) := by rw [HO.out.cellAt un (by omega), Bo_get? (by omega), markB_get (by omega)]
          have hck : wr.cell? ⟨gm, kn, none⟩ = some (.bool (markB bo kn)) := by rw [HO.out.cellAt kn (by omega), Bo_get? (by omega), markB_get (by omega)]
          have hf2 := HO.out.frozenAt un
          have hst := HO.out.stored un (.bool (markB bo un || markB bo kn))
          rw [Bo_set, ← HE.out] at hst
          have HO1 := Lib.hid hst.1
          have HG1 := Lib.hid (grown_trans HG.out hst.2)
          have HB1 := Lib.hid (HB.out.trans (only_below hst.2 hg1 (by rw [HBB.out]; exact HB.out.size)))
          have HP1 := Lib.hid (HP.out.beside hst.2 (by intro e; have := Option.some.inj e; have := HG2.out; omega))
          clear hst HE hln hkn hxm HO HP HB
          generalize markB bo (un : Int) = bu at *
          generalize markB bo (kn : Int) = bn at *
          cases bu with
          | true =>
            go_wp2_with fail
            go_roundw
            case rel => exact ⟨m + 1, by omega, by go_num, HG1, HB1, HP1, HO1⟩
            case measure => simp [intOf]; omega
          | false =>
            rw [Bool.false_or] at HO1 HB1 HP1 HG1
            go_wp2_with fail
            go_roundw
            case rel => exact ⟨m + 1, by omega, by go_num, HG1, HB1, HP1, HO1⟩
            case measure => simp [intOf]; omega
        · rw [List.take_of_length_le (by omega), ← HBK.out] at HO
          go_wp2_with fail
          go_roundw
          case rel => exact ⟨k + 1, by omega, by go_num, HG, HB, HP, HO⟩
          case measure => simp [intOf]; omega
    · rw [List.take_of_length_le (by omega)] at HO
      go_wp2_with fail
      go_end0
      exact ⟨rfl, HB.out, HO.out, HG.out⟩
end Go.Proofs.Ytnkkbleebfijgaa

/- Walks: markedTest at a function value, touchedTest, TouchedBy of the program. -/
namespace Go.Proofs.Ytnkkbleebfijgaa
open Go.RowKit Pth

theorem Blk1.beside {w w' : World} {b t : Nat} {x : Value} {r : Option Nat} (h : Blk1 w b t x) (hg : w.grownBy w' r) (hne : r ≠ some b) : Blk1 w' b t x := (hg.block b (lt_of_block h) (fun e => hne e.symm)).trans h
theorem TestS.congr {w : World} {fv : Value} {D : Int → Prop} {p q : Int → Bool} (h : TestS w fv D p) (he : ∀ x, D x → p x = q x) : TestS w fv D q := by
  obtain ⟨K, cap, h1, h2, h3⟩ := h
  exact ⟨K, cap, h1, h2, fun W hW x hx => by rw [← he x hx]; exact h3 W hW x hx⟩
theorem TestV.congr {w : World} {fv : Value} {D : Int → Prop} {p q : Int → Bool} (h : TestV w fv D p) (he : ∀ x, D x → p x = q x) : TestV w fv D q := by
  obtain ⟨K, cap, h1, h2, h3⟩ := h
  exact ⟨K, cap, h1, h2, fun W hW x hx => by rw [← he x hx]; exact h3 W hW x hx⟩

/-- A function that marks: what it makes of the marks, and that nothing else has turned. -/
def MarkC (K : FuncId) (F : List (List Int) → List Int → Nat → List Bool → List Bool) : Prop :=
  ∀ (ls : List (List Int)) (l : List Int) (t : Nat) (bs : List Bool) (nv ov : Value) (gm cm : Nat) (w0 w : World), GoodG ls l → GraphV w0 (.agg #[nv, ov]) ls l → Below w0.heap.size w0 w →
    w.ownsRow w0.heap.size 4 1 (.slice (some ⟨gm, 0, none⟩) bs.length cm) bs.length (Bo bs) → bs.length = ls.length → t < ls.length →
    Calls Try.prog K #[.agg #[nv, ov], ov, .int .i64 (t : Int), .slice (some ⟨gm, 0, none⟩) bs.length cm] w fun e w' => e = .returned (.tuple #[]) ∧ w'.ownsRow w0.heap.size 4 1 (.slice (some ⟨gm, 0, none⟩) bs.length cm) bs.length (Bo (F ls l t bs)) ∧ w.grownBy w' (some gm)
theorem users_mark : MarkC 96 usersF := by
  intro ls l t bs nv ov gm cm w0 w hG hst hb hown hbl ht
  refine (markUsersG_any ls l l t bs _ ov gm cm w0 w hst hst.parts.2 hb hown hbl hG.high ht (fun x hx => by have := hG.tasks x hx; omega) (good_in hG)).mono ?_
  rintro e w' ⟨he, _, ho, hg⟩
  exact ⟨he, ho, hg⟩

end Go.Proofs.Ytnkkbleebfijgaa

/- Walks: slices.Backward and markNeeds, a range over a function, inside the wide fence. -/
namespace Go.Proofs.Ytnkkbleebfijgaa
open Go.RowKit Go.Shelf Pth

attribute [local go_sem] Oper.semAt_some

/-- A place and what stands there, of a list. -/
abbrev InL (zs : List Int) : Type := { p : Nat × Int // p.2 ∈ zs }
def inAt (zs : List Int) (hne : 0 < zs.length) (i : Nat) : InL zs := if h : i < zs.length then ⟨(i, zs[i]), List.getElem_mem h⟩ else ⟨(0, zs[0]), List.getElem_mem hne⟩
theorem inAt_is {zs : List Int} {hne : 0 < zs.length} {i : Nat} (h : i < zs.length) : (inAt zs hne i).1.1 = i ∧ (inAt zs hne i).1.2 = zs[i] := by
  unfold inAt; rw [dif_pos h]; exact ⟨rfl, rfl⟩
/-- What comes from the back on, down to a place. -/
def downL (zs : List Int) (hne : 0 < zs.length) (j : Nat) : List (InL zs) := ((List.range zs.length).drop j).reverse.map (inAt zs hne)
theorem downL_end (zs : List Int) (hne : 0 < zs.length) : downL zs hne zs.length = [] := by unfold downL; rw [List.drop_of_length_le (by simp)]; rfl
theorem downL_next (zs : List Int) (hne : 0 < zs.length) {m : Nat} (hm : m < zs.length) : downL zs hne m = downL zs hne (m + 1) ++ [inAt zs hne m] := by
  unfold downL
  rw [List.drop_eq_getElem_cons (by simpa using hm), List.reverse_cons, List.map_append]
  simp
theorem downL_len (zs : List Int) (hne : 0 < zs.length) (j : Nat) : (downL zs hne j).length = zs.length - j := by unfold downL; simp
/-- Nothing but one block of those that lay has turned. -/
def KeepN (N g : Nat) (A B : World) : Prop := ∀ i, i < N → i ≠ g → B.heap[i]? = A.heap[i]?
theorem KeepN.refl (N g : Nat) (A : World) : KeepN N g A A := fun _ _ _ => rfl
theorem KeepN.trans {N g : Nat} {A B C : World} (h : KeepN N g A B) (k : KeepN N g B C) : KeepN N g A C := fun i hi hn => (k i hi hn).trans (h i hi hn)
theorem cell_heap {A B : World} {i o : Nat} (h : B.heap[i]? = A.heap[i]?) : B.cell? ⟨i, o, none⟩ = A.cell? ⟨i, o, none⟩ := by
  unfold World.cell?
  simp only [h]
theorem KeepN.cell {N g i o : Nat} {A B : World} (h : KeepN N g A B) (hi : i < N) (hn : i ≠ g) : B.cell? ⟨i, o, none⟩ = A.cell? ⟨i, o, none⟩ := cell_heap (h i hi hn)
theorem keepN_b {N g : Nat} {w : World} (hn : N ≤ w.heap.size) (W : World) (l : Nat) (o o' : Obj) (hl : w.heap.size ≤ l) (_ : W.heap[l]? = some o) (_ : o.isCells = false) (_ : o.isWalk = false) : KeepN N g W (W.putObj l o') := fun i hi _ => World.putObj_heap_other (fun e => by omega)

set_option maxRecDepth 100000 in
set_option maxHeartbeats 4000000 in
theorem back1_in (n : Nat) (hn : 1 ≤ n) (l Bs N gm b off cap : Nat) (zs : List Int) (hlen : zs.length ≤ 1000) (hne : 0 < zs.length) (hb : b < N) (hbg : b ≠ gm) (hB : Bs < N) (hBg : Bs ≠ gm) (J Jx : List (InL zs) → World → Prop)
    (hY : ∀ pre x W, J pre W → pre.length < zs.length → YieldAt Fence.wide (n - 1) Try.prog l #[.int .i64 (x.1.1 : Int), .int .i64 x.1.2] W fun e W' =>
      (e = .returned (.bool true) ∧ J (pre ++ [x]) W' ∧ KeepN N gm W W') ∨ (e = .returned (.bool false) ∧ Jx (pre ++ [x]) W'))
    (W : World) (hBs : W.cell? ⟨Bs, 0, none⟩ = some (.slice (some ⟨b, off, none⟩) zs.length cap)) (hcap : zs.length ≤ cap) (hc : ∀ j (hj : j < zs.length), W.cell? ⟨b, off + j, none⟩ = some (.int .i64 zs[j])) (h0 : J [] W) :
    CallsIn Fence.wide n Try.prog 131 #[.func (.yield l) #[] #[], .pointer (some ⟨Bs, 0, none⟩)] W fun e W' => (∃ v, e = .returned v) ∧
      ((∃ ys, ys = downL zs hne 0 ∧ J ys W') ∨ (∃ pre, True ∧ Jx pre W')) := by
  refine callsIn_of_wp Try.func131 rfl trivial ?_ rfl
  simp only [Try.ntmps131, List.size_toArray, List.length_cons, List.length_nil, Nat.reduceAdd, Nat.reduceSub, Array.replicate_succ, Array.replicate_zero, List.push_toArray, List.append_toArray, List.nil_append, List.cons_append]
  gi_wp2
  gi_loopw [3] (fun i wr => ∃ j : Nat, j ≤ zs.length ∧ i = .int .i64 ((j : Int) - 1) ∧ J (downL zs hne j) wr ∧ KeepN N gm W wr)
    (fun i _ => (intOf i + 1).toNat)
  case atStart => exact ⟨zs.length, Nat.le_refl _, by go_num, by rw [downL_end]; exact h0, KeepN.refl _ _ _⟩
  case round =>
    obtain ⟨j, hj, rfl, hJs, hk⟩ := hrel
    have hBs1 := (hk.cell (o := 0) hB hBg).trans hBs
    by_cases hz : 0 < j
    · obtain ⟨m, rfl⟩ : ∃ m, j = m + 1 := ⟨j - 1, by omega⟩
      have hmm : (((m + 1 : Nat) : Int) - 1) = (m : Int) := by omega
      rw [hmm]
      have hml : m < zs.length := by omega
      have hml2 : (m : Int) < (zs.length : Int) := by omega
      have hcm := (hk.cell (o := off + m) hb hbg).trans (hc m hml)
      obtain ⟨x, hxf, hx1, hx2⟩ : ∃ x, x = inAt zs hne m ∧ x.1.1 = m ∧ x.1.2 = zs[m] := ⟨_, rfl, inAt_is hml⟩
      have HXF := Lib.hid hxf
      obtain ⟨fn, tmps, assign, body, hy, hR⟩ := hY _ x wr hJs (by rw [downL_len]; omega)
      rw [hx1, hx2] at hy
      clear hc hxf hx1 hx2
      generalize zs[m] = xv at *
      gi_wp2
      refine hR.mono ?_
      rintro e W3 (⟨rfl, hJ3, hk3⟩ | ⟨rfl, hJx3⟩)
      · gi_wp2
        go_roundw
        case rel => exact ⟨m, by omega, by go_num, by rw [downL_next zs hne hml, ← HXF.out]; exact hJ3, hk.trans hk3⟩
        case measure => simp [intOf]
      · gi_wp2
        refine bodyPost_ret (results_none rfl _ _ _) rfl ?_
        exact ⟨⟨_, rfl⟩, .inr ⟨_, trivial, hJx3⟩⟩
    · obtain rfl : j = 0 := by omega
      have hz0 : (((0 : Nat) : Int) - 1) = -1 := by omega
      rw [hz0]
      gi_wp2
      go_end0
      exact ⟨⟨_, rfl⟩, .inl ⟨_, rfl, hJs⟩⟩

set_option maxRecDepth 100000 in
set_option maxHeartbeats 1000000 in
theorem back_in (n : Nat) (a : Option Addr) (len cap : Nat) (w : World) :
    CallsIn Fence.wide n Try.prog 112 #[.slice a len cap] w fun e w' => e = .returned (.func (.func 131) #[] #[.pointer (some ⟨w.heap.size, 0, none⟩)]) ∧ w' = w.alloc (.cells #[.slice a len cap] 23) := by
  refine callsIn_of_wp Try.func112 rfl trivial ?_ rfl
  simp only [Try.ntmps112, List.size_toArray, List.length_cons, List.length_nil, Nat.reduceAdd, Nat.reduceSub, Array.replicate_succ, Array.replicate_zero, List.push_toArray, List.append_toArray, List.nil_append, List.cons_append]
  gi_wp2
  go_ret
  exact ⟨rfl, rfl⟩

theorem back_stops (n : Nat) (hn : 1 ≤ n) (Bs N gm b off cap : Nat) (zs : List Int) (hlen : zs.length ≤ 1000) (hne : 0 < zs.length) (hb : b < N) (hbg : b ≠ gm) (hB : Bs < N) (hBg : Bs ≠ gm) (w : World) (hN : N ≤ w.heap.size)
    (hBs : w.cell? ⟨Bs, 0, none⟩ = some (.slice (some ⟨b, off, none⟩) zs.length cap)) (hcap : zs.length ≤ cap) (hc : ∀ j (hj : j < zs.length), w.cell? ⟨b, off + j, none⟩ = some (.int .i64 zs[j])) :
    SeqStopsK Fence.wide n Try.prog 131 #[.pointer (some ⟨Bs, 0, none⟩)] (fun x : InL zs => #[Value.int .i64 (x.1.1 : Int), Value.int .i64 x.1.2]) (KeepN N gm) (fun ys => ys = downL zs hne 0) (fun _ => True) zs.length w := fun l J Jx W hW _ _ hY h0 => by
  exact back1_in n hn l Bs N gm b off cap zs hlen hne hb hbg hB hBg J Jx hY W ((hW.cell (p := ⟨Bs, 0, none⟩) (by show Bs < w.heap.size; omega)).trans hBs) hcap (fun j hj => (hW.cell (p := ⟨b, off + j, none⟩) (by show b < w.heap.size; omega)).trans (hc j hj)) h0
end Go.Proofs.Ytnkkbleebfijgaa

/- Marks of what is needed; markNeeds; neededTest and NeededFor of the program. -/
namespace Go.Proofs.Ytnkkbleebfijgaa
open Go.RowKit Go.Shelf Pth

attribute [local go_sem] Oper.semAt_some

def nd1 (bs : List Bool) (nd : List Int) : List Bool := nd.foldl (fun b x => b.set x.toNat true) bs
/-- What one needs is marked, where it is marked itself. -/
def markStep (ls : List (List Int)) (b : List Bool) (x : Int) : List Bool := if markB b x then nd1 b (needsAt ls x) else b
def markNd (ls : List (List Int)) (bs : List Bool) (st : List Int) : List Bool := st.foldr (fun x b => markStep ls b x) bs
theorem nd1_len (nd : List Int) : ∀ bs, (nd1 bs nd).length = bs.length := by
  unfold nd1
  induction nd with
  | nil => intro bs; rfl
  | cons x r ih => intro bs; rw [List.foldl_cons, ih, List.length_set]
theorem nd1_snoc (bs : List Bool) (nd : List Int) (x : Int) : nd1 bs (nd ++ [x]) = (nd1 bs nd).set x.toNat true := by unfold nd1; rw [List.foldl_append]; rfl
theorem markStep_len (ls : List (List Int)) (b : List Bool) (x : Int) : (markStep ls b x).length = b.length := by
  unfold markStep; split
  · exact nd1_len _ _
  · rfl
theorem markNd_len (ls : List (List Int)) (st : List Int) (bs : List Bool) : (markNd ls bs st).length = bs.length := by
  induction st with
  | nil => rfl
  | cons x r ih => show (markStep ls (markNd ls bs r) x).length = _; rw [markStep_len, ih]
theorem markNd_drop {ls : List (List Int)} {bs : List Bool} {l : List Int} {k : Nat} (hk : k < l.length) : markNd ls bs (l.drop k) = markStep ls (markNd ls bs (l.drop (k + 1))) l[k] := by
  rw [List.drop_eq_getElem_cons hk]; rfl
theorem nd1_mem {nd : List Int} (h0 : ∀ x ∈ nd, 0 ≤ x) : ∀ {bs : List Bool} (_ : ∀ x ∈ nd, x < (bs.length : Int)) {y : Int} (_ : 0 ≤ y), markB (nd1 bs nd) y = true ↔ markB bs y = true ∨ y ∈ nd := by
  induction nd with
  | nil => intro bs _ y _; simp [nd1]
  | cons x r ih =>
    intro bs hb y hy
    have hx0 := h0 x (by simp)
    have hxb := hb x (by simp)
    show markB (nd1 (bs.set x.toNat true) r) y = true ↔ _
    rw [ih (fun z hz => h0 z (by simp [hz])) (fun z hz => by rw [List.length_set]; exact hb z (by simp [hz])) hy, markB_set (by omega) hy, show ((x.toNat : Nat) : Int) = x by omega, List.mem_cons]
    by_cases h : y = x
    · simp [h]
    · rw [if_neg h]; simp [h]
theorem markStep_mem {ls : List (List Int)} {b : List Bool} {u : Int} (h : ∀ x ∈ needsAt ls u, 0 ≤ x ∧ x < (b.length : Int)) {y : Int} (hy : 0 ≤ y) : markB (markStep ls b u) y = true ↔ markB b y = true ∨ (markB b u = true ∧ y ∈ needsAt ls u) := by
  unfold markStep
  by_cases hu : markB b u = true
  · rw [if_pos hu, nd1_mem (fun x hx => (h x hx).1) (fun x hx => (h x hx).2) hy]; simp [hu]
  · rw [if_neg hu]; simp [hu]
theorem Dn.congr2 {ls : List (List Int)} {l : List Int} (hg : GoodP ls l) {P Q : Int → Prop} (h : ∀ z ∈ l, P z → Q z) {y : Int} (hy : y ∈ l) (hu : Dn ls P y) : Dn ls Q y := by
  induction hu with
  | base hp => exact .base (h _ hy hp)
  | step h0 hx _ ih => exact .step h0 hx (ih (hg.all.2 ⟨h0, needs_in h0 hx⟩))
theorem markNd_dn {ls : List (List Int)} {l : List Int} (hg : GoodP ls l) {bs : List Bool} (hb : bs.length = ls.length) : ∀ y ∈ l, (markB (markNd ls bs l) y = true ↔ Dn ls (fun z => markB bs z = true) y) := by
  have := dn_whole hg (P := fun z => markB bs z = true) (S := fun j y => markB (markNd ls bs (l.drop (l.length - j))) y = true) (fun y _ => by simp [markNd]) (fun k hk y hy => by
    show markB (markNd ls bs (l.drop (l.length - (l.length - k)))) y = true ↔ markB (markNd ls bs (l.drop (l.length - (l.length - (k + 1))))) y = true ∨ (markB (markNd ls bs (l.drop (l.length - (l.length - (k + 1))))) l[k] = true ∧ _)
    rw [show l.length - (l.length - k) = k by omega, show l.length - (l.length - (k + 1)) = k + 1 by omega, markNd_drop hk]
    have hr := hg.range _ (List.getElem_mem hk)
    refine markStep_mem (fun x hx => ?_) (hg.range y hy).1
    rw [markNd_len, hb]
    exact hg.range x (List.mem_of_mem_take (hg.needs_take hk hx)))
  simpa using this
def needsF (ls : List (List Int)) (l : List Int) (t : Nat) (bs : List Bool) : List Bool := markNd ls (bs.set t true) l
theorem needsF_len (ls : List (List Int)) (l : List Int) (t : Nat) (bs : List Bool) : (needsF ls l t bs).length = bs.length := by unfold needsF; rw [markNd_len, List.length_set]
theorem needs_marks {ls : List (List Int)} {l : List Int} (hg : GoodP ls l) : ∀ cs : List Int, (∀ x ∈ cs, 0 ≤ x ∧ x < (ls.length : Int)) → ∀ y ∈ l, (markB (marksOf needsF ls l cs) y = true ↔ Dn ls (· ∈ cs) y) := by
  refine rev_ind ?_ ?_
  · intro _ y _
    show markB (List.replicate ls.length false) y = true ↔ _
    rw [markB_none]
    constructor
    · intro h; cases h
    · intro h; exact absurd (h.mono (Q := fun _ => False) (fun x hx => by simp at hx)) Dn.none
  · intro cs c ih hc y hy
    have hcr := hc c (by simp)
    have ihc := ih (fun x hx => hc x (by simp [hx]))
    have hlen := marksOf_len needsF_len ls l cs
    obtain ⟨t, rfl⟩ : ∃ t : Nat, c = t := ⟨c.toNat, by omega⟩
    rw [marksOf_snoc, show ((t : Int)).toNat = t by omega, needsF, markNd_dn hg (by rw [List.length_set, hlen]) y hy]
    have hset : ∀ z ∈ l, (markB ((marksOf needsF ls l cs).set t true) z = true ↔ z = (t : Int) ∨ Dn ls (· ∈ cs) z) := fun z hz => by
      rw [markB_set (by omega) (hg.range z hz).1, ← ihc z hz]
      by_cases h : z = (t : Int)
      · simp [h]
      · rw [if_neg h]; simp [h]
    constructor
    · intro h
      refine Dn.twice (P := fun z => z = (t : Int) ∨ Dn ls (· ∈ cs) z) (fun x hx => ?_) (Dn.congr2 hg (fun z hz h => (hset z hz).1 h) hy h)
      rcases hx with rfl | hx
      · exact .base (by simp)
      · exact hx.mono (fun z hz => by simp [hz])
    · intro h
      refine Dn.congr2 hg (fun z hz h => (hset z hz).2 ?_) hy h
      rw [List.mem_append, List.mem_singleton] at h
      rcases h with h | h
      · exact .inr (.base h)
      · exact .inl h
theorem needs_told {ls : List (List Int)} {l cs : List Int} (hg : GoodP ls l) (hc : ∀ x ∈ cs, 0 ≤ x ∧ x < (ls.length : Int)) : ∀ y ∈ l, markB (marksOf needsF ls l cs) y = hasL (needS ls cs) y := by
  intro y hy
  rw [Bool.eq_iff_iff, needs_marks hg cs hc y hy, hasL, decide_eq_true_iff, mem_needS]
  exact ⟨fun h => ⟨hg.range y hy, h⟩, fun h => h.2⟩

/-- The marks behind so many rounds. -/
def ndPre (ls : List (List Int)) (bs : List Bool) {zs : List Int} (pre : List (InL zs)) : List Bool := pre.foldl (fun b p => markStep ls b p.1.2) bs
theorem ndPre_snoc (ls : List (List Int)) (bs : List Bool) {zs : List Int} (pre : List (InL zs)) (x : InL zs) : ndPre ls bs (pre ++ [x]) = markStep ls (ndPre ls bs pre) x.1.2 := by unfold ndPre; rw [List.foldl_append]; rfl
theorem ndPre_len (ls : List (List Int)) {zs : List Int} (pre : List (InL zs)) : ∀ bs : List Bool, (ndPre ls bs pre).length = bs.length := by
  induction pre with
  | nil => intro bs; rfl
  | cons x r ih => intro bs; show (ndPre ls (markStep ls bs x.1.2) r).length = _; rw [ih, markStep_len]
theorem ndPre_down (ls : List (List Int)) (bs : List Bool) (zs : List Int) (hne : 0 < zs.length) : ∀ d j, j + d = zs.length → ndPre ls bs (downL zs hne j) = markNd ls bs (zs.drop j) := by
  intro d
  induction d with
  | zero =>
    intro j hj
    obtain rfl : j = zs.length := by omega
    rw [downL_end, List.drop_length]
    rfl
  | succ d ih =>
    intro j hj
    have hjl : j < zs.length := by omega
    rw [downL_next zs hne hjl, ndPre_snoc, ih (j + 1) (by omega), (inAt_is hjl).2, markNd_drop hjl]
theorem ndPre_all (ls : List (List Int)) (bs : List Bool) (zs : List Int) (hne : 0 < zs.length) : ndPre ls bs (downL zs hne 0) = markNd ls bs zs := by
  rw [ndPre_down ls bs zs hne zs.length 0 (by omega), List.drop_zero]

theorem own_kept {w w' : World} {B e n : Nat} {v : Value} {xs : List Value} {row : Option Nat} (h : w.ownsRow B e 1 v n xs) (hg : w.grownBy w' row) (hr : ∀ r, row = some r → ∃ o : Obj, w.heap[r]? = some o ∧ o.isCells = false) : w'.ownsRow B e 1 v n xs := by
  refine ⟨h.1, ?_⟩
  rcases h.2 with h0 | ⟨g, cap, cur, hv, hB, hh, r⟩
  · exact .inl h0
  · refine .inr ⟨g, cap, cur, hv, hB, (hg.block g (lt_of_block hh) (fun hi => ?_)).trans hh, r⟩
    obtain ⟨o, ho, hc⟩ := hr g hi.symm
    rw [hh] at ho
    injection ho with ho
    subst ho
    simp [Obj.isCells] at hc
theorem block_kept {w w' : World} {b t : Nat} {cs : Array Value} {row : Option Nat} (h : w.heap[b]? = some (.cells cs t (0, 0))) (hg : w.grownBy w' row) (hr : ∀ r, row = some r → ∃ o : Obj, w.heap[r]? = some o ∧ o.isCells = false) : w'.heap[b]? = some (.cells cs t (0, 0)) := by
  refine (hg.block b (lt_of_block h) (fun hi => ?_)).trans h
  obtain ⟨o, ho, hc⟩ := hr b hi.symm
  rw [h] at ho
  injection ho with ho
  subst ho
  simp [Obj.isCells] at hc
theorem grown_more {w W W' : World} {g B : Nat} {row : Option Nat} (h : w.grownBy W (some g)) (hg : W.grownBy W' row) (hB : w.heap.size ≤ B) (hr : ∀ r, row = some r → B ≤ r) : w.grownBy W' (some g) :=
  ⟨hg.os.trans h.os, hg.tape.trans h.tape, hg.output.trans h.output, Nat.le_trans h.size hg.size, fun i hi hn => (hg.block i (Nat.lt_of_lt_of_le hi h.size) (fun e => by have := hr i e.symm; omega)).trans (h.block i hi hn)⟩
/-- What holds between two rounds. -/
def NdAt (nb : Nat) (ls : List (List Int)) (bs : List Bool) (nv ov : Value) (gm cm : Nat) (w0 w : World) {zs : List Int} (pre : List (InL zs)) (W : World) : Prop :=
  W.ownsRow w0.heap.size 4 1 (.slice (some ⟨gm, 0, none⟩) nb cm) nb (Bo (ndPre ls bs pre)) ∧ Blk2 W w.heap.size 27 nv ov ∧ Blk1 W (w.heap.size + 1) 36 (.slice (some ⟨gm, 0, none⟩) nb cm) ∧ Below w0.heap.size w0 W ∧ w.grownBy W (some gm) ∧ w.heap.size + 3 ≤ W.heap.size
theorem ndAt_own {nb : Nat} {ls : List (List Int)} {bs : List Bool} {nv ov : Value} {gm cm : Nat} {w0 w : World} {zs : List Int} {B : Nat} (h0 : w0.heap.size ≤ w.heap.size) (hB : w.heap.size ≤ B) : OwnFrom B (NdAt nb ls bs nv ov gm cm w0 w (zs := zs)) := by
  intro s W W' row hs hg hr
  obtain ⟨h1, h2, h3, h4, h5, h6⟩ := hs
  have hr' : ∀ r, row = some r → ∃ o : Obj, W.heap[r]? = some o ∧ o.isCells = false := fun r e => (hr r e).2
  exact ⟨own_kept h1 hg hr', block_kept h2 hg hr', block_kept h3 hg hr', h4.grown hg h4.size (fun k e => by have := (hr k e).1; omega), grown_more h5 hg hB (fun r e => (hr r e).1), Nat.le_trans h6 hg.size⟩

set_option maxRecDepth 100000 in
set_option maxHeartbeats 8000000 in
theorem markNeedsG_any (ls : List (List Int)) (l st : List Int) (t : Nat) (bs : List Bool) (v s : Value) (gm cm : Nat) (w0 w : World) (hst : GraphV w0 v ls l) (hsr : RowV w0 s (I st)) (hb0 : Below w0.heap.size w0 w)
    (hown : w.ownsRow w0.heap.size 4 1 (.slice (some ⟨gm, 0, none⟩) bs.length cm) bs.length (Bo bs)) (hbl : bs.length = ls.length) (h10 : ls.length ≤ 10) (hs10 : st.length ≤ 1000) (hne : 0 < st.length) (ht : t < ls.length) (hin : ∀ x ∈ st, 0 ≤ x ∧ x < (ls.length : Int)) (hnd : ∀ k (hk : k < ls.length), ∀ x ∈ ls[k], 0 ≤ x ∧ x < (ls.length : Int)) :
    Calls Try.prog 94 #[v, s, .int .i64 (t : Int), .slice (some ⟨gm, 0, none⟩) bs.length cm] w fun e w' => e = .returned (.tuple #[]) ∧ Below w0.heap.size w0 w' ∧ w'.ownsRow w0.heap.size 4 1 (.slice (some ⟨gm, 0, none⟩) bs.length cm) bs.length (Bo (markNd ls (bs.set t true) st)) ∧ w.grownBy w' (some gm) := by
  have HV := Lib.hid hst
  obtain ⟨nv, ov, rfl, h1, h2⟩ := hst
  obtain ⟨an, cn, rfl, hn1, hn2, hat⟩ := h1.lists
  obtain ⟨ao, co, rfl, ho1, ho2, _⟩ := h2.ints
  obtain ⟨sa, sc, rfl, hs1, hs2, hsat⟩ := hsr.ints
  obtain ⟨sb, so, hsa, hsb, _⟩ := hsat 0 hne
  subst hsa
  have HSC : Hid (∀ j (hj : j < st.length), w0.cell? ⟨sb, so + j, none⟩ = some (.int .i64 st[j])) := fun j hj => by
    obtain ⟨g, o, he, _, hc⟩ := hsat j hj
    obtain ⟨rfl, rfl⟩ := addr_inj he
    exact hc
  clear h1 h2 hsr hsat
  unfold maxLen at hn2 ho2 hs2
  have HAT := Lib.hid hat
  have HIN := Lib.hid hin
  have HND := Lib.hid hnd
  have HB0 := Lib.hid hb0
  have HNE := Lib.hid hne
  clear hat hin hnd
  have hgl := hown.lt gm rfl
  have hw0 := hb0.size
  obtain ⟨hcm1, hcm2⟩ : bs.length ≤ cm ∧ cm ≤ 2 ^ 63 - 1 := by
    rcases hown.2 with ⟨h, _⟩ | ⟨g, cap, cur, hv, _, _, hcap, hmx, _⟩
    · injection h with h _ _; cases h
    · unfold maxLen at hmx; injection hv with _ _ h3; omega
  have htb : t < bs.length := by omega
  have htb2 : (t : Int) < (bs.length : Int) := by omega
  -- the world in which the loop begins
  obtain ⟨w1, hw1⟩ : ∃ w1, w1 = w.alloc (.cells #[.slice an ls.length cn, .slice ao l.length co] 27) := ⟨_, rfl⟩
  obtain ⟨w2, hw2⟩ : ∃ w2, w2 = w1.alloc (.cells #[.slice (some ⟨gm, 0, none⟩) bs.length cm] 36) := ⟨_, rfl⟩
  obtain ⟨w3, hw3⟩ : ∃ w3, w3 = w2.setCell ⟨gm, t, none⟩ (.bool true) := ⟨_, rfl⟩
  obtain ⟨w4, hw4⟩ : ∃ w4, w4 = w3.alloc (.cells #[.slice (some ⟨sb, so, none⟩) st.length sc] 23) := ⟨_, rfl⟩
  have b1 : Below w.heap.size w w1 := by rw [hw1]; exact (Below.refl _ w).alloc (Nat.le_refl _) _
  have b2 : Below w1.heap.size w1 w2 := by rw [hw2]; exact (Below.refl _ w1).alloc (Nat.le_refl _) _
  have b4 : Below w3.heap.size w3 w4 := by rw [hw4]; exact (Below.refl _ w3).alloc (Nat.le_refl _) _
  have z1 : w1.heap.size = w.heap.size + 1 := by rw [hw1]; simp
  have z2 : w2.heap.size = w.heap.size + 2 := by rw [hw2, World.size_alloc, z1]
  have o2 := own_below (own_below hown b1) b2
  have hst := o2.stored t (.bool true)
  rw [Bo_set, ← hw3] at hst
  have z3 : w3.heap.size = w.heap.size + 2 := by rw [hw3]; simp [z2]
  have z4 : w4.heap.size = w.heap.size + 3 := by rw [hw4, World.size_alloc, z3]
  have hfz := o2.frozenAt t
  have hcz : w2.cell? ⟨gm, t, none⟩ = some (.bool bs[t]) := by rw [o2.cellAt t (by omega), Bo_get? htb]
  have k2 : Blk1 w2 (w.heap.size + 1) 36 (.slice (some ⟨gm, 0, none⟩) bs.length cm) := by rw [hw2, ← z1]; exact Blk1.new
  have p2 : Blk2 w2 w.heap.size 27 (.slice an ls.length cn) (.slice ao l.length co) := by
    have : Blk2 w1 w.heap.size 27 (.slice an ls.length cn) (.slice ao l.length co) := by rw [hw1]; exact Blk2.new
    exact this.below b2 (by omega)
  have hcb := k2.cell
  have k3 := k2.beside hst.2 (by intro e; have := Option.some.inj e; omega)
  have p3 := p2.beside hst.2 (by intro e; have := Option.some.inj e; omega)
  have g3 : w.grownBy w3 (some gm) := grown_trans (below_grown (bth b1 b2 (Nat.le_refl _))) hst.2
  have bb3 : Below w0.heap.size w0 w3 := (HB0.out.trans ((bth b1 b2 (Nat.le_refl _)).mono hw0)).trans (only_below hst.2 hgl.1 (by omega))
  have HI0 : Hid (NdAt bs.length ls (bs.set t true) (.slice an ls.length cn) (.slice ao l.length co) gm cm w0 w (zs := st) [] w4) := by
    refine ⟨?_, p3.below b4 (by omega), ?_, bb3.trans (b4.mono (by omega)), grown_trans g3 (below_grown b4), by omega⟩
    · exact own_below hst.1 b4
    · exact k3.below b4 (by omega)
  have kx : Blk1 w4 (w.heap.size + 2) 23 (.slice (some ⟨sb, so, none⟩) st.length sc) := by rw [hw4, ← z3]; exact Blk1.new
  have HST4 := Lib.hid (fun n (hn : 1 ≤ n) => back_stops n hn (w.heap.size + 2) w4.heap.size gm sb so sc st hs10 hne (by omega) (by omega) (by omega) (by omega) w4 (Nat.le_refl _) kx.cell hs1 (fun j hj => ((bb3.trans (b4.mono (by omega))).cell (p := ⟨sb, so + j, none⟩) hsb).trans (HSC.out j hj)))
  have HOW : Hid (OwnFrom w4.heap.size (NdAt bs.length ls (bs.set t true) (.slice an ls.length cn) (.slice ao l.length co) gm cm w0 w (zs := st))) := ndAt_own hw0 (by omega)
  have HALL := Lib.hid (ndPre_all ls (bs.set t true) st hne)
  have HPL := Lib.hid (fun pre => ndPre_len ls (zs := st) pre (bs.set t true))
  have HW3 : Hid (w3 = ((w.alloc (.cells #[.slice an ls.length cn, .slice ao l.length co] 27)).alloc (.cells #[.slice (some ⟨gm, 0, none⟩) bs.length cm] 36)).setCell ⟨gm, t, none⟩ (.bool true)) := by show _ = _; rw [hw3, hw2, hw1]
  have HZ4 := Lib.hid z4
  have HZ3 := Lib.hid z3
  have HW4 := Lib.hid hw4
  rw [hw2, hw1] at hcz hfz hcb
  have HBL := Lib.hid hbl
  have HGL := Lib.hid hgl
  clear hbl hgl
  clear hown hst o2 b1 b2 b4 z1 z2 z3 z4 hw1 hw2 hw3 hw4 k2 p2 k3 p3 g3 bb3 kx hb0 HV
  refine (callsIn_wide (n := 6)).1 ?_
  refine callsIn_of_wp_marks Try.func94 rfl trivial ?_ rfl
  simp only [Try.ntmps94, List.size_toArray, List.length_cons, List.length_nil, Nat.reduceAdd, Nat.reduceSub, Array.replicate_succ, Array.replicate_zero, List.push_toArray, List.append_toArray, List.nil_append, List.cons_append]
  gi_wp2_with fail
  rw [← HW3.out]
  refine ⟨trivial, (back_in _ _ _ _ _).mono ?_⟩
  rintro e wx ⟨rfl, hwx⟩
  obtain rfl : w4 = wx := by rw [hwx, HW4.out]
  clear hwx hfz hcz hcb
  rw [HZ3.out]
  gi_wp2_with fail
  refine wpIn_rangeFunc_ownG rfl (by omega) (gf := 131) (lb := #[.pointer (some ⟨w.heap.size + 2, 0, none⟩)]) rfl trivial (enters_of Try.func131 (by kernel_rfl) rfl)
    (HST4.out _ (by omega)) KeepN.trans (keepN_b (Nat.le_refl _)) (Below.refl _ _) (fun _ => rfl)
    (NdAt bs.length ls (bs.set t true) (.slice an ls.length cn) (.slice ao l.length co) gm cm w0 w (zs := st))
    (fun _ _ _ => False)
    HOW.out
    (fun _ _ _ _ _ hs _ _ => hs)
    HI0.out
    (fun x => { tmps := #[.agg #[.slice an ls.length cn, .slice ao l.length co], .slice (some ⟨sb, so, none⟩) st.length sc, .int .i64 (t : Int), .slice (some ⟨gm, 0, none⟩) bs.length cm, .pointer (some ⟨w.heap.size, 0, none⟩), undef, undef, .pointer (some ⟨w.heap.size + 1, 0, none⟩), undef, .int .i64 x.1.2, undef, undef, .slice (some ⟨gm, 0, none⟩) bs.length cm, .int .i64 (t : Int), .pointer (some ⟨gm, t, none⟩), .slice (some ⟨sb, so, none⟩) st.length sc, .func (.func 131) #[] #[.pointer (some ⟨w.heap.size + 2, 0, none⟩)], .int .i64 (x.1.1 : Int), .int .i64 x.1.2, undef, undef, undef, undef, undef, undef, undef, undef, undef, undef, undef, undef, undef, undef, undef, undef, undef, undef, undef], defers := [] }) ?assign ?body ?done ?stop
  case assign =>
    intro l x W K hK
    gi_wp2
    exact hK
  case body =>
    rintro lr pre x W ⟨hO, hP, hX, hB, hG, hS⟩ _
    have hx := HIN.out x.1.2 x.2
    have HPS := Lib.hid (ndPre_snoc ls (bs.set t true) pre x)
    have hpl : (ndPre ls (bs.set t true) pre).length = bs.length := by rw [HPL.out pre, List.length_set]
    obtain ⟨un, hun⟩ : ∃ un : Nat, x.1.2 = un := ⟨x.1.2.toNat, by omega⟩
    have hul : un < ls.length := by omega
    have hul2 : (un : Int) < (ls.length : Int) := by omega
    have hub : un < bs.length := by have := HBL.out; omega
    have hub2 : (un : Int) < (bs.length : Int) := by omega
    generalize ndPre ls (bs.set t true) pre = bk at *
    rw [hun] at HPS ⊢
    have hcu : W.cell? ⟨gm, un, none⟩ = some (.bool (markB bk (un : Int))) := by rw [hO.cellAt un (by omega), Bo_get? (by omega), markB_get (by omega)]
    have hcx := hX.cell
    obtain ⟨d0, d1⟩ := hP.cells
    have hgb : gm < w4.heap.size := by have := HGL.out.2; have := HZ4.out; omega
    have hgw := HGL.out.1
    have HGG := Lib.hid hG
    rcases hm : markB bk (un : Int) with _ | _
    · have HE : Hid (markStep ls bk (un : Int) = bk) := by show _ = _; unfold markStep; rw [hm]; rfl
      rw [hm] at hcu
      clear hm
      have HI1 : Hid (NdAt bs.length ls (bs.set t true) (.slice an ls.length cn) (.slice ao l.length co) gm cm w0 w (zs := st) (pre ++ [x]) W) := ⟨by rw [HPS.out, HE.out]; exact hO, hP, hX, hB, hG, hS⟩
      clear hO hP hX hB hG
      gi_wp2
      exact ⟨KeepsFrom.refl _ _, KeepN.refl _ _ _, HI1.out⟩
    · have HE : Hid (markStep ls bk (un : Int) = nd1 bk ls[un]) := by show _ = _; unfold markStep; rw [hm, if_pos rfl, needsAt_get hul]
      rw [hm] at hcu
      clear hm
      obtain ⟨g1, o1, a2, c2, hgn, hg1, hcell1, hrow⟩ := HAT.out un hul
      subst hgn
      have hcn : W.cell? ⟨g1, o1 + un, none⟩ = some (.slice a2 ls[un].length c2) := (hB.cell (p := ⟨g1, o1 + un, none⟩) hg1).trans hcell1
      have HRW : Hid (∀ W, Below w0.heap.size w0 W → RowV W (.slice a2 ls[un].length c2) (I ls[un])) := fun W h => hrow.below h
      have hnl : ls[un].length ≤ c2 ∧ c2 ≤ 2 ^ 63 - 1 := by
        obtain ⟨_, _, h, h', h4, _⟩ := hrow.ints
        unfold maxLen at h4
        injection h with _ _ h3; omega
      obtain ⟨hnl, hc2⟩ := hnl
      have HO := Lib.hid hO
      have HP := Lib.hid hP
      have HX := Lib.hid hX
      have HB := Lib.hid hB
      have HPL2 := Lib.hid hpl
      clear hO hP hX hB hG hcell1 hrow hpl
      gi_wp2
      clear hcu hcx hcn d0 d1
      gi_loopw [30] (fun i wz => ∃ m : Nat, m ≤ ls[un].length ∧ i = .int .i64 (m : Int) ∧ Hid (wz.ownsRow w0.heap.size 4 1 (.slice (some ⟨gm, 0, none⟩) bs.length cm) bs.length (Bo (nd1 bk (ls[un].take m)))) ∧ Hid (Blk2 wz w.heap.size 27 (.slice (some ⟨g1, o1, none⟩) ls.length cn) (.slice ao l.length co)) ∧ Hid (Blk1 wz (w.heap.size + 1) 36 (.slice (some ⟨gm, 0, none⟩) bs.length cm)) ∧ Hid (Below w0.heap.size w0 wz) ∧ Hid (W.grownBy wz (some gm))) (fun i _ => ls[un].length - (intOf i).toNat)
      case atStart => exact ⟨0, Nat.zero_le _, rfl, HO, HP, HX, HB, grown_refl _ _⟩
      case round =>
        clear HO HP HX HB
        obtain ⟨m, hm, rfl, HO, HP, HX, HB, HG⟩ := hrel
        by_cases hlt2 : m < ls[un].length
        · have hxm := HND.out un hul ls[un][m] (List.getElem_mem hlt2)
          obtain ⟨kn, hkn⟩ : ∃ kn : Nat, ls[un][m] = kn := ⟨ls[un][m].toNat, by omega⟩
          have hkl : kn < bs.length := by have := HBL.out; omega
          have hkl2 : (kn : Int) < (bs.length : Int) := by omega
          obtain ⟨gr, or, hra, hcr⟩ : ∃ gr or, a2 = some ⟨gr, or, none⟩ ∧ wr.cell? ⟨gr, or + m, none⟩ = some (.int .i64 (kn : Int)) := by
            obtain ⟨aa, cc, h, _, _, hc⟩ := (HRW.out wr HB.out).ints
            injection h with h1 _ _
            obtain ⟨gr, or, h2, _, h3⟩ := hc m hlt2
            exact ⟨gr, or, by rw [h1, h2], by rw [h3, hkn]⟩
          subst hra
          have hlo : (nd1 bk (ls[un].take m)).length = bs.length := by rw [nd1_len, HPL2.out]
          have HE2 : Hid (nd1 bk (ls[un].take (m + 1)) = (nd1 bk (ls[un].take m)).set kn true) := by
            show _ = _
            rw [List.take_succ_eq_append_getElem hlt2, nd1_snoc, hkn, show ((kn : Int)).toNat = kn by omega]
          generalize nd1 bk (ls[un].take m) = bo at *
          have hck : wr.cell? ⟨gm, kn, none⟩ = some (.bool (markB bo (kn : Int))) := by rw [HO.out.cellAt kn (by omega), Bo_get? (by omega), markB_get (by omega)]
          have hf2 := HO.out.frozenAt kn
          have hcx := HX.out.cell
          have hst := HO.out.stored kn (.bool true)
          rw [Bo_set, ← HE2.out] at hst
          have HO1 := Lib.hid hst.1
          have HB1 := Lib.hid (HB.out.trans (only_below hst.2 hgw HB.out.size))
          have HP1 := Lib.hid (HP.out.beside hst.2 (by intro e; have := Option.some.inj e; have := HGL.out.2; omega))
          have HX1 := Lib.hid (HX.out.beside hst.2 (by intro e; have := Option.some.inj e; have := HGL.out.2; omega))
          have HG1 := Lib.hid (grown_trans HG.out hst.2)
          clear hst HE2 hlo hkn hxm HO HP HB HX HG
          generalize markB bo (kn : Int) = bn at *
          gi_wp2
          go_roundw
          case rel => exact ⟨m + 1, by omega, by go_num, HO1, HP1, HX1, HB1, HG1⟩
          case measure => simp [intOf]; omega
        · rw [List.take_of_length_le (by omega), ← HE.out, ← HPS.out] at HO
          have HI1 : Hid (NdAt bs.length ls (bs.set t true) (.slice (some ⟨g1, o1, none⟩) ls.length cn) (.slice ao l.length co) gm cm w0 w (zs := st) (pre ++ [x]) wr) := ⟨HO.out, HP.out, HX.out, HB.out, grown_trans HGG.out HG.out, Nat.le_trans hS HG.out.size⟩
          gi_wp2
          exact ⟨KeepsFrom.of_grownBy HG.out (fun j e => by cases e; exact hgb), fun i hi hn => HG.out.block i (by have := HZ4.out; omega) (fun e => hn (Option.some.inj e)), HI1.out⟩
  case done =>
    rintro D ys W hD rfl ⟨hO, hP, hX, hB, hG, hS⟩ hK
    rw [HALL.out] at hO
    gi_wp2
    refine ⟨by simp, .inl ⟨_, _, rfl, run_takeDeferred hK, ?_⟩⟩
    have hdd : w.heap.size ≤ D := by have := HZ4.out; omega
    have hgb := grownBy_putObj' W D (.deferred none)
    have hrr : ∀ r, some D = some r → ∃ o : Obj, W.heap[r]? = some o ∧ o.isCells = false := fun r e => by cases e; exact ⟨_, hK, rfl⟩
    refine ⟨_, results_none rfl _ _ _, rfl, hB.grown hgb hB.size (fun k e => by cases e; omega), own_kept hO hgb hrr, grown_more hG hgb (Nat.le_refl _) (fun r e => by cases e; exact hdd)⟩
  case stop =>
    rintro D c pre W _ _ h _
    exact h.elim
theorem needs_mark : MarkC 94 needsF := by
  intro ls l t bs nv ov gm cm w0 w hG hst hb hown hbl ht
  have h1 := hG.same
  have h2 := hG.low
  have h3 := hG.high
  refine (markNeedsG_any ls l l t bs _ ov gm cm w0 w hst hst.parts.2 hb hown hbl hG.high (by omega) (by omega) ht (fun x hx => by have := hG.tasks x hx; omega) (good_in hG)).mono ?_
  rintro e w' ⟨he, _, ho, hg⟩
  exact ⟨he, ho, hg⟩

end Go.Proofs.Ytnkkbleebfijgaa

/- Walks: the tasks that moved. -/
namespace Go.Proofs.Ytnkkbleebfijgaa
open Go.RowKit Pth

/-- Those of the first list that lie otherwise in the second. -/
def movedL (a b : List Int) : List Int := ((a.zip b).filter (fun p => p.2 != p.1)).map (fun p => p.1)
theorem movedL_len (a b : List Int) : (movedL a b).length ≤ a.length := by
  unfold movedL
  rw [List.length_map]
  exact Nat.le_trans (List.length_filter_le _ _) (by rw [List.length_zip]; omega)
theorem movedL_snoc {a b : List Int} {k : Nat} (ha : k < a.length) (hb : k < b.length) : movedL (a.take (k + 1)) (b.take (k + 1)) = movedL (a.take k) (b.take k) ++ if b[k] != a[k] then [a[k]] else [] := by
  unfold movedL
  rw [List.take_succ_eq_append_getElem ha, List.take_succ_eq_append_getElem hb, List.zip_append (by rw [List.length_take, List.length_take]; omega), List.filter_append, List.map_append]
  congr 1
  simp only [List.zip_cons_cons, List.zip_nil_left, List.filter_cons, List.filter_nil]
  split <;> rfl

set_option maxRecDepth 20000 in
set_option maxHeartbeats 4000000 in
theorem tasksMoved_any (la lb : List Int) (v u : Value) (w : World) (hra : RowV w v (I la)) (hrb : RowV w u (I lb)) (hl : lb.length = la.length) (h10 : la.length ≤ 1000) :
    Calls Try.prog 59 #[v, u] w (IntsPost w.heap.size (sortI (movedL la lb)) w) := by
  obtain ⟨a, cap, rfl, hc1, hc2, hat⟩ := hra.ints
  obtain ⟨a2, cap2, rfl, hd1, hd2, hat2⟩ := hrb.ints
  have HAT := Lib.hid hat
  have HAT2 := Lib.hid hat2
  have HLL := Lib.hid hl
  have hlb : la.length ≤ lb.length := by omega
  clear hra hrb hat hat2 hl
  unfold maxLen at hc2 hd2
  go_enter Try.func59, Try.ntmps59
  go_wp2_with fail
  go_loopw [5, 10] (fun q i wr => ∃ k : Nat, k ≤ la.length ∧ i = .int .i64 k ∧ Hid (Below w.heap.size w wr) ∧ Hid (wr.ownsRow w.heap.size 3 1 q (movedL (la.take k) (lb.take k)).length (I (movedL (la.take k) (lb.take k))))) (fun _ i _ => la.length - (intOf i).toNat)
  case atStart => exact ⟨0, Nat.zero_le _, rfl, Below.refl _ _, none_ownZ _ _ _⟩
  case round =>
    obtain ⟨k, hk, rfl, HB, HN⟩ := hrel
    by_cases hlt : k < la.length
    · have hlt2 : k < lb.length := by omega
      obtain ⟨g, o, rfl, hg, hc⟩ := HAT.out k hlt
      obtain ⟨g2, o2, rfl, hg2, hc2'⟩ := HAT2.out k hlt2
      have e1 : wr.cell? ⟨g, o + k, none⟩ = some (.int .i64 la[k]) := by rw [HB.out.cell (p := ⟨g, o + k, none⟩) hg]; exact hc
      have e2 : wr.cell? ⟨g2, o2 + k, none⟩ = some (.int .i64 lb[k]) := by rw [HB.out.cell (p := ⟨g2, o2 + k, none⟩) hg2]; exact hc2'
      have HE := Lib.hid (movedL_snoc hlt hlt2)
      have hfl : (movedL (la.take k) (lb.take k)).length ≤ 1000 := by have := movedL_len (la.take k) (lb.take k); rw [List.length_take] at this; omega
      clear hc hc2'
      generalize la[k] = x at *
      generalize lb[k] = y at *
      rcases hb : y != x with _ | _
      · rw [hb] at HE
        have HE2 := Lib.hid (HE.out.trans (List.append_nil _))
        clear HE hfl
        obtain ⟨qa, qc, hq⟩ := own_slice HN.out
        subst hq
        go_wp2_with fail
        go_roundw
        case rel => exact ⟨k + 1, by omega, by go_num, HB, by rw [HE2.out]; exact HN.out⟩
        case measure => simp [intOf]; omega
      · rw [hb] at HE
        have HE2 : Hid (movedL (la.take (k + 1)) (lb.take (k + 1)) = movedL (la.take k) (lb.take k) ++ [x]) := HE.out
        have HNA := Lib.hid (own_Z HN.out)
        have hIl : (I (movedL (la.take k) (lb.take k))).length ≤ 1000000 := by rw [I_len]; omega
        clear HE HN hfl
        generalize movedL (la.take k) (lb.take k) = m at *
        go_wp2_with (at_builtin; refine wpAppOne elemI rfl _ _ rfl w.heap.size _ (I m) rfl HNA.out _ rfl rfl rfl hIl HB.out.size ?_; intro v7 w7 hown7 hg7; have HN7 := Lib.hid (own_Z2 hown7); have HB7 := Lib.hid (HB.out.trans (below_own HNA.out hg7 HB.out.size)); clear hown7 hg7)
        go_roundw
        case rel => exact ⟨k + 1, by omega, by go_num, HB7, by rw [HE2.out]; exact HN7.out⟩
        case measure => simp [intOf]; omega
    · have hl := HLL.out
      rw [List.take_of_length_le (by omega), List.take_of_length_le (by omega)] at HN
      have hml := movedL_len la lb
      have HS := Lib.hid (sortInts_any (movedL la lb) _ w.heap.size wr HN.out (by omega) HB.out.size)
      obtain ⟨qa, qc, hq⟩ := own_slice HN.out
      subst hq
      clear hl
      go_wp2_with fail
      refine HS.out.mono ?_
      rintro e w2 ⟨rfl, ho2, hb2⟩
      have HO2 := Lib.hid ho2
      have HB2 := Lib.hid (HB.out.trans hb2)
      clear ho2 hb2
      go_wp2_with fail
      go_ret
      exact ⟨_, rfl, HO2.out, HB2.out⟩
end Go.Proofs.Ytnkkbleebfijgaa
