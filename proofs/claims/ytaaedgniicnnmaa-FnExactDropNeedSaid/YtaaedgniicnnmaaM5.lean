/- Texts of one claim, joined in their order. -/
import Derived.Shelf.Small.Bits
import Derived.Shelf.Small.Wraps
import Derived.Shelf.Strconv.Itoa0
import Derived.Shelf.Sort.Plain
import Derived.Ground.Names2Prog
import Derived.Shelf.Slices.SearchI
import Derived.Shelf.Slices.Delete
import Derived.Shelf.Slices.Cells
import Derived.Shelf.Slices.In.SortNone
import Derived.Shelf.Slices.Empties
import Derived.Test.YtaaedgniicnnmaaProg
import Derived.Lib.OwnBridge
import Derived.Sort.OwnSortedInts
import Derived.Test.YtaaedgniicnnmaaM4
import Derived.Test.YtaaedgniicnnmaaM3

/- Walks: the reference's copies of graphs. -/
namespace Go.Proofs.Ytaaedgniicnnmaa
open Go.RowKit Pth

/-- An append whose run is known. -/
theorem wpList_runApp {t : TypeId} {ops : Array Oper} {rest : List Oper} {o : Oper} {a : Act} {Q : Exit → Act → World → Prop} {w w' : World} {v u r : Value} (hgd : o.guard = none) (s x : Operand)
    (ho : o.op = .call { callee := .builtin .append, args := #[s, x], argTypes := #[t, t] }) (hs : a.eval s = v) (hx : a.eval x = u) (hrun : (Builtin.append_ #[t, t] o.type #[v, u]).run Try.prog w = .ok r w')
    (h : wpList Try.prog ops Q rest (a.put o.dst r) w') : wpList Try.prog ops Q (o :: rest) a w := by
  refine wpList_plain hgd fun K hK => ?_
  unfold Oper.wp execOp
  simp only [ho, resolve, invoke, builtin, Sem.run_bind, Sem.run_pure, Result.andThen_ok, List.map_toArray, List.map_cons, List.map_nil, hs, hx, hrun]
  exact hK _ _ h
theorem step_runApp {t : TypeId} {ops : Array Oper} {o : Oper} {a : Act} {K : Act → World → Prop} {Q : Exit → Act → World → Prop} {F : Prop} {w w' : World} {v u r : Value} (hgd : o.guard = none) (s x : Operand)
    (ho : o.op = .call { callee := .builtin .append, args := #[s, x], argTypes := #[t, t] }) (hs : a.eval s = v) (hx : a.eval x = u) (hrun : (Builtin.append_ #[t, t] o.type #[v, u]).run Try.prog w = .ok r w')
    (h : K (a.put o.dst r) w') : if Region.wanted o (yielded ops a.tmps) = true then Oper.wp Try.prog o a w K Q else F := by
  have hw : Region.wanted o (yielded ops a.tmps) = true := by simp [Region.wanted, hgd]
  rw [if_pos hw]
  unfold Oper.wp execOp
  simp only [ho, resolve, invoke, builtin, Sem.run_bind, Sem.run_pure, Result.andThen_ok, List.map_toArray, List.map_cons, List.map_nil, hs, hx, hrun]
  exact h
/-- A list put behind an empty literal. -/
theorem lit_row (x : List Int) (a : Option Addr) (c : Nat) (w W : World) (hW : W = w.alloc (.cells #[] 3)) (hrow : RowV w (.slice a x.length c) (I x)) (hx : x.length ≤ 1000) (ty : TypeId) :
    ∃ qa qc w1, (Builtin.append_ #[24, 24] ty #[.slice (some ⟨w.heap.size, 0, none⟩) 0 0, .slice a x.length c]).run Try.prog W = .ok (.slice qa x.length qc) w1 ∧ w1.ownsRow w.heap.size 3 1 (.slice qa x.length qc) x.length (I x) ∧ Below w.heap.size w w1 := by
  subst hW
  have hown : (w.alloc (.cells #[] 3)).ownsRow w.heap.size 3 1 (.slice (some ⟨w.heap.size, 0, none⟩) 0 0) 0 [] := World.ownsRow_lit w #[] 0 (Nat.le_refl _) (by unfold maxLen; omega) rfl
  have hr := hrow.alloc (.cells #[] 3)
  have hle : (I x).length = x.length := I_len x
  rw [← hle] at hr
  obtain ⟨v1, w1, r1, o1, g1⟩ := run_app_row elemI (w.alloc (.cells #[] 3)) w.heap.size ty _ [] (I x) a c hown hr (I_one x) (by simp [hle]; omega) (by simp)
  rw [List.nil_append] at o1
  rw [hle] at o1 r1
  obtain ⟨qa, qc, rfl⟩ := own_slice o1
  exact ⟨qa, qc, w1, r1, o1, ((Below.refl _ w).alloc (Nat.le_refl _) _).trans (only_below g1 (Nat.le_refl _) (by simp))⟩
/-- A list put as one more behind a list of lists. -/
theorem more_lists (sl : List Value) (nv v1 : Value) (B : Nat) (w1 : World) (hown : w1.ownsRow B 24 1 nv sl.length sl) (hv : v1.oneCell' = true) (hl : sl.length ≤ 1000) (hB : B ≤ w1.heap.size) (ty : TypeId) :
    ∃ v2 w2, (Builtin.append_ #[23, 23] ty #[nv, .slice (some ⟨w1.heap.size, 0, none⟩) 1 1]).run Try.prog (w1.alloc (.cells #[v1] 24)) = .ok v2 w2 ∧ w2.ownsRow B 24 1 v2 (sl ++ [v1]).length (sl ++ [v1]) ∧ w1.grownBy w2 nv.ownBlock := by
  have hr : RowV (w1.alloc (.cells #[v1] 24)) (.slice (some ⟨w1.heap.size, 0, none⟩) 1 1) [v1] :=
    ⟨_, _, rfl, Nat.le_refl _, by unfold maxLen; omega, fun k hk => ⟨w1.heap.size, 0, rfl, by simp, by
      have : k = 0 := by simp at hk; omega
      subst this
      have := one_new w1 v1 24 0 v1 rfl
      rw [add_addr] at this
      exact this⟩⟩
  obtain ⟨v2, w2, r2, o2, g2⟩ := run_app_row elemN (w1.alloc (.cells #[v1] 24)) B ty nv sl [v1] _ _ (hown.alloc _) hr (by intro u hu; simp at hu; subst hu; exact hv) (by simp; omega) (by simp; omega)
  exact ⟨v2, w2, r2, o2, ⟨g2.os, g2.tape, g2.output, Nat.le_trans (by simp) g2.size, fun k hk hne => (g2.block k (by simp; omega) hne).trans (Below.heap_alloc _ _ _ hk)⟩⟩

set_option maxRecDepth 20000 in
set_option maxHeartbeats 4000000 in
theorem l5Own_any (ls : List (List Int)) (l : List Int) (v : Value) (w : World) (hst : GraphV w v ls l) (hl : ls.length + total ls + l.length ≤ 1000) :
    Calls Try.prog 54 #[v] w fun e w' => ∃ v', e = .returned v' ∧ GraphO w.heap.size w' v' ls l ∧ Below w.heap.size w w' := by
  have HV := Lib.hid hst
  obtain ⟨nv, ov, rfl, h1, h2⟩ := hst
  have H1 := Lib.hid h1
  have H2 := Lib.hid h2
  obtain ⟨an, cn, rfl, hn1, hn2, hat⟩ := h1.lists
  obtain ⟨ao, co, rfl, ho1, ho2, _⟩ := h2.ints
  clear h1 h2
  unfold maxLen at hn2 ho2
  go_enter Try.func54, Try.ntmps54
  go_upto_region 1 with (fail)
  have k0 : Hid (Arg2 ((w.alloc (.cells #[.slice an ls.length cn, .slice ao l.length co] 26)).alloc (.cells #[.slice none 0 0, .slice none 0 0] 26)) w.heap.size (.slice an ls.length cn) (.slice ao l.length co)) := ⟨by simp, by simp⟩
  have hb0 : Below w.heap.size w ((w.alloc (.cells #[.slice an ls.length cn, .slice ao l.length co] 26)).alloc (.cells #[.slice none 0 0, .slice none 0 0] 26)) := ((Below.refl w.heap.size w).alloc (Nat.le_refl _) _).alloc (by simp) _
  have R0 := Lib.hid (Blk2.new (w := w.alloc (.cells #[.slice an ls.length cn, .slice ao l.length co] 26)) (t := 26) (x := .slice none 0 0) (y := .slice none 0 0))
  have e1 : (w.alloc (.cells #[.slice an ls.length cn, .slice ao l.length co] 26)).heap.size = w.heap.size + 1 := by simp
  have e2 : ((w.alloc (.cells #[.slice an ls.length cn, .slice ao l.length co] 26)).alloc (.cells #[.slice none 0 0, .slice none 0 0] 26)).heap.size = w.heap.size + 2 := by simp
  rw [e1] at R0
  have HE2 := Lib.hid e2
  have r0 := Lib.hid (H2.out.below hb0)
  have HB0 := Lib.hid hb0
  clear hb0 e1 e2
  generalize (w.alloc (.cells #[.slice an ls.length cn, .slice ao l.length co] 26)).alloc (.cells #[.slice none 0 0, .slice none 0 0] 26) = W0 at *
  obtain ⟨c0, c1⟩ := k0.out
  obtain ⟨qa, qc, w1, run1, o1, b1⟩ := lit_row l ao co W0 _ rfl r0.out (by omega) 24
  have s1 := b1.size
  have HP := Lib.hid (Blk2.new (w := w1) (t := 26) (x := .slice none 0 0) (y := .slice qa l.length qc))
  have HL : Hid (Lists W0.heap.size (w1.alloc (.cells #[.slice none 0 0, .slice qa l.length qc] 26)) ([(.slice qa l.length qc, l)] ++ ([] : List Value).zip (ls.take 0))) := by
    refine ⟨fun p hp => ?_, by simp⟩
    simp only [List.zip_nil_left, List.append_nil, List.mem_singleton] at hp
    subst hp
    exact o1.alloc _
  have HB := Lib.hid (b1.alloc s1 (.cells #[.slice none 0 0, .slice qa l.length qc] 26))
  have d0 := (HB.out.cell (p := ⟨w.heap.size, 0, none⟩) (World.block_lt_of_cell? _ _ c0)).trans c0
  have HC0 := Lib.hid c0
  have hbW : W0.heap.size ≤ w1.heap.size := s1
  have c2 := (ka k0.out (.cells #[] 3)).2
  have HRUN := Lib.hid run1
  clear o1 b1 run1
  go_wp2_with (at_builtin; refine wpList_runApp rfl _ _ rfl rfl rfl HRUN.out ?_)
  clear d0 c0 c1 c2 r0 k0
  go_loopw [14] (fun i wr => ∃ (k : Nat) (sl : List Value) (na : Option Addr) (nc : Nat), k ≤ ls.length ∧ i = .int .i64 k ∧ sl.length = k ∧ Hid (wr.ownsRow W0.heap.size 24 1 (.slice na k nc) k sl) ∧ Hid (Lists W0.heap.size wr ([(.slice qa l.length qc, l)] ++ sl.zip (ls.take k))) ∧ Hid (Blk2 wr w1.heap.size 26 (.slice na k nc) (.slice qa l.length qc)) ∧ Hid (Below W0.heap.size W0 wr)) (fun i _ => ls.length - (intOf i).toNat)
  case atStart => exact ⟨0, [], none, 0, Nat.zero_le _, rfl, rfl, ⟨rfl, .inl ⟨rfl, rfl⟩⟩, HL, HP, HB⟩
  case round =>
    clear HL HP HB
    obtain ⟨k, sl, na, nc, hk, rfl, hsl, HO, HL, HP, HB⟩ := hrel
    have HBW := Lib.hid (HB0.out.trans (HB.out.mono HB0.out.size))
    have p0 := HP.out.cells.1
    by_cases hlt : k < ls.length
    · obtain ⟨g, o, a2, c2, rfl, hg, hcell0, hrk⟩ := hat k hlt
      have hcell : wr.cell? ⟨g, o + k, none⟩ = some (.slice a2 ls[k].length c2) := by rw [HBW.out.cell (p := ⟨g, o + k, none⟩) hg]; exact hcell0
      have hxl : ls[k].length ≤ 1000 := by have := total_at hlt; omega
      obtain ⟨ya, yc, w5, run5, o5, b5⟩ := lit_row ls[k] a2 c2 wr.drew _ rfl (hrk.below (Below.drew HBW.out)) hxl 24
      have u5 := undrew b5
      have hO5 := own_below HO.out u5
      have hle : (Value.slice ya ls[k].length yc).oneCell' = true := rfl
      have HZ := Lib.hid (zip_snoc sl ls k hlt hsl)
      have HSL := Lib.hid hsl
      rw [← hsl] at hO5
      obtain ⟨v6, w6, run6, o6, g6⟩ := more_lists sl _ (.slice ya ls[k].length yc) W0.heap.size w5 hO5 hle (by omega) (Nat.le_trans HB.out.size u5.size) 23
      rw [hsl] at hO5 run6 g6
      rw [List.length_append, List.length_singleton, hsl] at o6
      obtain ⟨za, zc, rfl⟩ := own_slice o6
      have hbl : w1.heap.size < wr.heap.size := lt_of_block HP.out
      have P5 := HP.out.below u5 hbl
      have nb : (Value.slice na k nc).ownBlock ≠ some w1.heap.size := fun e => blk_ne (g := 0) HP.out HO.out (by decide) w1.heap.size e rfl
      have P6 := P5.beside g6 nb
      have p5 := P5.cells.1
      have p6 := P6.cells.1
      have f6 := P6.soft 0
      have hbl5 : w1.heap.size < w5.heap.size := lt_of_block P5
      have pa := (World.cell?_alloc_lt wr (.cells #[] 3) ⟨w1.heap.size, 0, none⟩ hbl).trans p0
      have pb := (World.cell?_alloc_lt w5 (.cells #[.slice ya ls[k].length yc] 24) ⟨w1.heap.size, 0, none⟩ hbl5).trans p5
      have R5 := Lib.hid run5
      have R6 := Lib.hid run6
      have HP6 := Lib.hid P6
      have O6 := Lib.hid o6
      have hL5 := HL.out.snoc u5 o5 (Nat.le_refl _) HB.out.size
      rw [List.append_assoc, ← HZ.out] at hL5
      have HL6 := Lib.hid (hL5.outer hO5 (by decide) g6)
      have HB6 := Lib.hid ((HB.out.trans (u5.mono HB.out.size)).trans ((Below.refl W0.heap.size w5).grown g6 (Nat.le_trans HB.out.size u5.size) (fun i hi => (hO5.lt i hi).1)))
      clear run5 run6 o5 b5 u5 hO5 g6 o6 P5 P6 hL5 hcell0 hrk hat hxl hle HO HL HP HB nb hsl
      generalize ls[k].length = n1 at *
      go_wp2_with fail
      go_region_law
        (first
          | (refine step_runApp (t := 24) rfl _ _ rfl rfl rfl R5.out ?_)
          | (refine step_runApp (t := 23) rfl _ _ rfl rfl rfl R6.out ?_))
      all_goals
        have O7 := Lib.hid (own_setNe O6.out (p := ⟨w1.heap.size, 0, none⟩) (fun e => blk_ne (g := 0) HP6.out O6.out (by decide) w1.heap.size e rfl) (.slice za (k + 1) zc))
        have L7 : Hid (Lists W0.heap.size (w6.setCell ⟨w1.heap.size, 0, none⟩ (.slice za (k + 1) zc)) ([(.slice qa l.length qc, l)] ++ (sl ++ [Value.slice ya n1 yc]).zip (ls.take (k + 1)))) :=
          ⟨fun p hp => own_setNe (HL6.out.1 p hp) (p := ⟨w1.heap.size, 0, none⟩) (fun e => blk_ne (g := 0) HP6.out (HL6.out.1 p hp) (by decide) w1.heap.size e rfl) _, HL6.out.2⟩
        have P7 := Lib.hid (HP6.out.set0 (.slice za (k + 1) zc))
        have B7 := Lib.hid (HB6.out.setCell (p := ⟨w1.heap.size, 0, none⟩) hbW (.slice za (k + 1) zc))
        go_wp2_with fail
        go_roundw
        case rel => exact ⟨k + 1, _, za, zc, by omega, by go_num, by simp [HSL.out], O7, L7, P7, B7⟩
        case measure => simp [intOf]; omega
    · obtain rfl : k = ls.length := by omega
      have R1 := Lib.hid (R0.out.below HB.out (by have := HE2.out; omega))
      have HM : Hid (Lists W0.heap.size wr (sl.zip ls ++ [(.slice qa l.length qc, l)])) := by
        have := HL.out
        rw [List.take_length] at this
        exact this.perm List.perm_append_comm
      have p1 := HP.out.cells.2
      have q0 := R1.out.cells.1
      have q1 := R1.out.cells.2
      have f0 := R1.out.soft 0
      have f1 := R1.out.soft 1
      have HZ := Lib.hid ((R1.out.set0 (.slice na ls.length nc)).set1 (.slice qa l.length qc))
      have hz : w.heap.size + 1 < W0.heap.size := by have := HE2.out; omega
      clear HL hat
      go_wp2_with fail
      refine bodyPost_ret (results_cell rfl rfl (load_store2 HZ.out.cells.1 HZ.out.cells.2)) rfl ?_
      refine ⟨_, rfl, ⟨_, _, sl, rfl, hsl, own_base (own_setI (own_setI HO.out (p := ⟨w.heap.size + 1, 0, none⟩) hz _) (p := ⟨w.heap.size + 1, 1, none⟩) hz _) (by omega), ((HM.out.set (p := ⟨w.heap.size + 1, 0, none⟩) hz _).set (p := ⟨w.heap.size + 1, 1, none⟩) hz _).base (by omega)⟩, ?_⟩
      exact (HBW.out.setCell (p := ⟨w.heap.size + 1, 0, none⟩) (by show w.heap.size ≤ w.heap.size + 1; omega) _).setCell (p := ⟨w.heap.size + 1, 1, none⟩) (by show w.heap.size ≤ w.heap.size + 1; omega) _
end Go.Proofs.Ytaaedgniicnnmaa

/- The library's contracts that the walks use, at this program: each an application of the shelf's; each structure's fields are facts of the loaded program. -/
namespace Go.Proofs
open Go.Shelf Go.RowKit Go.Sort
def Try.lays189_ren : Go.Shelf.Ren := ⟨fun | 189 => 49 | 125 => 81 | 257 => 80 | 128 => 93 | 129 => 94 | 294 => 84 | 295 => 85 | 296 => 86 | 297 => 87 | 298 => 88 | 299 => 89 | 216 => 90 | 300 => 91 | 301 => 92 | 328 => 96 | 329 => 97 | 330 => 98 | 331 => 99 | 332 => 100 | 215 => 101 | 343 => 102 | n => n, fun | 28 => 24 | 3 => 3 | 46 => 85 | 0 => 0 | 51 => 97 | 53 => 57 | 4 => 4 | 183 => 91 | 182 => 90 | 131 => 34 | 5 => 5 | 9 => 9 | 218 => 99 | 222 => 103 | 228 => 105 | 229 => 106 | n => n, fun | n => n⟩
theorem Try.lays189 : Go.Proofs.Lays.n189 Try.prog Try.lays189_ren := {
  mixed := by kernel_rfl
  f125 := Try.func81.trans (congrArg some (by kernel_rfl))
  f128 := Try.func93.trans (congrArg some (by kernel_rfl))
  f129 := Try.func94.trans (congrArg some (by kernel_rfl))
  f189 := Try.func49.trans (congrArg some (by kernel_rfl))
  f215 := Try.func101.trans (congrArg some (by kernel_rfl))
  f216 := Try.func90.trans (congrArg some (by kernel_rfl))
  f257 := Try.func80.trans (congrArg some (by kernel_rfl))
  f294 := Try.func84.trans (congrArg some (by kernel_rfl))
  f295 := Try.func85.trans (congrArg some (by kernel_rfl))
  f296 := Try.func86.trans (congrArg some (by kernel_rfl))
  f297 := Try.func87.trans (congrArg some (by kernel_rfl))
  f298 := Try.func88.trans (congrArg some (by kernel_rfl))
  f299 := Try.func89.trans (congrArg some (by kernel_rfl))
  f300 := Try.func91.trans (congrArg some (by kernel_rfl))
  f301 := Try.func92.trans (congrArg some (by kernel_rfl))
  f328 := Try.func96.trans (congrArg some (by kernel_rfl))
  f329 := Try.func97.trans (congrArg some (by kernel_rfl))
  f330 := Try.func98.trans (congrArg some (by kernel_rfl))
  f331 := Try.func99.trans (congrArg some (by kernel_rfl))
  f332 := Try.func100.trans (congrArg some (by kernel_rfl))
  f343 := Try.func102.trans (congrArg some (by kernel_rfl))
  t0 := Try.underlying0
  a0 := Try.isAgg0
  z0 := Try.sizeOf0
  v0 := Try.zeroValue0
  t3 := Try.underlying3
  a3 := Try.isAgg3
  z3 := Try.sizeOf3
  v3 := Try.zeroValue3
  t4 := Try.underlying4
  a4 := Try.isAgg4
  z4 := Try.sizeOf4
  v4 := Try.zeroValue4
  t5 := Try.underlying5
  a5 := Try.isAgg5
  z5 := Try.sizeOf5
  v5 := Try.zeroValue5
  t9 := Try.underlying9
  a9 := Try.isAgg9
  z9 := Try.sizeOf9
  v9 := Try.zeroValue9
  t28 := Try.underlying24
  a28 := Try.isAgg24
  z28 := Try.sizeOf24
  v28 := Try.zeroValue24
  t46 := Try.underlying85
  a46 := Try.isAgg85
  z46 := Try.sizeOf85
  v46 := Try.zeroValue85
  t51 := Try.underlying97
  a51 := Try.isAgg97
  z51 := Try.sizeOf97
  v51 := Try.zeroValue97
  t53 := Try.underlying57
  a53 := Try.isAgg57
  z53 := Try.sizeOf57
  v53 := Try.zeroValue57
  t131 := Try.underlying34
  a131 := Try.isAgg34
  z131 := Try.sizeOf34
  v131 := Try.zeroValue34
  t182 := Try.underlying90
  a182 := Try.isAgg90
  z182 := Try.sizeOf90
  v182 := Try.zeroValue90
  t183 := Try.underlying91
  a183 := Try.isAgg91
  z183 := Try.sizeOf91
  v183 := Try.zeroValue91
  t218 := Try.underlying99
  a218 := Try.isAgg99
  z218 := Try.sizeOf99
  v218 := Try.zeroValue99
  t222 := Try.underlying103
  a222 := Try.isAgg103
  z222 := Try.sizeOf103
  v222 := Try.zeroValue103
  t228 := Try.underlying105
  a228 := Try.isAgg105
  z228 := Try.sizeOf105
  v228 := Try.zeroValue105
  t229 := Try.underlying106
  a229 := Try.isAgg106
  z229 := Try.sizeOf106
  v229 := Try.zeroValue106 }
theorem Try.slices_Sort_int (blk off cap : Nat) (zs : List Int) (w : World) (hH : Holds (Value.int .i64) w blk off zs.toArray) (hblk : blk < w.heap.size) (hsz : zs.length < 4611686018427387904) :
    Calls Try.prog 49 #[.slice (some ⟨blk, off, none⟩) zs.length cap] w fun e w' =>
      e = .returned (.tuple #[]) ∧ ∃ n os, w' = grow (putRow (Value.int .i64) (Sort.ahead w n) blk off (zs.mergeSort fun x y => decide (x ≤ y)).toArray) os := Any.slices_Sort_int Try.lays189 blk off cap zs w hH hblk hsz
def Try.laysNm223_ren : Go.Shelf.Ren := ⟨fun | 23 => 64 | n => n, fun | 22 => 24 | 3 => 3 | 4 => 4 | 0 => 0 | n => n, fun | n => n⟩
theorem Try.laysNm223 : Go.Proofs.Lays2.n23 Try.prog Try.laysNm223_ren := {
  mixed := by kernel_rfl
  f23 := Try.func64.trans (congrArg some (by kernel_rfl))
  t0 := Try.underlying0
  a0 := Try.isAgg0
  z0 := Try.sizeOf0
  v0 := Try.zeroValue0
  t3 := Try.underlying3
  a3 := Try.isAgg3
  z3 := Try.sizeOf3
  v3 := Try.zeroValue3
  t4 := Try.underlying4
  a4 := Try.isAgg4
  z4 := Try.sizeOf4
  v4 := Try.zeroValue4
  t22 := Try.underlying24
  a22 := Try.isAgg24
  z22 := Try.sizeOf24
  v22 := Try.zeroValue24
  i3 := by kernel_rfl }
theorem Try.slices_Delete_int (blk off cap i j : Nat) (zs : List Int) (w : World) (hH : Holds (Value.int .i64) w blk off zs.toArray) (hcap : zs.length ≤ cap) (hm : cap ≤ 9223372036854775807) (hij : i ≤ j) (hj : j ≤ zs.length) :
    Calls Try.prog 64 #[.slice (some ⟨blk, off, none⟩) zs.length cap, .int .i64 i, .int .i64 j] w fun e w' => e = .returned (.slice (some ⟨blk, off, none⟩) (zs.length - (j - i)) cap) ∧ ∃ q, w' = putRow (Value.int .i64) (Sort.ahead w q) blk off (zs.take i ++ zs.drop j ++ List.replicate (j - i) 0).toArray := Any.slices_Delete_int Try.laysNm223 blk off cap i j zs w hH hcap hm hij hj
theorem Try.slices_Sort_int_none (p : Option Addr) (cap : Nat) (w : World) :
    Calls Try.prog 49 #[.slice p 0 cap] w fun e w' => e = .returned (.tuple #[]) ∧ w' = w := Any.slices_Sort_int_none Try.lays189 p cap w
end Go.Proofs

/- Numbers in memory of the call's own: one taken out, by the library; lists in a graph replaced. -/
namespace Go.Proofs.Ytaaedgniicnnmaa
open Go.RowKit Pth Go.Lib Go.Sort

theorem grown_putRow {w : World} {g q : Nat} (d : Array Int) : w.grownBy (putRow (Value.int .i64) (Sort.ahead w q) g 0 d) (some g) :=
  ⟨rfl, rfl, rfl, by simp [putRow, mapBlock, Sort.ahead], fun k hk hne => by
    have : g ≠ k := fun e => hne (by rw [e])
    simp [putRow, mapBlock, Sort.ahead, Array.getElem?_modify, this]⟩
theorem delete_any (l : List Int) (p : Nat) (hp : p < l.length) (v : Value) (B : Nat) (w : World) (hown : w.ownsRow B 3 1 v l.length (I l)) :
    Calls Try.prog 64 #[v, .int .i64 (p : Int), .int .i64 ((p + 1 : Nat) : Int)] w fun e w' => ∃ v', e = .returned v' ∧ (∀ b, v'.ownBlock = some b → v.ownBlock = some b) ∧ w'.ownsRow B 3 1 v' (l.take p ++ l.drop (p + 1)).length (I (l.take p ++ l.drop (p + 1))) ∧ w.grownBy w' v.ownBlock := by
  rcases hown.2 with ⟨hv, h0⟩ | ⟨g, cap, cur, hv, hBg, hh, h1, h2, h3, h4⟩
  · omega
  · subst hv
    have hH := holds_of_blockI (ss := l) hh (by rw [Nat.mul_one] at h4; exact h4)
    refine (Try.slices_Delete_int g 0 cap p (p + 1) l w hH h1 (by unfold maxLen at h2; omega) (by omega) (by omega)).mono ?_
    rintro e w' ⟨he, q, rfl⟩
    have hlen : (l.take p ++ l.drop (p + 1)).length = l.length - 1 := by rw [List.length_append, List.length_take, List.length_drop]; omega
    refine ⟨_, he, fun b hb => hb, ?_, grown_putRow _⟩
    have ho := ownsRow_putRow (enc := Value.int .i64) (q := q) (k := l.length - 1) (zs := l) (ys := l.take p ++ l.drop (p + 1) ++ List.replicate (p + 1 - p) 0) hown (by rw [List.length_append, hlen, List.length_replicate]; omega) (by omega)
    rw [hlen]
    rw [show l.length - (p + 1 - p) = l.length - 1 by omega]
    rw [← hlen, List.take_left] at ho
    rw [← hlen]
    exact ho

/-- Without one number. -/
def dropL (l : List Int) (x : Int) : List Int := l.filter (fun y => decide (y ≠ x))
theorem drop_at {l : List Int} {x : Int} (hr : Rise l) (hm : x ∈ l) : l.take (pos l x) ++ l.drop (pos l x + 1) = dropL l x := by
  obtain ⟨a, b, rfl, ha⟩ := mem_first hm
  rw [pos_split ha]
  have hb : x ∉ b := by
    intro h
    unfold Rise at hr
    rw [List.pairwise_append, List.pairwise_cons] at hr
    have := hr.2.1.1 x h
    omega
  have fa : a.filter (fun y => decide (y ≠ x)) = a := List.filter_eq_self.2 (fun y hy => by simp; exact fun e => ha (e ▸ hy))
  have fb : b.filter (fun y => decide (y ≠ x)) = b := List.filter_eq_self.2 (fun y hy => by simp; exact fun e => hb (e ▸ hy))
  unfold dropL
  rw [List.filter_append, List.filter_cons_of_neg (by simp), fa, fb]
  simp
theorem zip_set {sl : List Value} {ls : List (List Int)} {j : Nat} (hs : sl.length = ls.length) (hj : j < ls.length) (u : Value) (x : List Int) :
    (sl.set j u).zip (ls.set j x) = (sl.take j).zip (ls.take j) ++ (u, x) :: (sl.drop (j + 1)).zip (ls.drop (j + 1)) := by
  rw [List.set_eq_take_append_cons_drop, List.set_eq_take_append_cons_drop, if_pos (by omega), if_pos hj, List.zip_append (by rw [List.length_take, List.length_take]; omega), List.zip_cons_cons]
theorem zip_mid {sl : List Value} {ls : List (List Int)} {j : Nat} (hs : sl.length = ls.length) (hj : j < ls.length) :
    sl.zip ls = (sl.take j).zip (ls.take j) ++ (sl[j]'(by omega), ls[j]) :: (sl.drop (j + 1)).zip (ls.drop (j + 1)) := by
  have := zip_split (M := ls.take j) hs (by rw [List.length_take]; omega) hj
  rw [List.take_append_drop] at this
  exact this
/-- One list of a graph replaced by one that turned in its block, or by a new one. -/
theorem Lists.put {B : Nat} {w w' : World} {sl : List Value} {ls : List (List Int)} {R : List (Value × List Int)} {j : Nat} {u : Value} {x : List Int} (hs : sl.length = ls.length) (hj : j < ls.length) (h : Lists B w (sl.zip ls ++ R)) (hg : w.grownBy w' (sl[j]'(by omega)).ownBlock) (hown : w'.ownsRow B 3 1 u x.length (I x))
    (hv : ∀ b, u.ownBlock = some b → (sl[j]'(by omega)).ownBlock = some b ∨ w.heap.size ≤ b) : Lists B w' ((sl.set j u).zip (ls.set j x) ++ R) := by
  rw [zip_set hs hj, List.append_assoc, List.cons_append]
  rw [zip_mid hs hj, List.append_assoc, List.cons_append] at h
  exact h.turn hg hown hv
end Go.Proofs.Ytaaedgniicnnmaa

/- Walks: a need that is dropped. -/
namespace Go.Proofs.Ytaaedgniicnnmaa
open Go.RowKit Pth

/-- There is such a need. -/
noncomputable def dropOk (ls : List (List Int)) (l : List Int) (t x : Int) : Bool := taskG ls l t && hasL (needsAt ls t) x
noncomputable def dropG (ls : List (List Int)) (l : List Int) (t x : Int) : List (List Int) := if dropOk ls l t x then ls.set t.toNat (dropL (needsAt ls t) x) else []
noncomputable def dropO (ls : List (List Int)) (l : List Int) (t x : Int) : List Int := if dropOk ls l t x then l else []
theorem drop_no {ls : List (List Int)} {l : List Int} {t x : Int} (h : dropOk ls l t x = false) : dropG ls l t x = [] ∧ dropO ls l t x = [] := by
  unfold dropG dropO; rw [h]; exact ⟨rfl, rfl⟩
theorem drop_yes {ls : List (List Int)} {l : List Int} {t x : Int} (h : dropOk ls l t x = true) : dropG ls l t x = ls.set t.toNat (dropL (needsAt ls t) x) ∧ dropO ls l t x = l := by
  unfold dropG dropO; rw [h]; exact ⟨rfl, rfl⟩

set_option maxRecDepth 20000 in
set_option maxHeartbeats 8000000 in
theorem implDrop_any (ls : List (List Int)) (l : List Int) (t x : Int) (v : Value) (w : World) (hst : GraphV w v ls l) :
    Calls Try.prog 22 #[v, .int .i64 t, .int .i64 x] w (GraphOk (dropG ls l t x) (dropO ls l t x) (dropOk ls l t x) w) := by
  have HV := Lib.hid hst
  obtain ⟨nv, ov, rfl, h1, h2⟩ := hst
  have H1 := Lib.hid h1
  obtain ⟨an, cn, rfl, hn1, hn2, hat⟩ := h1.lists
  obtain ⟨ao, co, rfl, ho1, ho2, _⟩ := h2.ints
  clear h1 h2
  unfold maxLen at hn2 ho2
  obtain ⟨W0, hW0⟩ : ∃ W0, W0 = (w.alloc (.cells #[.slice an ls.length cn, .slice ao l.length co] 26)).alloc (.cells #[.slice none 0 0, .slice none 0 0] 26) := ⟨_, rfl⟩
  have e1 : (w.alloc (.cells #[.slice an ls.length cn, .slice ao l.length co] 26)).heap.size = w.heap.size + 1 := by simp
  have P0 : Hid (Blk2 W0 w.heap.size 26 (.slice an ls.length cn) (.slice ao l.length co)) := by rw [hW0]; exact Blk2.new.old _
  have R0 : Hid (Blk2 W0 (w.heap.size + 1) 26 (.slice none 0 0) (.slice none 0 0)) := by
    have := Blk2.new (w := w.alloc (.cells #[.slice an ls.length cn, .slice ao l.length co] 26)) (t := 26) (x := .slice none 0 0) (y := .slice none 0 0)
    rw [e1] at this
    rw [hW0]; exact this
  have HB0 : Hid (Below w.heap.size w W0) := by rw [hW0]; exact ((Below.refl w.heap.size w).alloc (Nat.le_refl _) _).alloc (by rw [e1]; omega) _
  have hz0 : w.heap.size + 2 ≤ W0.heap.size := by rw [hW0]; simp
  have HZ0 := Lib.hid hz0
  have HW0 := Lib.hid hW0
  clear hW0 e1 hz0
  obtain ⟨c0, c1⟩ := P0.out.cells
  have HC := implGood_any ls l _ W0 (HV.out.below HB0.out)
  rcases hG : goodG ls l with _ | _
  · have hd : dropOk ls l t x = false := by unfold dropOk; rw [taskG_good hG]; rfl
    rw [hd, (drop_no hd).1, (drop_no hd).2]
    rw [hG] at HC
    have HCC := Lib.hid HC
    clear HC hG hat hd
    go_enter Try.func22, Try.ntmps22
    go_wp2_with fail
    rw [← HW0.out]
    refine HCC.out.mono ?_
    rintro e w1 ⟨rfl, hb1⟩
    have HB1 := Lib.hid (bth HB0.out hb1 (Nat.le_refl _))
    have R1 := Lib.hid (R0.out.below hb1 (by have := HZ0.out; omega))
    clear hb1 c0 c1
    have q0 := R1.out.cells.1
    have q1 := R1.out.cells.2
    have f0 := R1.out.soft 0
    have f1 := R1.out.soft 1
    have HZ := Lib.hid ((R1.out.set0 (.slice none 0 0)).set1 (.slice none 0 0))
    go_wp2_with fail
    refine bodyPost_ret (results_cell2 rfl rfl (load_store2 HZ.out.cells.1 HZ.out.cells.2)) rfl ?_
    exact ⟨_, rfl, GraphO.none _ _, (HB1.out.setCell (p := ⟨w.heap.size + 1, 0, none⟩) (by show w.heap.size ≤ w.heap.size + 1; omega) _).setCell (p := ⟨w.heap.size + 1, 1, none⟩) (by show w.heap.size ≤ w.heap.size + 1; omega) _⟩
  · rw [hG] at HC
    have HCC := Lib.hid HC
    have HGG := Lib.hid (goodG_iff.1 hG)
    have hT := taskG_in (k := t) hG
    rcases hb : (decide (0 ≤ t) && decide (t < (ls.length : Int))) with _ | _
    · have hd : dropOk ls l t x = false := by unfold dropOk; rw [hT, hb]; rfl
      rw [hd, (drop_no hd).1, (drop_no hd).2]
      have HI := Lib.hid (fun W (h : GraphV W _ ls l) => isTask_b (v := .agg #[.slice an ls.length cn, .slice ao l.length co]) (w := W) h hb)
      clear HC hG hb hT hat hd
      go_enter Try.func22, Try.ntmps22
      go_wp2_with fail
      rw [← HW0.out]
      refine HCC.out.mono ?_
      rintro e w1 ⟨rfl, hb1⟩
      have HB1 := Lib.hid (bth HB0.out hb1 (Nat.le_refl _))
      have P1 := P0.out.below hb1 (by have := HZ0.out; omega)
      have R1 := Lib.hid (R0.out.below hb1 (by have := HZ0.out; omega))
      have s1 := Nat.le_trans HZ0.out hb1.size
      obtain ⟨d0, d1⟩ := P1.cells
      clear hb1 c0 c1 P1
      go_wp2_with fail
      refine (HI.out _ (HV.out.below HB1.out)).mono ?_
      rintro e w2 ⟨rfl, hb2⟩
      have HB2 := Lib.hid (bth HB1.out hb2 (Nat.le_refl _))
      have R2 := Lib.hid (R1.out.below hb2 (by omega))
      clear hb2 d0 d1
      have q0 := R2.out.cells.1
      have q1 := R2.out.cells.2
      have f0 := R2.out.soft 0
      have f1 := R2.out.soft 1
      have HZ := Lib.hid ((R2.out.set0 (.slice none 0 0)).set1 (.slice none 0 0))
      go_wp2_with fail
      refine bodyPost_ret (results_cell2 rfl rfl (load_store2 HZ.out.cells.1 HZ.out.cells.2)) rfl ?_
      exact ⟨_, rfl, GraphO.none _ _, (HB2.out.setCell (p := ⟨w.heap.size + 1, 0, none⟩) (by show w.heap.size ≤ w.heap.size + 1; omega) _).setCell (p := ⟨w.heap.size + 1, 1, none⟩) (by show w.heap.size ≤ w.heap.size + 1; omega) _⟩
    · have HI := Lib.hid (fun W (h : GraphV W _ ls l) => isTask_b (v := .agg #[.slice an ls.length cn, .slice ao l.length co]) (w := W) h hb)
      rw [hb] at hT
      obtain ⟨_, ht0, ht1⟩ := taskG_yes hT
      obtain ⟨j, rfl⟩ : ∃ j : Nat, t = j := ⟨t.toNat, by omega⟩
      have hj : j < ls.length := by omega
      obtain ⟨g, o, a2, c2, rfl, hg, hcell0, hrk⟩ := hat j hj
      have HRK := Lib.hid hrk
      have hkk : dropOk ls l (j : Int) x = hasL ls[j] x := by unfold dropOk; rw [hT, needsAt_get hj]; rfl
      by_cases hm : x ∈ ls[j]
      · have hd : dropOk ls l (j : Int) x = true := by rw [hkk, hasL, decide_eq_true_iff]; exact hm
        have HD1 := Lib.hid (drop_yes hd).1
        rw [hd, (drop_yes hd).2]
        have hpl := place_mem hm
        have hp0 : ¬ ((pos ls[j] x : Int) < 0) := by omega
        have hpp := pos_lt hm
        have HDA := Lib.hid (drop_at ((HGG.out.each j hj).1.1) hm)
        have HLS : Hid (ls.length + total ls + l.length ≤ 1000000) := by
          have h10 := HGG.out.high
          have hs := HGG.out.same
          have : ∀ m : List (List Int), (∀ k (hk : k < m.length), m[k].length ≤ 10) → total m ≤ 10 * m.length := by
            intro m
            induction m with
            | nil => intro _; simp [total]
            | cons y q ih =>
              intro h
              have h0 := h 0 (by simp)
              have h1 := ih (fun k hk => by have := h (k + 1) (by simp; omega); simpa using this)
              simp only [List.getElem_cons_zero] at h0
              simp only [total, List.map_cons, List.sum_cons, List.length_cons] at h1 ⊢
              omega
          have hk := this ls (fun k hk => by
            have hw := (HGG.out.each k hk).1
            have := rise_len hw.1 hw.2 (by omega)
            omega)
          show _ ≤ _
          omega
        have HIX := Lib.hid (fun W (h : RowV W (.slice a2 ls[j].length c2) (I ls[j])) => index_any ls[j] x _ W h)
        rw [hpl] at HIX
        have HDE := Lib.hid (fun B u W (h : World.ownsRow W B 3 1 u ls[j].length (I ls[j])) => delete_any ls[j] (pos ls[j] x) hpp u B W h)
        rw [HDA.out] at HDE
        have h63 : pos ls[j] x + 1 ≤ 1000000 := by have := total_at hj; have := HLS.out; omega
        have HOG := Lib.hid (fun W (h : GraphV W _ ls l) => ownGraph_any ls l (.agg #[.slice (some ⟨g, o, none⟩) ls.length cn, .slice ao l.length co]) W h HLS.out)
        rw [needsAt_get hj] at HD1
        clear HC hG hb hT hat hd hkk hm hpl hrk hpp HDA
        generalize hdl : dropL ls[j] x = dl at HD1 HDE
        clear hdl
        generalize pos ls[j] x = p at *
        have hj2 : (j : Int) < (ls.length : Int) := by omega
        rw [show ((j : Int)).toNat = j by omega] at HD1
        rw [HD1.out]
        go_enter Try.func22, Try.ntmps22
        go_wp2_with fail
        rw [← HW0.out]
        refine HCC.out.mono ?_
        rintro e w1 ⟨rfl, hb1⟩
        have HB1 := Lib.hid (bth HB0.out hb1 (Nat.le_refl _))
        have P1 := Lib.hid (P0.out.below hb1 (by have := HZ0.out; omega))
        have R1 := Lib.hid (R0.out.below hb1 (by have := HZ0.out; omega))
        have s1 := Nat.le_trans HZ0.out hb1.size
        obtain ⟨d0, d1⟩ := P1.out.cells
        clear hb1 c0 c1
        go_wp2_with fail
        refine (HI.out _ (HV.out.below HB1.out)).mono ?_
        rintro e w2 ⟨rfl, hb2⟩
        have HB2 := Lib.hid (bth HB1.out hb2 (Nat.le_refl _))
        have P2 := Lib.hid (P1.out.below hb2 (by omega))
        have R2 := Lib.hid (R1.out.below hb2 (by omega))
        have s2 := Nat.le_trans s1 hb2.size
        have hcell : w2.cell? ⟨g, o + j, none⟩ = some (.slice a2 ls[j].length c2) := by rw [HB2.out.cell (p := ⟨g, o + j, none⟩) hg]; exact hcell0
        have HX2 := Lib.hid (HIX.out w2 (HRK.out.below HB2.out))
        clear hb2 d0 d1 HI HCC
        obtain ⟨d0, d1⟩ := P2.out.cells
        generalize hnj : ls[j].length = nj at hcell HX2 HDE HIX
        go_wp2_with fail
        refine HX2.out.mono ?_
        rintro e w3 ⟨rfl, rfl⟩
        go_wp2_with fail
        refine (HOG.out _ (HV.out.below HB2.out)).mono ?_
        rintro e w4 ⟨v4, rfl, ho4, hb4⟩
        have HB4 := Lib.hid (bth HB2.out hb4 (Nat.le_refl _))
        have R4 := Lib.hid (R2.out.below hb4 (by omega))
        have s4 := Nat.le_trans s2 hb4.size
        obtain ⟨nv, ov, sl, hv4, hs4, hn4, hL4⟩ := ho4
        obtain ⟨b1, d1', rfl⟩ := own_slice hn4
        obtain ⟨b2, d2', hov⟩ := own_slice (hL4.1 (ov, l) (List.mem_append.2 (.inr (List.mem_singleton.2 rfl))))
        simp only at hov
        subst hov hv4
        obtain ⟨w5, hw5⟩ : ∃ w5, w5 = w4.alloc (.cells #[.slice b1 ls.length d1', .slice b2 l.length d2'] 26) := ⟨_, rfl⟩
        have hA5 : Below w4.heap.size w4 w5 := by rw [hw5]; exact (Below.refl w4.heap.size w4).alloc (Nat.le_refl _) _
        have G5 : Hid (Blk2 w5 w4.heap.size 26 (.slice b1 ls.length d1') (.slice b2 l.length d2')) := by rw [hw5]; exact Blk2.new
        have hn5 := own_below hn4 hA5
        have hL5 := hL4.below hA5
        have HB5 := Lib.hid (bth HB4.out hA5 (Nat.le_refl _))
        have R5 := Lib.hid (R4.out.below hA5 (by omega))
        have hsj : j < sl.length := by omega
        obtain ⟨gN, hb1, hc1⟩ : ∃ gN, b1 = some ⟨gN, 0, none⟩ ∧ ls.length ≤ d1' := by
          rcases hn5.2 with ⟨_, h0⟩ | ⟨gN, cap, cur, hv, _, _, hcap, _⟩
          · omega
          · injection hv with hv1 _ hv3; exact ⟨gN, hv1, by omega⟩
        subst hb1
        obtain ⟨ya, yc, hyj⟩ := own_slice (hL5.1 (sl[j], ls[j]) (List.mem_append.2 (.inl (zip_get hsj hj))))
        simp only at hyj
        have hoj := hL5.1 (sl[j], ls[j]) (List.mem_append.2 (.inl (zip_get hsj hj)))
        simp only at hoj
        rw [hnj] at hyj hoj
        have s45 : w5.heap.size = w4.heap.size + 1 := by rw [hw5]; simp
        have hr5 : w5.cell? ⟨gN, j, none⟩ = some (.slice ya nj yc) := by rw [hn5.cellAt j (by omega), List.getElem?_eq_getElem hsj, hyj]
        have HN5 := Lib.hid hn5
        have HL5 := Lib.hid hL5
        have HYJ := Lib.hid hyj
        rw [hyj] at hoj
        have HOJ := Lib.hid hoj
        have Hw5 := Lib.hid hw5
        have hp1 : ((p + 1 : Nat) : Int) = (p : Int) + 1 := by omega
        rw [hp1] at HDE
        have g0 := G5.out.cells.1
        have hbl : w4.heap.size < w5.heap.size := by omega
        have HNJ := Lib.hid hnj
        have HS45 := Lib.hid s45
        have HS4 := Lib.hid s4
        have HZ2 := Lib.hid s2
        have hwrap : IntKind.i64.wrap ((p : Int) + 1) = (p : Int) + 1 := by rw [IntKind.wrap_i64]; omega
        have HHS := Lib.hid hs4
        have HBL := Lib.hid hbl
        have HJ := Lib.hid hj
        have HSJ := Lib.hid hsj
        clear s45 hb4 hA5 hn4 hL4 hn5 hL5 hyj hoj hw5 hp1 d0 d1 hcell HX2 HIX HOG hnj
        go_wp2_with fail
        rw [← Hw5.out]
        have ks : w5.cell? ⟨w4.heap.size, 0, none⟩ = some (.slice (some ⟨gN, 0, none⟩) ls.length d1') := g0
        have nN : gN ≠ w4.heap.size := fun e => blk_ne (g := 0) G5.out HN5.out (by decide) gN rfl e.symm
        clear g0 h63 s1 s2 s4 hs4 hbl hn1 hn2 ho1 ho2
        go_region_law
          (first
            | (go_simp; go_at_call 64
               refine (HDE.out w2.heap.size (.slice ya nj yc) w5.drew HOJ.out).mono ?_
               rintro e w6 ⟨v6, rfl, hvb, ho6, hg6⟩
               have hg6' : w5.grownBy w6 (Value.slice ya nj yc).ownBlock := ⟨hg6.os, hg6.tape, hg6.output, hg6.size, hg6.block⟩
               have HVB := Lib.hid hvb
               have HO6 := Lib.hid ho6
               have HG6 := Lib.hid hg6'
               have nb : (Value.slice ya nj yc).ownBlock ≠ some w4.heap.size := fun e => blk_ne (g := 0) G5.out HOJ.out (by decide) w4.heap.size e rfl
               have G6 := Lib.hid (G5.out.beside hg6' nb)
               have HN6 := Lib.hid (own_apartI HN5.out hg6' (fun i hi hi' => own_typesI HN5.out HOJ.out (by decide) i hi' hi))
               have ks := G6.out.cells.1
               have hr6 : w6.cell? ⟨gN, j, none⟩ = some (.slice ya nj yc) := by rw [HN6.out.cellAt j (by omega), List.getElem?_eq_getElem hsj, HYJ.out]
               have hf6 := HN6.out.frozenAt j
               obtain ⟨za, zc, rfl⟩ := own_slice ho6
               clear hg6 hg6' hvb ho6 nb))
        all_goals
          have hst := HN6.out.stored j (.slice za dl.length zc)
          have hLp := HL5.out.put (u := .slice za dl.length zc) (x := dl) HHS.out HJ.out (by rw [HYJ.out]; exact HG6.out) HO6.out (fun i hi => .inl (by rw [HYJ.out]; exact HVB.out i hi))
          have HL7 := Lib.hid (hLp.outer HN6.out (by decide) hst.2)
          have HN7 := Lib.hid hst.1
          have G7 := Lib.hid (G6.out.beside hst.2 (fun e => nN (Option.some.inj e)))
          have hb6 := HG6.out.size
          have R6 := Lib.hid (R5.out.beside HG6.out (fun e => by have := (HOJ.out.lt _ e).1; have := HZ2.out; omega))
          have R7 := Lib.hid (R6.out.beside hst.2 (fun e => by have := (HN5.out.lt gN rfl).1; have := HZ2.out; have := Option.some.inj e; omega))
          have HB6 : Hid (Below w.heap.size w w6) := HB5.out.trans ((Below.refl w.heap.size w5).grown HG6.out HB5.out.size (fun i hi => by have := (HOJ.out.lt i hi).1; have := HZ2.out; omega))
          have HB7 := Lib.hid (HB6.out.trans (only_below hst.2 (by have := (HN5.out.lt gN rfl).1; have := HZ2.out; omega) HB6.out.size))
          have x0 := G7.out.cells.1
          have x1 := G7.out.cells.2
          have q0 := R7.out.cells.1
          have q1 := R7.out.cells.2
          have f0 := R7.out.soft 0
          have f1 := R7.out.soft 1
          have HZ := Lib.hid ((R7.out.set0 (.slice (some ⟨gN, 0, none⟩) ls.length d1')).set1 (.slice b2 l.length d2'))
          clear hst hLp
          go_wp2_with fail
          refine bodyPost_ret (results_cell2 rfl rfl (load_store2 HZ.out.cells.1 HZ.out.cells.2)) rfl ?_
          have hz : w.heap.size + 1 < w2.heap.size := by have := HZ2.out; omega
          refine ⟨_, rfl, ⟨_, _, sl.set j (.slice za dl.length zc), rfl, by rw [List.length_set, List.length_set]; exact HHS.out, by rw [List.length_set]; exact own_base (own_setI (own_setI HN7.out (p := ⟨w.heap.size + 1, 0, none⟩) hz _) (p := ⟨w.heap.size + 1, 1, none⟩) hz _) (by omega), ((HL7.out.set (p := ⟨w.heap.size + 1, 0, none⟩) hz _).set (p := ⟨w.heap.size + 1, 1, none⟩) hz _).base (by omega)⟩, ?_⟩
          exact (HB7.out.setCell (p := ⟨w.heap.size + 1, 0, none⟩) (by show w.heap.size ≤ w.heap.size + 1; omega) _).setCell (p := ⟨w.heap.size + 1, 1, none⟩) (by show w.heap.size ≤ w.heap.size + 1; omega) _
      · have hd : dropOk ls l (j : Int) x = false := by rw [hkk, hasL, decide_eq_false_iff_not]; exact hm
        rw [hd, (drop_no hd).1, (drop_no hd).2]
        have hpl := place_none hm
        have HIX := Lib.hid (fun W (h : RowV W (.slice a2 ls[j].length c2) (I ls[j])) => index_any ls[j] x _ W h)
        rw [hpl] at HIX
        clear HC hG hb hT hat hd hkk hm hpl hrk
        have hj2 : (j : Int) < (ls.length : Int) := by omega
        go_enter Try.func22, Try.ntmps22
        go_wp2_with fail
        rw [← HW0.out]
        refine HCC.out.mono ?_
        rintro e w1 ⟨rfl, hb1⟩
        have HB1 := Lib.hid (bth HB0.out hb1 (Nat.le_refl _))
        have P1 := Lib.hid (P0.out.below hb1 (by have := HZ0.out; omega))
        have R1 := Lib.hid (R0.out.below hb1 (by have := HZ0.out; omega))
        have s1 := Nat.le_trans HZ0.out hb1.size
        obtain ⟨d0, d1⟩ := P1.out.cells
        clear hb1 c0 c1
        go_wp2_with fail
        refine (HI.out _ (HV.out.below HB1.out)).mono ?_
        rintro e w2 ⟨rfl, hb2⟩
        have HB2 := Lib.hid (bth HB1.out hb2 (Nat.le_refl _))
        have P2 := Lib.hid (P1.out.below hb2 (by omega))
        have R2 := Lib.hid (R1.out.below hb2 (by omega))
        have hcell : w2.cell? ⟨g, o + j, none⟩ = some (.slice a2 ls[j].length c2) := by rw [HB2.out.cell (p := ⟨g, o + j, none⟩) hg]; exact hcell0
        have HX2 := Lib.hid (HIX.out w2 (HRK.out.below HB2.out))
        clear hb2 d0 d1 HI HCC
        obtain ⟨d0, d1⟩ := P2.out.cells
        generalize hnj : ls[j].length = nj at hcell HX2 HIX
        go_wp2_with fail
        refine HX2.out.mono ?_
        rintro e w3 ⟨rfl, rfl⟩
        have q0 := R2.out.cells.1
        have q1 := R2.out.cells.2
        have f0 := R2.out.soft 0
        have f1 := R2.out.soft 1
        have HZ := Lib.hid ((R2.out.set0 (.slice none 0 0)).set1 (.slice none 0 0))
        go_wp2_with fail
        refine bodyPost_ret (results_cell2 rfl rfl (load_store2 HZ.out.cells.1 HZ.out.cells.2)) rfl ?_
        exact ⟨_, rfl, GraphO.none _ _, (HB2.out.setCell (p := ⟨w.heap.size + 1, 0, none⟩) (by show w.heap.size ≤ w.heap.size + 1; omega) _).setCell (p := ⟨w.heap.size + 1, 1, none⟩) (by show w.heap.size ≤ w.heap.size + 1; omega) _⟩
end Go.Proofs.Ytaaedgniicnnmaa

/- Walks: a need that is dropped, as the reference has it. -/
namespace Go.Proofs.Ytaaedgniicnnmaa
open Go.RowKit Pth

theorem drop_keep {l : List Int} {x : Int} {k : Nat} (hk : k < l.length) (h : l[k] ≠ x) : dropL (l.take (k + 1)) x = dropL (l.take k) x ++ [l[k]] := by
  unfold dropL
  rw [List.take_succ_eq_append_getElem hk, List.filter_append]
  simp [h]
theorem drop_skip {l : List Int} {x : Int} {k : Nat} (hk : k < l.length) (h : l[k] = x) : dropL (l.take (k + 1)) x = dropL (l.take k) x := by
  unfold dropL
  rw [List.take_succ_eq_append_getElem hk, List.filter_append]
  simp [h]
theorem drop_len (l : List Int) (x : Int) : (dropL l x).length ≤ l.length := List.length_filter_le _ _

set_option maxRecDepth 20000 in
set_option maxHeartbeats 8000000 in
theorem specDrop_any (ls : List (List Int)) (l : List Int) (t x : Int) (v : Value) (w : World) (hst : GraphV w v ls l) :
    Calls Try.prog 27 #[v, .int .i64 t, .int .i64 x] w (GraphOk (dropG ls l t x) (dropO ls l t x) (dropOk ls l t x) w) := by
  have HV := Lib.hid hst
  obtain ⟨nv, ov, rfl, h1, h2⟩ := hst
  have H1 := Lib.hid h1
  obtain ⟨an, cn, rfl, hn1, hn2, hat⟩ := h1.lists
  obtain ⟨ao, co, rfl, ho1, ho2, _⟩ := h2.ints
  clear h1 h2
  unfold maxLen at hn2 ho2
  obtain ⟨W0, hW0⟩ : ∃ W0, W0 = (w.alloc (.cells #[.slice an ls.length cn, .slice ao l.length co] 26)).alloc (.cells #[.slice none 0 0, .slice none 0 0] 26) := ⟨_, rfl⟩
  have e1 : (w.alloc (.cells #[.slice an ls.length cn, .slice ao l.length co] 26)).heap.size = w.heap.size + 1 := by simp
  have P0 : Hid (Blk2 W0 w.heap.size 26 (.slice an ls.length cn) (.slice ao l.length co)) := by rw [hW0]; exact Blk2.new.old _
  have R0 : Hid (Blk2 W0 (w.heap.size + 1) 26 (.slice none 0 0) (.slice none 0 0)) := by
    have := Blk2.new (w := w.alloc (.cells #[.slice an ls.length cn, .slice ao l.length co] 26)) (t := 26) (x := .slice none 0 0) (y := .slice none 0 0)
    rw [e1] at this
    rw [hW0]; exact this
  have HB0 : Hid (Below w.heap.size w W0) := by rw [hW0]; exact ((Below.refl w.heap.size w).alloc (Nat.le_refl _) _).alloc (by rw [e1]; omega) _
  have hz0 : w.heap.size + 2 ≤ W0.heap.size := by rw [hW0]; simp
  have HZ0 := Lib.hid hz0
  have HW0 := Lib.hid hW0
  clear hW0 e1 hz0
  obtain ⟨c0, c1⟩ := P0.out.cells
  have HC := l5Task_any ls l t _ W0 (HV.out.below HB0.out)
  rcases hT : taskG ls l t with _ | _
  · have hd : dropOk ls l t x = false := by unfold dropOk; rw [hT]; rfl
    rw [hd, (drop_no hd).1, (drop_no hd).2]
    rw [hT] at HC
    have HCC := Lib.hid HC
    clear HC hT hat hd
    go_enter Try.func27, Try.ntmps27
    go_wp2_with fail
    rw [← HW0.out]
    refine HCC.out.mono ?_
    rintro e w1 ⟨rfl, hb1⟩
    have HB1 := Lib.hid (bth HB0.out hb1 (Nat.le_refl _))
    have R1 := Lib.hid (R0.out.below hb1 (by have := HZ0.out; omega))
    clear hb1 c0 c1
    have q0 := R1.out.cells.1
    have q1 := R1.out.cells.2
    have f0 := R1.out.soft 0
    have f1 := R1.out.soft 1
    have HZ := Lib.hid ((R1.out.set0 (.slice none 0 0)).set1 (.slice none 0 0))
    go_wp2_with fail
    refine bodyPost_ret (results_cell2 rfl rfl (load_store2 HZ.out.cells.1 HZ.out.cells.2)) rfl ?_
    exact ⟨_, rfl, GraphO.none _ _, (HB1.out.setCell (p := ⟨w.heap.size + 1, 0, none⟩) (by show w.heap.size ≤ w.heap.size + 1; omega) _).setCell (p := ⟨w.heap.size + 1, 1, none⟩) (by show w.heap.size ≤ w.heap.size + 1; omega) _⟩
  · rw [hT] at HC
    have HCC := Lib.hid HC
    obtain ⟨hGG, ht0, ht1⟩ := taskG_yes hT
    have HGG := Lib.hid hGG
    obtain ⟨j, rfl⟩ : ∃ j : Nat, t = j := ⟨t.toNat, by omega⟩
    have hj : j < ls.length := by omega
    obtain ⟨g, o, a2, c2, rfl, hg, hcell0, hrk⟩ := hat j hj
    have HRK := Lib.hid hrk
    have hkk : dropOk ls l (j : Int) x = hasL ls[j] x := by unfold dropOk; rw [hT, needsAt_get hj]; rfl
    have hj2 : (j : Int) < (ls.length : Int) := by omega
    have HHX := fun W (h : RowV W (.slice a2 ls[j].length c2) (I ls[j])) => l1Has_any ls[j] x _ W h
    rcases hm : hasL ls[j] x with _ | _
    · rw [hm] at hkk HHX
      rw [hkk, (drop_no hkk).1, (drop_no hkk).2]
      have HIX := Lib.hid HHX
      clear HC hT hat hkk hm hrk HHX hGG
      go_enter Try.func27, Try.ntmps27
      go_wp2_with fail
      rw [← HW0.out]
      refine HCC.out.mono ?_
      rintro e w1 ⟨rfl, hb1⟩
      have HB1 := Lib.hid (bth HB0.out hb1 (Nat.le_refl _))
      have P1 := Lib.hid (P0.out.below hb1 (by have := HZ0.out; omega))
      have R1 := Lib.hid (R0.out.below hb1 (by have := HZ0.out; omega))
      have hcell : w1.cell? ⟨g, o + j, none⟩ = some (.slice a2 ls[j].length c2) := by rw [HB1.out.cell (p := ⟨g, o + j, none⟩) hg]; exact hcell0
      have HX1 := Lib.hid (HIX.out w1 (HRK.out.below HB1.out))
      clear hb1 c0 c1
      obtain ⟨d0, d1⟩ := P1.out.cells
      generalize hnj : ls[j].length = nj at hcell HX1 HIX
      go_wp2_with fail
      refine HX1.out.mono ?_
      rintro e w2 ⟨rfl, rfl⟩
      have q0 := R1.out.cells.1
      have q1 := R1.out.cells.2
      have f0 := R1.out.soft 0
      have f1 := R1.out.soft 1
      have HZ := Lib.hid ((R1.out.set0 (.slice none 0 0)).set1 (.slice none 0 0))
      go_wp2_with fail
      refine bodyPost_ret (results_cell2 rfl rfl (load_store2 HZ.out.cells.1 HZ.out.cells.2)) rfl ?_
      exact ⟨_, rfl, GraphO.none _ _, (HB1.out.setCell (p := ⟨w.heap.size + 1, 0, none⟩) (by show w.heap.size ≤ w.heap.size + 1; omega) _).setCell (p := ⟨w.heap.size + 1, 1, none⟩) (by show w.heap.size ≤ w.heap.size + 1; omega) _⟩
    · rw [hm] at hkk HHX
      have HD1 := Lib.hid (drop_yes hkk).1
      rw [hkk, (drop_yes hkk).2]
      have HIX := Lib.hid HHX
      have hjl : ls[j].length ≤ 10 := by
        have hw := (hGG.each j hj).1
        have := rise_len hw.1 hw.2 (by omega)
        have := hGG.high
        omega
      have HLS : Hid (ls.length + total ls + l.length ≤ 1000) := by
        have h10 := HGG.out.high
        have hs := HGG.out.same
        have : ∀ m : List (List Int), (∀ k (hk : k < m.length), m[k].length ≤ 10) → total m ≤ 10 * m.length := by
          intro m
          induction m with
          | nil => intro _; simp [total]
          | cons y q ih =>
            intro h
            have h0 := h 0 (by simp)
            have h1 := ih (fun k hk => by have := h (k + 1) (by simp; omega); simpa using this)
            simp only [List.getElem_cons_zero] at h0
            simp only [total, List.map_cons, List.sum_cons, List.length_cons] at h1 ⊢
            omega
        have hk := this ls (fun k hk => by
          have hw := (HGG.out.each k hk).1
          have := rise_len hw.1 hw.2 (by omega)
          omega)
        show _ ≤ _
        omega
      have HOG := Lib.hid (fun W (h : GraphV W _ ls l) => l5Own_any ls l (.agg #[.slice (some ⟨g, o, none⟩) ls.length cn, .slice ao l.length co]) W h HLS.out)
      rw [needsAt_get hj, show ((j : Int)).toNat = j by omega] at HD1
      rw [HD1.out]
      obtain ⟨a3, c3, he3, hr1, hr2, hatk⟩ := hrk.ints
      injection he3 with he3 _ he4
      subst he3 he4
      unfold maxLen at hr2
      clear HC hT hat hkk hm hrk HHX hGG HD1
      go_enter Try.func27, Try.ntmps27
      go_wp2_with fail
      rw [← HW0.out]
      refine HCC.out.mono ?_
      rintro e w1 ⟨rfl, hb1⟩
      have HB1 := Lib.hid (bth HB0.out hb1 (Nat.le_refl _))
      have P1 := Lib.hid (P0.out.below hb1 (by have := HZ0.out; omega))
      have R1 := Lib.hid (R0.out.below hb1 (by have := HZ0.out; omega))
      have s1 := Nat.le_trans HZ0.out hb1.size
      have hcell : w1.cell? ⟨g, o + j, none⟩ = some (.slice a2 ls[j].length c2) := by rw [HB1.out.cell (p := ⟨g, o + j, none⟩) hg]; exact hcell0
      have HX1 := Lib.hid (HIX.out w1 (HRK.out.below HB1.out))
      clear hb1 c0 c1
      obtain ⟨d0, d1⟩ := P1.out.cells
      go_wp2_with fail
      refine HX1.out.mono ?_
      rintro e w2 ⟨rfl, rfl⟩
      go_wp2_with fail
      refine (HOG.out _ (HV.out.below HB1.out)).mono ?_
      rintro e w4 ⟨v4, rfl, ho4, hb4⟩
      have HB4 := Lib.hid (bth HB1.out hb4 (Nat.le_refl _))
      have R4 := Lib.hid (R1.out.below hb4 (by omega))
      have P4 := Lib.hid (P1.out.below hb4 (by omega))
      have s4 := Nat.le_trans s1 hb4.size
      have s14 := hb4.size
      obtain ⟨nv, ov, sl, hv4, hs4, hn4, hL4⟩ := ho4
      obtain ⟨b1, d1', rfl⟩ := own_slice hn4
      obtain ⟨b2, d2', hov⟩ := own_slice (hL4.1 (ov, l) (List.mem_append.2 (.inr (List.mem_singleton.2 rfl))))
      simp only at hov
      subst hov hv4
      obtain ⟨w5, hw5⟩ : ∃ w5, w5 = w4.alloc (.cells #[.slice b1 ls.length d1', .slice b2 l.length d2'] 26) := ⟨_, rfl⟩
      have hA5 : Below w4.heap.size w4 w5 := by rw [hw5]; exact (Below.refl w4.heap.size w4).alloc (Nat.le_refl _) _
      have G5 : Hid (Blk2 w5 w4.heap.size 26 (.slice b1 ls.length d1') (.slice b2 l.length d2')) := by rw [hw5]; exact Blk2.new
      have HN5 := Lib.hid (own_below hn4 hA5)
      have HL5 := Lib.hid (hL4.below hA5)
      have HB5 := Lib.hid (bth HB4.out hA5 (Nat.le_refl _))
      have R5 := Lib.hid (R4.out.below hA5 (by omega))
      have P5 := Lib.hid (P4.out.below hA5 (by omega))
      have hsj : j < sl.length := by omega
      obtain ⟨gN, hb1, hc1⟩ : ∃ gN, b1 = some ⟨gN, 0, none⟩ ∧ ls.length ≤ d1' := by
        rcases HN5.out.2 with ⟨_, h0⟩ | ⟨gN, cap, cur, hv, _, _, hcap, _⟩
        · omega
        · injection hv with hv1 _ hv3; exact ⟨gN, hv1, by omega⟩
      subst hb1
      have s45 : w5.heap.size = w4.heap.size + 1 := by rw [hw5]; simp
      have HS45 := Lib.hid s45
      have Hw5 := Lib.hid hw5
      have hcell5 : w5.cell? ⟨g, o + j, none⟩ = some (.slice a2 ls[j].length c2) := by rw [HB5.out.cell (p := ⟨g, o + j, none⟩) hg]; exact hcell0
      obtain ⟨x0, x1⟩ := P4.out.cells
      obtain ⟨y0, y1⟩ := P5.out.cells
      clear hb4 hA5 hn4 hL4 hw5 d0 d1 hcell s45
      have z4 : w.heap.size < w4.heap.size := by omega
      have hcell4 : w4.cell? ⟨g, o + j, none⟩ = some (.slice a2 ls[j].length c2) := by rw [HB4.out.cell (p := ⟨g, o + j, none⟩) hg]; exact hcell0
      have hg4 : g < w4.heap.size := Nat.lt_of_lt_of_le hg HB4.out.size
      go_wp2_with fail
      rw [← Hw5.out]
      clear x0 x1 y0 y1 hcell5 hcell4 hg4
      go_loopw [9, 35] (fun q i wr => ∃ k : Nat, k ≤ ls[j].length ∧ i = .int .i64 k ∧ Hid (wr.ownsRow w5.heap.size 3 1 q (dropL (ls[j].take k) x).length (I (dropL (ls[j].take k) x))) ∧ Hid (Below w5.heap.size w5 wr)) (fun _ i _ => ls[j].length - (intOf i).toNat)
      case atStart => exact ⟨0, Nat.zero_le _, rfl, none_ownZ _ _ _, Below.refl _ _⟩
      case round =>
        obtain ⟨k, hk, rfl, HN, HB⟩ := hrel
        have hcl := drop_len (ls[j].take k) x
        rw [List.length_take] at hcl
        by_cases hlt : k < ls[j].length
        · obtain ⟨g3, o3, rfl, hg3, hcell3⟩ := hatk k hlt
          have hcw : wr.cell? ⟨g3, o3 + k, none⟩ = some (.int .i64 ls[j][k]) := by rw [HB.out.cell (p := ⟨g3, o3 + k, none⟩) (Nat.lt_of_lt_of_le hg3 HB5.out.size), HB5.out.cell (p := ⟨g3, o3 + k, none⟩) hg3]; exact hcell3
          clear hcell3 hatk
          by_cases hx : ls[j][k] = x
          · have HE := Lib.hid (drop_skip hlt hx)
            have hx1 : (ls[j][k] != x) = false := by simp [hx]
            generalize ls[j][k] = y at *
            clear hx
            go_wp2_with fail
            go_roundw
            case rel => exact ⟨k + 1, by omega, by go_num, by rw [HE.out]; exact HN.out, HB⟩
            case measure => simp [intOf]; omega
          · have HE := Lib.hid (drop_keep hlt hx)
            have hx1 : (ls[j][k] != x) = true := by simp [hx]
            have HNA := Lib.hid (own_Z HN.out)
            have hIl : (I (dropL (ls[j].take k) x)).length ≤ 1000000 := by rw [I_len]; omega
            have hbs := HB.out.size
            generalize ls[j][k] = y at *
            generalize dropL (ls[j].take k) x = m at *
            clear hx HN
            go_wp2_with (at_builtin; refine wpAppOne elemI rfl _ _ rfl w5.heap.size _ (I m) rfl HNA.out _ rfl rfl rfl hIl hbs ?_; intro v7 w7 hown7 hg7; have HN7 := Lib.hid (own_Z2 hown7); have HB7 := Lib.hid (HB.out.trans (below_own HNA.out hg7 hbs)); clear hown7 hg7)
            go_roundw
            case rel => exact ⟨k + 1, by omega, by go_num, by rw [HE.out]; exact HN7.out, HB7⟩
            case measure => simp [intOf]; omega
        · rw [List.take_of_length_le (by omega)] at HN
          obtain ⟨za, zc, hq⟩ := own_slice HN.out
          have h4s : w4.heap.size < w5.heap.size := by have := HS45.out; omega
          have G6 := Lib.hid (G5.out.below HB.out h4s)
          have HN6 := Lib.hid (own_below HN5.out HB.out)
          have R6 := Lib.hid (R5.out.below HB.out (by omega))
          have g6 := G6.out.cells.1
          have hsl : ∃ u, sl[j]? = some u := ⟨sl[j], List.getElem?_eq_getElem hsj⟩
          obtain ⟨u6, hu6⟩ := hsl
          have hr6 : wr.cell? ⟨gN, j, none⟩ = some u6 := by rw [HN6.out.cellAt j (by omega), hu6]
          have hf6 := HN6.out.frozenAt j
          have nN : gN ≠ w4.heap.size := fun e => blk_ne (g := 0) G6.out HN6.out (by decide) gN rfl e.symm
          have hgN := (HN6.out.lt gN rfl).1
          have hst := HN6.out.stored j (.slice za (dropL ls[j] x).length zc)
          have hown := HN.out
          rw [hq] at hown
          have hLp := HL5.out.put (w' := wr) (u := .slice za (dropL ls[j] x).length zc) (x := dropL ls[j] x) hs4 hj (below_grown HB.out) (own_base hown (by omega)) (fun i hi => .inr (hown.lt i hi).1)
          have HL7 := Lib.hid (hLp.outer HN6.out (by decide) hst.2)
          have HN7 := Lib.hid hst.1
          have G7 := Lib.hid (G6.out.beside hst.2 (fun e => nN (Option.some.inj e)))
          have R7 := Lib.hid (R6.out.beside hst.2 (fun e => by have := Option.some.inj e; omega))
          have HB7 := Lib.hid ((HB5.out.trans (HB.out.mono HB5.out.size)).trans (only_below hst.2 (by omega) (Nat.le_trans HB5.out.size HB.out.size)))
          have x0 := G7.out.cells.1
          have x1 := G7.out.cells.2
          have q0 := R7.out.cells.1
          have q1 := R7.out.cells.2
          have f0 := R7.out.soft 0
          have f1 := R7.out.soft 1
          have HZ := Lib.hid ((R7.out.set0 (.slice (some ⟨gN, 0, none⟩) ls.length d1')).set1 (.slice b2 l.length d2'))
          have hz : w.heap.size + 1 < w1.heap.size := by omega
          subst hq
          clear hst hLp hown hu6 hatk
          generalize hdl : dropL ls[j] x = dl at *
          have HDL := Lib.hid hdl
          clear hdl
          go_wp2_with fail
          refine bodyPost_ret (results_cell2 rfl rfl (load_store2 HZ.out.cells.1 HZ.out.cells.2)) rfl ?_
          have hdl := HDL.out
          subst hdl
          refine ⟨_, rfl, ⟨_, _, sl.set j (.slice za (dropL ls[j] x).length zc), rfl, by rw [List.length_set, List.length_set]; exact hs4, by rw [List.length_set]; exact own_base (own_setI (own_setI HN7.out (p := ⟨w.heap.size + 1, 0, none⟩) hz _) (p := ⟨w.heap.size + 1, 1, none⟩) hz _) (by omega), ((HL7.out.set (p := ⟨w.heap.size + 1, 0, none⟩) hz _).set (p := ⟨w.heap.size + 1, 1, none⟩) hz _).base (by omega)⟩, ?_⟩
          exact (HB7.out.setCell (p := ⟨w.heap.size + 1, 0, none⟩) (by show w.heap.size ≤ w.heap.size + 1; omega) _).setCell (p := ⟨w.heap.size + 1, 1, none⟩) (by show w.heap.size ≤ w.heap.size + 1; omega) _
end Go.Proofs.Ytaaedgniicnnmaa

/- Walks: the law that graphs without a need are told alike, and that the answer owns its memory, given contracts of both programs. -/
namespace Go.Proofs.Ytaaedgniicnnmaa
open Go.RowKit Pth

set_option maxRecDepth 20000 in
set_option maxHeartbeats 16000000 in
theorem exactDropNeed_of (ls : List (List Int)) (l : List Int) (tk : Int) (nd : Int) (ts : List (List Int)) (t : List Int) (ok : Bool) (v : Value) (w : World) (hst : GraphV w v ls l) (ht : ts.length + total ts + t.length ≤ 1000)
    (hsp : ∀ W u, GraphV W u ls l → Calls Try.prog 27 #[u, .int .i64 tk, .int .i64 nd] W (GraphOk ts t ok W))
    (him : ∀ W u, GraphV W u ls l → Calls Try.prog 22 #[u, .int .i64 tk, .int .i64 nd] W (GraphOk ts t ok W)) :
    Calls Try.prog 8 #[v, .int .i64 tk, .int .i64 nd] w (YesZ w) := by
  have HST := Lib.hid hst
  have HSP := Lib.hid hsp
  have HIM := Lib.hid him
  clear hsp him
  have hne : (ok != ok) = false := by cases ok <;> rfl
  have HEQ := Lib.hid (fun W u u' (h : GraphV W u ts t) (h' : GraphV W u' ts t) => eqGraph_any ts ts t t u u' W h h' (by omega))
  rw [sameG_self] at HEQ
  have hk2 : decide (((1 + totalG ts t : Nat) : Int) < 0) = false := decide_eq_false (by omega)
  have hk3 : (((1 + totalG ts t : Nat) : Int) != ((1 + totalG ts t : Nat) : Int)) = false := by simp
  have HMT := Lib.hid (fun B u (W0 W : World) (h : GraphO B W0 u ts t) (hb : Below W0.heap.size W0 W) (hB : B ≤ W0.heap.size) => markGraph_any ts t 1 B u W0 W h hb hB (by omega) (by omega))
  have HHT := Lib.hid (fun u W (h : GraphV W u (marksL 1 ts) (marks ((1 + total ts : Nat) : Int) t.length)) => heldGraph_any ts t 1 u W h (by omega) (by omega))
  have hone : ((1 : Nat) : Int) = 1 := rfl
  rw [hone] at HMT HHT
  clear hone
  generalize 1 + totalG ts t = k2 at *
  obtain ⟨nv, ov, rfl, h1, h2⟩ := hst
  obtain ⟨an, cn, rfl, hn1, hn2, _⟩ := h1.lists
  obtain ⟨ao, co, rfl, ho1, ho2, _⟩ := h2.ints
  clear h1 h2
  unfold maxLen at hn2 ho2
  obtain ⟨wa, hwa⟩ : ∃ wa, wa = w.alloc (.cells #[.slice an ls.length cn, .slice ao l.length co] 49) := ⟨_, rfl⟩
  have hsz : wa.heap.size = w.heap.size + 1 := by rw [hwa]; simp
  have P0 : Hid (Blk2 wa w.heap.size 49 (.slice an ls.length cn) (.slice ao l.length co)) := by rw [hwa]; exact Blk2.new
  have HA : Hid (Below w.heap.size w wa) := by rw [hwa]; exact (Below.refl w.heap.size w).alloc (Nat.le_refl _) _
  have hlt0 : w.heap.size < wa.heap.size := by omega
  obtain ⟨c0, c1⟩ := P0.out.cells
  have HWA := Lib.hid hwa
  have HS := Lib.hid (szGraph_any ls l 1048576 _ wa (HST.out.below HA.out) (by omega))
  have HGV : Hid (∀ W, Below wa.heap.size wa W → GraphV W (.agg #[.slice an ls.length cn, .slice ao l.length co]) ls l) := fun W h => HST.out.below (bt HA.out h)
  clear hwa
  go_enter Try.func8, Try.ntmps8
  go_wp2_with fail
  rw [← HWA.out]
  refine HS.out.mono ?_
  rintro e w1 ⟨r, rfl, hr, hb1⟩
  have K1 := Lib.hid hb1
  clear hb1 HS c0 c1
  obtain ⟨c0, c1⟩ := (P0.out.below K1.out hlt0).cells
  by_cases h0 : r < 0
  · clear hr
    go_wp2_with fail
    go_ret
    exact ⟨rfl, bt HA.out K1.out⟩
  have hl : ls.length + total ls + l.length ≤ 1100000 := by have := hr (by omega); omega
  have hl2 : ls.length + total ls + l.length ≤ 2000000 := by omega
  clear hr
  have HTO := Lib.hid (fun W (hb : GraphV W _ ls l) => toGraph_any ls l (.agg #[.slice an ls.length cn, .slice ao l.length co]) W hb hl2)
  have hk1 : decide (((1 + totalG ls l : Nat) : Int) < 0) = false := decide_eq_false (by omega)
  have HMG := Lib.hid (fun B u (W0 W : World) (h : GraphO B W0 u ls l) (hb : Below W0.heap.size W0 W) (hB : B ≤ W0.heap.size) => markGraph_any ls l 1 B u W0 W h hb hB (by omega) (by omega))
  have hone : ((1 : Nat) : Int) = 1 := rfl
  rw [hone] at HMG
  clear hone
  generalize 1 + totalG ls l = k1 at *
  -- the reference's answer
  go_wp2_with fail
  refine (HTO.out w1 (HGV.out w1 K1.out)).mono ?_
  rintro e w2 ⟨v2, rfl, ho2', hb2⟩
  have K2 := Lib.hid (bt K1.out hb2)
  have HC2 := Lib.hid (HSP.out w2 v2 ho2'.view)
  clear hb2 ho2' c0 c1
  go_wp2_with fail
  refine HC2.out.mono ?_
  rintro e w3 ⟨v3, rfl, ho3, hb3⟩
  have K3 := Lib.hid (bt K2.out hb3)
  have HV3 := Lib.hid ho3.view
  obtain ⟨a1, e1, a2, e2, rfl⟩ := ho3.slices
  have sa3 := K3.out.size
  obtain ⟨w3b, hw3b⟩ : ∃ w3b, w3b = w3.alloc (.cells #[.slice a1 ts.length e1, .slice a2 t.length e2] 26) := ⟨_, rfl⟩
  have hAw3b : Below w3.heap.size w3 w3b := by rw [hw3b]; exact (Below.refl w3.heap.size w3).alloc (Nat.le_refl _) _
  have W3b : Hid (Blk2 w3b w3.heap.size 26 (.slice a1 ts.length e1) (.slice a2 t.length e2)) := by rw [hw3b]; exact Blk2.new
  have sw3b : w3b.heap.size = w3.heap.size + 1 := by rw [hw3b]; simp
  have Hw3b := Lib.hid hw3b
  have A3b := Lib.hid hAw3b
  have K3b := Lib.hid (bt K3.out hAw3b)
  obtain ⟨c0, c1⟩ := (P0.out.below K3.out hlt0).cells
  have zc : w.heap.size < w3.heap.size := by omega
  clear hb3 HC2 ho3 hAw3b hw3b
  -- a copy of the argument
  go_wp2_with fail
  rw [← Hw3b.out]
  refine (HTO.out w3b (HGV.out w3b K3b.out)).mono ?_
  rintro e w4 ⟨v4, rfl, ho4, hb4⟩
  have s34 := hb4.size
  have HO4 := Lib.hid ho4
  obtain ⟨b1, d1, b2, d2, rfl⟩ := ho4.slices
  obtain ⟨wb, hwb⟩ : ∃ wb, wb = w4.alloc (.cells #[.slice b1 ls.length d1, .slice b2 l.length d2] 26) := ⟨_, rfl⟩
  have X4 : Hid (Blk2 wb w4.heap.size 26 (.slice b1 ls.length d1) (.slice b2 l.length d2)) := by rw [hwb]; exact Blk2.new
  have hAB : Below w4.heap.size w4 wb := by rw [hwb]; exact (Below.refl w4.heap.size w4).alloc (Nat.le_refl _) _
  have hsb : wb.heap.size = w4.heap.size + 1 := by rw [hwb]; simp
  have E4 := Lib.hid hAB
  have A4 := Lib.hid (bt (bt A3b.out hb4) hAB)
  have F4 := Lib.hid (bt hb4 hAB)
  have K4 := Lib.hid (bt (bt K3b.out hb4) hAB)
  have W4 := Lib.hid (W3b.out.below F4.out (by omega))
  have HC5 := Lib.hid (HIM.out wb _ (ho4.below hAB).view)
  have HWB := Lib.hid hwb
  clear hb4 ho4 c0 c1 hwb hAB
  obtain ⟨x0, x1⟩ := X4.out.cells
  go_wp2_with fail
  rw [← HWB.out]
  -- the program's answer
  refine HC5.out.mono ?_
  rintro e w6 ⟨v6, rfl, hg6, hb6⟩
  have s6 := hb6.size
  have E6 := Lib.hid (bt E4.out hb6)
  have D6 := Lib.hid hb6
  have A6 := Lib.hid (bt A4.out hb6)
  have K6 := Lib.hid (bt K4.out hb6)
  have W6 := Lib.hid (W4.out.below hb6 (by omega))
  have HG6 := Lib.hid hg6
  obtain ⟨g1, j1, g2, j2, rfl⟩ := hg6.slices
  obtain ⟨w6b, hw6b⟩ : ∃ w6b, w6b = w6.alloc (.cells #[.slice g1 ts.length j1, .slice g2 t.length j2] 26) := ⟨_, rfl⟩
  have hAw6b : Below w6.heap.size w6 w6b := by rw [hw6b]; exact (Below.refl w6.heap.size w6).alloc (Nat.le_refl _) _
  have G6b : Hid (Blk2 w6b w6.heap.size 26 (.slice g1 ts.length j1) (.slice g2 t.length j2)) := by rw [hw6b]; exact Blk2.new
  have sw6b : w6b.heap.size = w6.heap.size + 1 := by rw [hw6b]; simp
  have Hw6b := Lib.hid hw6b
  have E6b := Lib.hid (bt E6.out hAw6b)
  have D6b := Lib.hid (bt D6.out hAw6b)
  have A6b := Lib.hid (bt A6.out hAw6b)
  have K6b := Lib.hid (bt K6.out hAw6b)
  have C6b := Lib.hid hAw6b
  have W6b := Lib.hid (W6.out.below hAw6b (by omega))
  have HV6b := Lib.hid (HG6.out.view.below hAw6b)
  clear hb6 HC5 x0 x1 hg6 hAw6b hw6b
  obtain ⟨y0, y1⟩ := W6.out.cells
  have z6 : w3.heap.size < w6.heap.size := by omega
  go_wp2_with fail
  rw [← Hw6b.out]
  refine (HEQ.out w6b _ _ HV6b.out (HV3.out.below A6b.out)).mono ?_
  rintro e w7 ⟨rfl, hb7⟩
  have s7 := hb7.size
  have E7 := Lib.hid (bt E6b.out hb7)
  have D7 := Lib.hid (bt D6b.out hb7)
  have A7 := Lib.hid (bt A6b.out hb7)
  have K7 := Lib.hid (bt K6b.out hb7)
  have C7 := Lib.hid (bt C6b.out hb7)
  have W7 := Lib.hid (W6b.out.below hb7 (by omega))
  have G7 := Lib.hid (G6b.out.below hb7 (by omega))
  clear hb7 y0 y1
  have hlt7 : w.heap.size < w7.heap.size := by omega
  have hlt8 : w4.heap.size < w7.heap.size := by omega
  have hlt9 : w3.heap.size < w7.heap.size := by omega
  have hltg : w6.heap.size < w7.heap.size := by omega
  have PD : Hid (Blk2 w7.drew w.heap.size 49 (.slice an ls.length cn) (.slice ao l.length co)) := P0.out.below (Below.drew K7.out) hlt0
  have XD : Hid (Blk2 w7.drew w4.heap.size 26 (.slice b1 ls.length d1) (.slice b2 l.length d2)) := X4.out.below (Below.drew D7.out) (by omega)
  have WD : Hid (Blk2 w7.drew w3.heap.size 26 (.slice a1 ts.length e1) (.slice a2 t.length e2)) := W7.out
  have GD : Hid (Blk2 w7.drew w6.heap.size 26 (.slice g1 ts.length j1) (.slice g2 t.length j2)) := G7.out
  have ks := And.intro PD.out.cells XD.out.cells
  have HX7 : Hid (GraphV w7.drew (.agg #[.slice b1 ls.length d1, .slice b2 l.length d2]) ls l) := HO4.out.view.below (Below.drew E7.out)
  have HST7 : Hid (GraphV w7.drew (.agg #[.slice an ls.length cn, .slice ao l.length co]) ls l) := HGV.out w7.drew (Below.drew K7.out)
  have HE := Lib.hid (fun W v5 (hb : GraphV W _ ls l) (hb5 : GraphV W v5 ls l) => eqGraph_any ls ls l l (.agg #[.slice b1 ls.length d1, .slice b2 l.length d2]) v5 W hb hb5 hl2)
  rw [sameG_self] at HE
  go_wp2_with fail
  -- the copy is as it was
  go_region_held3 (fun w' => (w'.cell? ⟨w.heap.size, 0, none⟩ = some (.slice an ls.length cn) ∧ w'.cell? ⟨w.heap.size, 1, none⟩ = some (.slice ao l.length co)) ∧ (w'.cell? ⟨w4.heap.size, 0, none⟩ = some (.slice b1 ls.length d1) ∧ w'.cell? ⟨w4.heap.size, 1, none⟩ = some (.slice b2 l.length d2))) (first | exact ks)
    (first
      | (go_at_call 39; refine (HTO.out _ (by exact HST7.out)).mono ?_; rintro e w7b ⟨v7, rfl, ho7, hb7⟩
         have ks := And.intro (PD.out.below hb7 hlt7).cells (XD.out.below hb7 hlt8).cells
         have HO7 := Lib.hid ho7.view
         have HXB := Lib.hid (GraphV.below (by exact HX7.out) hb7)
         have B7 := Lib.hid hb7
         clear ho7 hb7)
      | (go_at_call 35; refine (HE.out _ _ (by exact HXB.out) (by exact HO7.out)).mono ?_; rintro e w8 ⟨rfl, hb8⟩
         have B8 := Lib.hid (bt B7.out hb8)
         have ks := And.intro (PD.out.below B8.out hlt7).cells (XD.out.below B8.out hlt8).cells
         clear hb8))
  all_goals
    have s8 : w7.heap.size ≤ w8.heap.size := B8.out.size
    have E8 := Lib.hid (bt (Below.drew E7.out) B8.out)
    have A8 := Lib.hid (bt (Below.drew A7.out) B8.out)
    have K8 := Lib.hid (bt (Below.drew K7.out) B8.out)
    have C8 := Lib.hid (bt (Below.drew C7.out) B8.out)
    have W8 := Lib.hid (WD.out.below B8.out hlt9)
    have G8 := Lib.hid (GD.out.below B8.out hltg)
    have x01 := (XD.out.below B8.out hlt8).cells
    obtain ⟨x0, x1⟩ := x01
    clear ks PD XD WD GD HX7 HST7 HO7 HXB B7 B8
    -- marks in the copy
    go_wp2_with fail
    refine (HMG.out w3b.heap.size _ w4 w8 HO4.out E8.out s34).mono ?_
    rintro e w9 ⟨rfl, _, hg9⟩
    have s9 := hg9.below.size
    have A9 := Lib.hid (A8.out.trans (hg9.below.mono (by omega)))
    have K9 := Lib.hid (K8.out.trans (hg9.below.mono (by omega)))
    have W9 := Lib.hid (W8.out.only hg9 (.inl (by omega)))
    have G9 := Lib.hid (G8.out.only hg9 (.inr (by omega)))
    have HG9 := Lib.hid ((HG6.out.below C8.out).only hg9 (by omega))
    have C9 : Hid (GraphO wb.heap.size w9 _ ts t) := HG9.out
    clear hg9 x0 x1 A8 K8 E8 W8 G8
    obtain ⟨y0, y1⟩ := W9.out.cells
    obtain ⟨g0', g1'⟩ := G9.out.cells
    go_wp2_with fail
    refine (HEQ.out w9 _ _ HG9.out.view (HV3.out.below A9.out)).mono ?_
    rintro e w10 ⟨rfl, hb10⟩
    have s10 := hb10.size
    have A10 := Lib.hid (bt A9.out hb10)
    have K10 := Lib.hid (bt K9.out hb10)
    have W10 := Lib.hid (W9.out.below hb10 (by omega))
    have G10 := Lib.hid (G9.out.below hb10 (by omega))
    have HG10 := Lib.hid (HG9.out.below hb10)
    clear hb10 y0 y1 g0' g1' A9 K9 W9 G9 C9
    obtain ⟨g0', g1'⟩ := G10.out.cells
    -- marks in the answer
    go_wp2_with fail
    have HBX := Lib.hid (Below.refl w10.heap.size w10)
    refine (HMT.out wb.heap.size _ w10 w10 HG10.out HBX.out (by omega)).mono ?_
    rintro e w11 ⟨rfl, hk11, hg11⟩
    have s11 := hg11.below.size
    have A11 := Lib.hid (A10.out.trans (hg11.below.mono (by omega)))
    have K11 := Lib.hid (K10.out.trans (hg11.below.mono (by omega)))
    have W11 := Lib.hid (W10.out.only hg11 (.inl (by omega)))
    have G11 := Lib.hid (G10.out.kept hg11 (by decide))
    have HK11 := Lib.hid hk11
    clear hk11 hg11 g0' g1' A10 K10 W10 G10 HG10 HBX
    obtain ⟨g0', g1'⟩ := G11.out.cells
    go_wp2_with fail
    refine (HHT.out _ w11 HK11.out.view).mono ?_
    rintro e w12 ⟨rfl, hb12⟩
    have s12 := hb12.size
    have A12 := Lib.hid (bt A11.out hb12)
    have K12 := Lib.hid (bt K11.out hb12)
    have W12 := Lib.hid (W11.out.below hb12 (by omega))
    have G12 := Lib.hid (G11.out.below hb12 (by omega))
    have HK12 := Lib.hid (HK11.out.below hb12)
    clear hb12 g0' g1' HK11 A11 K11 W11 G11
    obtain ⟨c0, c1⟩ := (P0.out.below K12.out hlt0).cells
    -- asked again
    go_wp2_with fail
    refine (HTO.out w12 (HGV.out w12 K12.out)).mono ?_
    rintro e w13 ⟨v13, rfl, ho13, hb13⟩
    have s13 := hb13.size
    have A13 := Lib.hid (bt A12.out hb13)
    have K13 := Lib.hid (bt K12.out hb13)
    have W13 := Lib.hid (W12.out.below hb13 (by omega))
    have G13 := Lib.hid (G12.out.below hb13 (by omega))
    have HK13 := Lib.hid (HK12.out.below hb13)
    have HC := Lib.hid (HIM.out w13 v13 ho13.view)
    clear hb13 ho13 c0 c1 HK12 A12 K12 W12 G12
    go_wp2_with fail
    refine HC.out.mono ?_
    rintro e w14 ⟨v14, rfl, ho14, hb14⟩
    have s14 := hb14.size
    have A14 := Lib.hid (bt A13.out hb14)
    have K14 := Lib.hid (bt K13.out hb14)
    have W14 := Lib.hid (W13.out.below hb14 (by omega))
    have G14 := Lib.hid (G13.out.below hb14 (by omega))
    have HK14 := Lib.hid (HK13.out.below hb14)
    have HV14 := Lib.hid ho14.view
    obtain ⟨i1, f1, i2, f2, rfl⟩ := ho14.slices
    obtain ⟨w15, hw15⟩ : ∃ w15, w15 = w14.alloc (.cells #[.slice i1 ts.length f1, .slice i2 t.length f2] 26) := ⟨_, rfl⟩
    have hAw15 : Below w14.heap.size w14 w15 := by rw [hw15]; exact (Below.refl w14.heap.size w14).alloc (Nat.le_refl _) _
    have I15 : Hid (Blk2 w15 w14.heap.size 26 (.slice i1 ts.length f1) (.slice i2 t.length f2)) := by rw [hw15]; exact Blk2.new
    have sw15 : w15.heap.size = w14.heap.size + 1 := by rw [hw15]; simp
    have Hw15 := Lib.hid hw15
    have A15 := Lib.hid (bt A14.out hAw15)
    have K15 := Lib.hid (bt K14.out hAw15)
    have G15 := Lib.hid (G14.out.below hAw15 (by omega))
    have HK15 := Lib.hid (HK14.out.below hAw15)
    have HV15 := Lib.hid (HV14.out.below hAw15)
    clear hb14 ho14 hAw15 hw15 HC
    obtain ⟨y0, y1⟩ := W14.out.cells
    have z14 : w3.heap.size < w14.heap.size := by omega
    go_wp2_with fail
    rw [← Hw15.out]
    refine (HEQ.out w15 _ _ HV15.out (HV3.out.below A15.out)).mono ?_
    rintro e w16 ⟨rfl, hb16⟩
    have K16 := Lib.hid (bt K15.out hb16)
    have G16 := Lib.hid (G15.out.below hb16 (by omega))
    have HK16 := Lib.hid (HK15.out.below hb16)
    clear hb16 y0 y1
    obtain ⟨g0', g1'⟩ := G16.out.cells
    go_wp2_with fail
    refine (HHT.out _ w16 HK16.out.view).mono ?_
    rintro e w17 ⟨rfl, hb17⟩
    have K17 := Lib.hid (bt K16.out hb17)
    clear hb17 g0' g1'
    go_wp2_with fail
    go_ret
    exact ⟨rfl, bt HA.out K17.out⟩

end Go.Proofs.Ytaaedgniicnnmaa

/- Plain mathematics: how large a graph without a need is. -/
namespace Go.Proofs.Ytaaedgniicnnmaa
open Go.RowKit Pth

theorem total_ten (m : List (List Int)) : (∀ k (hk : k < m.length), m[k].length ≤ 10) → total m ≤ 10 * m.length := by
  induction m with
  | nil => intro _; simp [total]
  | cons y q ih =>
    intro h
    have h0 := h 0 (by simp)
    have h1 := ih (fun k hk => by have := h (k + 1) (by simp; omega); simpa using this)
    simp only [List.getElem_cons_zero] at h0
    simp only [total, List.map_cons, List.sum_cons, List.length_cons] at h1 ⊢
    omega
theorem good_ten {ls : List (List Int)} {l : List Int} (h : GoodG ls l) : ∀ k (hk : k < ls.length), ls[k].length ≤ 10 := by
  intro k hk
  have hw := (h.each k hk).1
  have := rise_len hw.1 hw.2 (by omega)
  have := h.high
  omega
theorem drop_small (ls : List (List Int)) (l : List Int) (t x : Int) : (dropG ls l t x).length + total (dropG ls l t x) + (dropO ls l t x).length ≤ 1000 := by
  rcases h : dropOk ls l t x with _ | _
  · rw [(drop_no h).1, (drop_no h).2]; simp [total]
  · rw [(drop_yes h).1, (drop_yes h).2]
    have hT : taskG ls l t = true := by unfold dropOk at h; rw [Bool.and_eq_true] at h; exact h.1
    obtain ⟨hG, ht0, ht1⟩ := taskG_yes hT
    obtain ⟨j, rfl⟩ : ∃ j : Nat, t = j := ⟨t.toNat, by omega⟩
    have hj : j < ls.length := by omega
    have h10 := good_ten hG
    have hs := hG.same
    have hh := hG.high
    rw [needsAt_get hj, show ((j : Int)).toNat = j by omega]
    have := total_ten (ls.set j (dropL ls[j] x)) (fun k hk => by
      rw [List.length_set] at hk
      rw [List.getElem_set]
      split
      · have := drop_len ls[j] x; have := h10 j hj; omega
      · exact h10 k hk)
    rw [List.length_set] at this ⊢
    omega
end Go.Proofs.Ytaaedgniicnnmaa
