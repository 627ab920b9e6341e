/- Texts of one claim, joined in their order. -/
import Derived.Deep.CutBlock
import Derived.Test.YtngldlconipnnaaGreatDoorM11

/- Walks: results on their way begin, of the program. -/
namespace Go.Proofs.YtngldlconipnnaaGreatDoor
open Go.RowKit Pth

/-- What a new list of results holds. -/
theorem make_allocR (n : Nat) (hn : n ≤ 2000000) (w : World) : (Instr.makeSlice 35 (.int .i64 (n : Int)) (.int .i64 (n : Int))).run Tryz.prog w = .ok (.slice (some ⟨w.heap.size, 0, none⟩) n n) (w.alloc (.cells (madeCells #[.string ByteArray.empty, .int .i64 0] (n * 2)) 89)) := by
  obtain ⟨i0, hi, hz0, hz1, hz2⟩ := info_parts elemR.info
  have hb : ((i0.bytes : Int)) * (n : Int) ≤ 281474976710656 := by
    have h : i0.bytes * n ≤ 281474976710656 := by rw [hz2]; exact Nat.le_trans (Nat.mul_le_mul elemR.small hn) (by decide)
    have h' : ((i0.bytes * n : Nat) : Int) ≤ 281474976710656 := by omega
    rwa [Int.natCast_mul] at h'
  have hr := run_make (P := Tryz.prog) w 35 89 i0 _ elemR.under hi hz0 .i64 .i64 n n (by omega) (Int.le_refl _) hb (by omega)
  simp only [Int.toNat_natCast, hz1] at hr
  exact hr
theorem own_of_heapR {w : World} {B n g : Nat} {l : List ResT} {cs : Array Value} (hh : w.heap[g]? = some (.cells cs 89 (0, 0))) (hg : B ≤ g) (hx : cs.toList = RC l) (hl : l.length = n) (hn : n ≤ maxLen) : w.ownsRow B 89 2 (.slice (some ⟨g, 0, none⟩) n n) n (RC l) := by
  have hs : cs.size = n * 2 := by rw [← Array.length_toList, hx, RC_len, hl]
  refine ⟨by rw [RC_len, hl], .inr ⟨g, n, cs, rfl, hg, hh, Nat.le_refl _, hn, by omega, ?_⟩⟩
  rw [hx, ← hl, ← RC_len, List.take_length]
theorem two_new (w : World) (X Y : Array Value) (x y : TypeId) :
    let W := ((w.alloc (.cells X x)).alloc (.cells Y y)).drew
    W.heap[w.heap.size]? = some (.cells X x (0, 0)) ∧ W.heap[w.heap.size + 1]? = some (.cells Y y (0, 0)) ∧ Below w.heap.size w W := by
  have e1 : (w.alloc (.cells X x)).heap.size = w.heap.size + 1 := by simp
  have h0 := heap_alloc_new w (.cells X x)
  have h1 := heap_alloc_new (w.alloc (.cells X x)) (.cells Y y)
  rw [e1] at h1
  have o1 := Below.heap_alloc (w.alloc (.cells X x)) (.cells Y y)
  exact ⟨(o1 _ (by omega)).trans h0, h1, Below.drew (((Below.refl w.heap.size w).alloc (Nat.le_refl _) _).alloc (by omega) _)⟩
theorem results_cellB {fn : Func} {p u : Tmp} {ty : TypeId} (h : fn.results = #[.cell p ty, .tmp u]) {tmps : Array Value} {w : World} {ad : Addr} {v : Value} (hp : tmps.getD p undef = .pointer (some ad)) (hl : (loadVar ty ad).run Tryz.prog w = .ok v w) :
    (results fn tmps).run Tryz.prog w = .ok (.tuple #[v, tmps.getD u undef]) w := results_cell2 h hp hl
/-- A new block of results on their way, and its list. -/
def NewRem (w : World) (b g : Nat) (x0 x1 x2 x3 x4 x5 : Value) (n : Nat) (wx : World) : Prop :=
  w.heap.size ≤ b ∧ w.heap.size ≤ g ∧ b ≠ g ∧ Blk7 wx b 121 x0 x1 x2 x3 x4 x5 (.slice (some ⟨g, 0, none⟩) n n) ∧ wx.ownsRow w.heap.size 89 2 (.slice (some ⟨g, 0, none⟩) n n) n (RC (List.replicate n noRes)) ∧ Below w.heap.size w wx
theorem set_ne (W : World) {g b i j : Nat} (u : Value) (h : b ≠ g) : (W.setCell ⟨g, i, none⟩ u).cell? ⟨b, j, none⟩ = W.cell? ⟨b, j, none⟩ := World.cell?_of_block (w := W) (a := ⟨b, j, none⟩) (Below.heap_setCell W _ u b (by show b ≠ g; exact h))
theorem own_setNeG {w : World} {B e n z : Nat} {v : Value} {xs : List Value} (h : w.ownsRow B e z v n xs) {p : Addr} (hp : v.ownBlock ≠ some p.block) (u : Value) : (w.setCell p u).ownsRow B e z v n xs := by
  refine ⟨h.1, ?_⟩
  rcases h.2 with h0 | ⟨g, cap, cur, hv, hg, hh, r⟩
  · exact .inl h0
  · exact .inr ⟨g, cap, cur, hv, hg, (Below.heap_setCell w p u g (fun e => hp (by rw [hv, ← e]; rfl))).trans hh, r⟩
set_option maxRecDepth 20000 in
set_option maxHeartbeats 8000000 in
theorem ownRes8_any (o : ResT) (w : World) (hx : o.1.length ≤ 1000) :
    Calls Tryz.prog 116 #[resV o] w fun e w' => e = .returned (resV o) ∧ Below w.heap.size w w' := by
  obtain ⟨t, n⟩ := o
  unfold resV
  simp only at hx ⊢
  obtain ⟨wp, hwp⟩ : ∃ wp, wp = w.alloc (.cells #[.string ⟨t.toArray⟩, .int .i64 n] 89) := ⟨_, rfl⟩
  obtain ⟨wa, hwa⟩ : ∃ wa, wa = wp.alloc (.cells #[.string ⟨#[]⟩, .int .i64 0] 89) := ⟨_, rfl⟩
  have ep : wp.heap.size = w.heap.size + 1 := by rw [hwp]; simp
  have ea : wa.heap.size = w.heap.size + 2 := by rw [hwa]; simp [ep]
  have Q0 : Hid (Blk2 wa.drew w.heap.size 89 (.string ⟨t.toArray⟩) (.int .i64 n)) := by show Blk2 wa _ _ _ _; rw [hwa, hwp]; exact Blk2.new.old _
  have R0 : Hid (Blk2 wa.drew (w.heap.size + 1) 89 (.string ⟨#[]⟩) (.int .i64 0)) := by show Blk2 wa _ _ _ _; rw [hwa, ← ep]; exact Blk2.new
  have HA : Hid (Below w.heap.size w wa.drew) := by
    have : Below w.heap.size w wa := by rw [hwa, hwp]; exact ((Below.refl w.heap.size w).alloc (Nat.le_refl _) _).alloc (by simp) _
    exact Below.drew this
  have HWA : Hid ((w.alloc (.cells #[.string ⟨t.toArray⟩, .int .i64 n] 89)).alloc (.cells #[.string ⟨#[]⟩, .int .i64 0] 89) = wa) := by rw [hwa, hwp]; rfl
  have hsz : wa.drew.heap.size = w.heap.size + 2 := ea
  have HC := Lib.hid (clone_any t wa.drew hx)
  have ks := Q0.out.cells
  have hne : w.heap.size ≠ w.heap.size + 1 := by omega
  have hl0 : w.heap.size < wa.drew.heap.size := by omega
  have hl1 : w.heap.size + 1 < wa.drew.heap.size := by omega
  clear hwa hwp ep ea
  go_enter Tryz.func116, Tryz.ntmps116
  go_wp2_with fail
  rw [HWA.out]
  go_region_held3 (fun w' => w'.cell? ⟨w.heap.size, 0, none⟩ = some (.string ⟨t.toArray⟩) ∧ w'.cell? ⟨w.heap.size, 1, none⟩ = some (.int .i64 n)) (first | exact ks | (rw [set_ne _ _ hne, set_ne _ _ hne, set_ne _ _ hne, set_ne _ _ hne]; exact ks))
    (first
      | (go_at_call 121; refine HC.out.mono ?_; rintro e w7 ⟨rfl, hb7⟩
         have ks := (Q0.out.below hb7 hl0).cells
         have R7 := Lib.hid (R0.out.below hb7 hl1)
         obtain ⟨f0, f1⟩ := R7.out.cells
         have g0 := R7.out.soft 0
         have g1 := R7.out.soft 1
         have HB7 := Lib.hid (bth HA.out hb7 (Nat.le_refl _))
         clear hb7))
  all_goals
    clear ks
    have hZ := (R7.out.set0 (.string ⟨t.toArray⟩)).set1 (.int .i64 n)
    go_wp2_with fail
    refine bodyPost_ret (results_cellR rfl rfl (load_res hZ.cells.1 hZ.cells.2)) rfl ?_
    exact ⟨rfl, (HB7.out.setCell (p := ⟨w.heap.size + 1, 0, none⟩) (by show _ ≤ _ + 1; omega) _).setCell (p := ⟨w.heap.size + 1, 1, none⟩) (by show _ ≤ _ + 1; omega) _⟩

set_option maxRecDepth 20000 in
set_option maxHeartbeats 8000000 in
theorem startRem_no (ls : List (List Int)) (l : List Int) (bs : List Bool) (rs : List (List OpT)) (m : List ResT) (ts : List (List UInt8)) (an ao as0 ar at0 am : Option Addr) (cn co cs cr ct cm : Nat) (w : World) (hp : PlanV w (.agg #[.slice an ls.length cn, .slice ao l.length co, .slice as0 bs.length cs, .slice ar rs.length cr]) ls l bs rs) (hr : RowR w (.slice am m.length cm) m) (hts : RowV w (.slice at0 ts.length ct) (S ts)) (hx : ∀ l ∈ rs, ∀ f ∈ l, f.2.2.length ≤ maxLen) (hxm : ∀ f ∈ m, f.1.length ≤ maxLen) (hxt : ∀ x ∈ ts, x.length ≤ maxLen) (hg : goodA8 ls l bs rs m ts = false) :
    Calls Tryz.prog 144 #[.agg #[.slice an ls.length cn, .slice ao l.length co, .slice as0 bs.length cs, .slice ar rs.length cr], .slice am m.length cm, .slice at0 ts.length ct] w fun e w' => e = .returned (.tuple #[.agg #[.slice none 0 0, .slice none 0 0, .slice none 0 0, .slice none 0 0, .slice none 0 0, .slice none 0 0, .slice none 0 0], .bool false]) ∧ Below w.heap.size w w' := by
  have HV := Lib.hid hp
  have HR := Lib.hid hr
  have HT := Lib.hid hts
  obtain ⟨wp, hwp⟩ : ∃ wp, wp = w.alloc (.cells #[.slice an ls.length cn, .slice ao l.length co, .slice as0 bs.length cs, .slice ar rs.length cr] 30) := ⟨_, rfl⟩
  obtain ⟨wa, hwa⟩ : ∃ wa, wa = wp.alloc (.cells #[.slice none 0 0, .slice none 0 0, .slice none 0 0, .slice none 0 0, .slice none 0 0, .slice none 0 0, .slice none 0 0] 121) := ⟨_, rfl⟩
  have ep : wp.heap.size = w.heap.size + 1 := by rw [hwp]; simp
  have ea : wa.heap.size = w.heap.size + 2 := by rw [hwa]; simp [ep]
  have P0 : Hid (Blk4 wa w.heap.size 30 (.slice an ls.length cn) (.slice ao l.length co) (.slice as0 bs.length cs) (.slice ar rs.length cr)) := by rw [hwa, hwp]; exact Blk4.new.old _
  have R0 : Hid (Blk7 wa (w.heap.size + 1) 121 (.slice none 0 0) (.slice none 0 0) (.slice none 0 0) (.slice none 0 0) (.slice none 0 0) (.slice none 0 0) (.slice none 0 0)) := by rw [hwa, ← ep]; exact Blk7.new
  have HA : Hid (Below w.heap.size w wa) := by rw [hwa, hwp]; exact ((Below.refl w.heap.size w).alloc (Nat.le_refl _) _).alloc (by simp) _
  have HWA : Hid ((w.alloc (.cells #[.slice an ls.length cn, .slice ao l.length co, .slice as0 bs.length cs, .slice ar rs.length cr] 30)).alloc (.cells #[.slice none 0 0, .slice none 0 0, .slice none 0 0, .slice none 0 0, .slice none 0 0, .slice none 0 0, .slice none 0 0] 121) = wa) := by rw [hwa, hwp]; rfl
  have hsz : w.heap.size < wa.heap.size := by omega
  have hsz1 : w.heap.size + 1 < wa.heap.size := by omega
  clear hwa hwp ep
  obtain ⟨a, ha⟩ : ∃ a, bothA ls l bs rs m = a := ⟨_, rfl⟩
  obtain ⟨c, hc⟩ : ∃ c, srcA ls l bs rs ts = c := ⟨_, rfl⟩
  have hac : (a && c) = false := by rw [← hg]; unfold goodA8; rw [ha, hc]
  have HC := Lib.hid (implBoth_b ha _ _ wa (HV.out.below HA.out) (HR.out.below HA.out) hx hxm)
  have HS := Lib.hid (fun W (hb : Below w.heap.size w W) => implSrc_any ls l bs rs ts _ _ W (HV.out.below hb) (HT.out.below hb) hx hxt)
  rw [hc] at HS
  obtain ⟨c0, c1, c2, c3⟩ := P0.out.cells
  clear hp hr hts hx hxm hxt hg ha hc
  rcases a with _ | _
  · clear HS hac
    go_enter Tryz.func144, Tryz.ntmps144
    go_wp2_with fail
    rw [HWA.out]
    refine HC.out.mono ?_
    rintro e w1 ⟨rfl, hb1⟩
    have K1 := Lib.hid hb1
    clear hb1 c0 c1 c2 c3
    have hRB := R0.out.below K1.out hsz1
    have HRB := Lib.hid hRB
    obtain ⟨r0, r1, r2, r3, r4, r5, r6⟩ := hRB.cells
    have z0 := hRB.soft 0
    have z1 := hRB.soft 1
    have z2 := hRB.soft 2
    have z3 := hRB.soft 3
    have z4 := hRB.soft 4
    have z5 := hRB.soft 5
    have z6 := hRB.soft 6
    clear hRB
    go_wp2_with fail
    have hZ := (((((((HRB.out.set0 (.slice none 0 0)).set1 (.slice none 0 0)).set2 (.slice none 0 0)).set3 (.slice none 0 0)).set4 (.slice none 0 0)).set5 (.slice none 0 0)).set6 (.slice none 0 0))
    refine bodyPost_ret (results_cell2 rfl rfl (load_rem hZ)) rfl ?_
    exact ⟨rfl, ((((((((bth HA.out K1.out (Nat.le_refl _)).setCell (p := ⟨w.heap.size + 1, 0, none⟩) (by show _ ≤ _ + 1; omega) _).setCell (p := ⟨w.heap.size + 1, 1, none⟩) (by show _ ≤ _ + 1; omega) _).setCell (p := ⟨w.heap.size + 1, 2, none⟩) (by show _ ≤ _ + 1; omega) _).setCell (p := ⟨w.heap.size + 1, 3, none⟩) (by show _ ≤ _ + 1; omega) _).setCell (p := ⟨w.heap.size + 1, 4, none⟩) (by show _ ≤ _ + 1; omega) _).setCell (p := ⟨w.heap.size + 1, 5, none⟩) (by show _ ≤ _ + 1; omega) _).setCell (p := ⟨w.heap.size + 1, 6, none⟩) (by show _ ≤ _ + 1; omega) _)⟩
  · have hcf : c = false := by simpa using hac
    subst hcf
    clear hac
    go_enter Tryz.func144, Tryz.ntmps144
    go_wp2_with fail
    rw [HWA.out]
    refine HC.out.mono ?_
    rintro e w1 ⟨rfl, hb1⟩
    have K1 := Lib.hid hb1
    have KW1 := Lib.hid (bth HA.out hb1 (Nat.le_refl _))
    clear hb1 c0 c1 c2 c3
    obtain ⟨c0, c1, c2, c3⟩ := (P0.out.below K1.out hsz).cells
    go_wp2_with fail
    refine (HS.out w1 KW1.out).mono ?_
    rintro e w2 ⟨rfl, hb2⟩
    have K2 := Lib.hid (bth K1.out hb2 (Nat.le_refl _))
    clear hb2 c0 c1 c2 c3
    have hRB := R0.out.below K2.out hsz1
    have HRB := Lib.hid hRB
    obtain ⟨r0, r1, r2, r3, r4, r5, r6⟩ := hRB.cells
    have z0 := hRB.soft 0
    have z1 := hRB.soft 1
    have z2 := hRB.soft 2
    have z3 := hRB.soft 3
    have z4 := hRB.soft 4
    have z5 := hRB.soft 5
    have z6 := hRB.soft 6
    clear hRB
    go_wp2_with fail
    have hZ := (((((((HRB.out.set0 (.slice none 0 0)).set1 (.slice none 0 0)).set2 (.slice none 0 0)).set3 (.slice none 0 0)).set4 (.slice none 0 0)).set5 (.slice none 0 0)).set6 (.slice none 0 0))
    refine bodyPost_ret (results_cell2 rfl rfl (load_rem hZ)) rfl ?_
    exact ⟨rfl, ((((((((bth HA.out K2.out (Nat.le_refl _)).setCell (p := ⟨w.heap.size + 1, 0, none⟩) (by show _ ≤ _ + 1; omega) _).setCell (p := ⟨w.heap.size + 1, 1, none⟩) (by show _ ≤ _ + 1; omega) _).setCell (p := ⟨w.heap.size + 1, 2, none⟩) (by show _ ≤ _ + 1; omega) _).setCell (p := ⟨w.heap.size + 1, 3, none⟩) (by show _ ≤ _ + 1; omega) _).setCell (p := ⟨w.heap.size + 1, 4, none⟩) (by show _ ≤ _ + 1; omega) _).setCell (p := ⟨w.heap.size + 1, 5, none⟩) (by show _ ≤ _ + 1; omega) _).setCell (p := ⟨w.heap.size + 1, 6, none⟩) (by show _ ≤ _ + 1; omega) _)⟩

set_option maxRecDepth 20000 in
set_option maxHeartbeats 8000000 in
theorem startRem_yes (ls : List (List Int)) (l : List Int) (bs : List Bool) (rs : List (List OpT)) (m : List ResT) (ts : List (List UInt8)) (an ao as0 ar at0 am : Option Addr) (cn co cs cr ct cm : Nat) (w : World) (hp : PlanV w (.agg #[.slice an ls.length cn, .slice ao l.length co, .slice as0 bs.length cs, .slice ar rs.length cr]) ls l bs rs) (hr : RowR w (.slice am m.length cm) m) (hts : RowV w (.slice at0 ts.length ct) (S ts)) (hx : ∀ l ∈ rs, ∀ f ∈ l, f.2.2.length ≤ maxLen) (hxm : ∀ f ∈ m, f.1.length ≤ maxLen) (hxt : ∀ x ∈ ts, x.length ≤ maxLen) (hg : goodA8 ls l bs rs m ts = true) :
    Calls Tryz.prog 144 #[.agg #[.slice an ls.length cn, .slice ao l.length co, .slice as0 bs.length cs, .slice ar rs.length cr], .slice am m.length cm, .slice at0 ts.length ct] w fun e w' => ∃ g, e = .returned (.tuple #[.agg #[.slice an ls.length cn, .slice ao l.length co, .slice as0 bs.length cs, .slice ar rs.length cr, .slice at0 ts.length ct, .slice am m.length cm, .slice (some ⟨g, 0, none⟩) m.length m.length], .bool true]) ∧ w'.ownsRow w.heap.size 89 2 (.slice (some ⟨g, 0, none⟩) m.length m.length) m.length (RC m) ∧ Below w.heap.size w w' := by
  have HV := Lib.hid hp
  have HR := Lib.hid hr
  have HT := Lib.hid hts
  obtain ⟨hpl, hmb, htb, hsm, hst, hsrc, hboth⟩ := good8_parts hg
  have hm10 : m.length ≤ 10 := by have := (plan_parts hpl).1.high; have := (plan_parts hpl).2.1; omega
  obtain ⟨wp, hwp⟩ : ∃ wp, wp = w.alloc (.cells #[.slice an ls.length cn, .slice ao l.length co, .slice as0 bs.length cs, .slice ar rs.length cr] 30) := ⟨_, rfl⟩
  obtain ⟨wa, hwa⟩ : ∃ wa, wa = wp.alloc (.cells #[.slice none 0 0, .slice none 0 0, .slice none 0 0, .slice none 0 0, .slice none 0 0, .slice none 0 0, .slice none 0 0] 121) := ⟨_, rfl⟩
  have ep : wp.heap.size = w.heap.size + 1 := by rw [hwp]; simp
  have ea : wa.heap.size = w.heap.size + 2 := by rw [hwa]; simp [ep]
  have P0 : Hid (Blk4 wa w.heap.size 30 (.slice an ls.length cn) (.slice ao l.length co) (.slice as0 bs.length cs) (.slice ar rs.length cr)) := by rw [hwa, hwp]; exact Blk4.new.old _
  have R0 : Hid (Blk7 wa (w.heap.size + 1) 121 (.slice none 0 0) (.slice none 0 0) (.slice none 0 0) (.slice none 0 0) (.slice none 0 0) (.slice none 0 0) (.slice none 0 0)) := by rw [hwa, ← ep]; exact Blk7.new
  have HA : Hid (Below w.heap.size w wa) := by rw [hwa, hwp]; exact ((Below.refl w.heap.size w).alloc (Nat.le_refl _) _).alloc (by simp) _
  have HWA : Hid ((w.alloc (.cells #[.slice an ls.length cn, .slice ao l.length co, .slice as0 bs.length cs, .slice ar rs.length cr] 30)).alloc (.cells #[.slice none 0 0, .slice none 0 0, .slice none 0 0, .slice none 0 0, .slice none 0 0, .slice none 0 0, .slice none 0 0] 121) = wa) := by rw [hwa, hwp]; rfl
  have hsz : w.heap.size < wa.heap.size := by omega
  have hsz1 : w.heap.size + 1 < wa.heap.size := by omega
  clear hwa hwp ep
  have HC := Lib.hid (implBoth_b hboth _ _ wa (HV.out.below HA.out) (HR.out.below HA.out) hx hxm)
  have HS := Lib.hid (fun W (hb : Below w.heap.size w W) => implSrc_any ls l bs rs ts _ _ W (HV.out.below hb) (HT.out.below hb) hx hxt)
  rw [hsrc] at HS
  obtain ⟨_, _, hev, hm1, hm2, hatm⟩ := hr.res
  injection hev with hea _ hec
  subst hea hec
  unfold maxLen at hm2
  have HATM := Lib.hid hatm
  have HSM := Lib.hid hsm
  have hmk := make_allocR m.length (by omega)
  obtain ⟨c0, c1, c2, c3⟩ := P0.out.cells
  clear hp hr hts hx hxm hxt hg hpl hmb htb hsm hst hsrc hboth hatm
  go_enter Tryz.func144, Tryz.ntmps144
  go_wp2_with fail
  rw [HWA.out]
  refine HC.out.mono ?_
  rintro e w1 ⟨rfl, hb1⟩
  have K1 := Lib.hid hb1
  have KW1 := Lib.hid (bth HA.out hb1 (Nat.le_refl _))
  clear hb1 c0 c1 c2 c3
  obtain ⟨c0, c1, c2, c3⟩ := (P0.out.below K1.out hsz).cells
  go_wp2_with fail
  refine (HS.out w1 KW1.out).mono ?_
  rintro e w2 ⟨rfl, hb2⟩
  have K2 := Lib.hid (bth K1.out hb2 (Nat.le_refl _))
  have s2 : wa.heap.size ≤ w2.heap.size := K2.out.size
  have hlt2 : w.heap.size < w2.heap.size := by omega
  clear hb2 c0 c1 c2 c3 HC HS
  obtain ⟨c0, c1, c2, c3⟩ := (P0.out.below K2.out hsz).cells
  go_upto_region 3 with fail
  go_cut [8] from 22 to 28 (fun p wx => ∃ b g : Nat, p = .pointer (some ⟨b, 0, none⟩) ∧ Hid (NewRem w2 b g (.slice an ls.length cn) (.slice ao l.length co) (.slice as0 bs.length cs) (.slice ar rs.length cr) (.slice at0 ts.length ct) (.slice am m.length cm) m.length wx))
  case first =>
    go_region
    all_goals
      go_wp2_with fail
      go_meet
      case rel =>
        first
          | (obtain ⟨k0, k1, kb⟩ := two_new w2 (madeCells #[.string ByteArray.empty, .int .i64 0] (m.length * 2)) #[.slice an ls.length cn, .slice ao l.length co, .slice as0 bs.length cs, .slice ar rs.length cr, .slice at0 ts.length ct, .slice am m.length cm, .slice (some ⟨w2.heap.size, 0, none⟩) m.length m.length] 89 121
             exact ⟨_, _, rfl, by omega, Nat.le_refl _, by omega, k1, own_of_heapR k0 (Nat.le_refl _) (RC_zero _).symm (by simp) (by unfold maxLen; omega), kb⟩)
          | (obtain ⟨k0, k1, kb⟩ := two_new w2 #[.slice an ls.length cn, .slice ao l.length co, .slice as0 bs.length cs, .slice ar rs.length cr, .slice at0 ts.length ct, .slice am m.length cm, .slice (some ⟨w2.heap.size + 1, 0, none⟩) m.length m.length] (madeCells #[.string ByteArray.empty, .int .i64 0] (m.length * 2)) 121 89
             exact ⟨_, _, rfl, Nat.le_refl _, by omega, by omega, k0, own_of_heapR k1 (by omega) (RC_zero _).symm (by simp) (by unfold maxLen; omega), kb⟩)
  case rest =>
    obtain ⟨b, g, rfl, HNR⟩ := hcut
    clear hmk c0 c1 c2 c3
    have hNR := HNR.out
    obtain ⟨hb0, hg0, hbg, hB7, hRow, hBl⟩ := hNR
    have B7 := Lib.hid hB7
    have HN0 := Lib.hid hRow
    have HB0 := Lib.hid hBl
    have sc := hBl.size
    have hbc : b < wc.heap.size := lt_of_block hB7
    clear hB7 hRow hBl HNR
    go_wp2_with fail
    go_loopw [31] (fun i wr => ∃ k : Nat, k ≤ m.length ∧ i = .int .i64 k ∧ Hid (wr.ownsRow w2.heap.size 89 2 (.slice (some ⟨g, 0, none⟩) m.length m.length) m.length (RC (m.take k) ++ RC (List.replicate (m.length - k) noRes))) ∧ Hid (Below w2.heap.size w2 wr) ∧ Hid (Blk7 wr b 121 (.slice an ls.length cn) (.slice ao l.length co) (.slice as0 bs.length cs) (.slice ar rs.length cr) (.slice at0 ts.length ct) (.slice am m.length cm) (.slice (some ⟨g, 0, none⟩) m.length m.length))) (fun i _ => m.length - (intOf i).toNat)
    case atStart => exact ⟨0, Nat.zero_le _, rfl, HN0, HB0, B7⟩
    case round =>
      clear HN0 HB0 B7
      obtain ⟨k, hk, rfl, HN, HB, HB7⟩ := hrel
      have hbs := HB.out.size
      by_cases hlt : k < m.length
      · obtain ⟨gm, om, rfl, hgm, hcell1, hcell2⟩ := HATM.out k hlt
        have KW := Lib.hid (bth HA.out (bth K2.out HB.out (Nat.le_refl _)) (Nat.le_refl _))
        have s1 := (KW.out.cell (p := ⟨gm, om + k * 2, none⟩) hgm).trans hcell1
        have s2 := (KW.out.cell (p := ⟨gm, om + k * 2 + 1, none⟩) hgm).trans hcell2
        have hkz : (k : Int) < (m.length : Int) := by omega
        have hxl : m[k].1.length ≤ 40 := HSM.out _ (List.getElem_mem hlt)
        have ht : (m.take k).length = k := by rw [List.length_take]; omega
        have er : List.replicate (m.length - k) noRes = noRes :: List.replicate (m.length - (k + 1)) noRes := by rw [show m.length - k = (m.length - (k + 1)) + 1 by omega, List.replicate_succ]
        rw [er] at HN
        have HE := Lib.hid (set_two (m.take k) k ht noRes (List.replicate (m.length - (k + 1)) noRes) m[k])
        have HE2 := Lib.hid (get_two (m.take k) k ht noRes (List.replicate (m.length - (k + 1)) noRes))
        have HTK : Hid (m.take k ++ [m[k]] = m.take (k + 1)) := (List.take_succ_eq_append_getElem hlt).symm
        rw [HTK.out] at HE
        clear hcell1 hcell2 HATM HSM HTK er ht
        generalize m[k] = q at s1 s2 HE hxl
        obtain ⟨q1, q2⟩ := q
        simp only at s1 s2 HE hxl
        obtain ⟨wq, hwq⟩ : ∃ wq, wq = wr.alloc (.cells #[.string ⟨q1.toArray⟩, .int .i64 q2] 89) := ⟨_, rfl⟩
        have Q0 : Hid (Blk2 wq wr.heap.size 89 (.string ⟨q1.toArray⟩) (.int .i64 q2)) := by rw [hwq]; exact Blk2.new
        have hBQ : Below wr.heap.size wr wq := by rw [hwq]; exact (Below.refl wr.heap.size wr).alloc (Nat.le_refl _) _
        have hsq : wr.heap.size < wq.heap.size := by rw [hwq]; simp
        have HWQ : Hid (wr.alloc (.cells #[.string ⟨q1.toArray⟩, .int .i64 q2] 89) = wq) := by rw [hwq]; rfl
        have HBQ := Lib.hid (bth HB.out hBQ (Nat.le_refl _))
        have HNQ := Lib.hid (own_belowG HN.out hBQ)
        have hbr : b < wr.heap.size := lt_of_block HB7.out
        have H7Q := Lib.hid (HB7.out.below hBQ hbr)
        have hgr : g < wr.heap.size := (HN.out.lt g rfl).2
        clear hwq hBQ
        go_upto_region 7 with fail
        rw [HWQ.out]
        have PD7 : Hid (Blk7 wq.drew b 121 (.slice an ls.length cn) (.slice ao l.length co) (.slice as0 bs.length cs) (.slice ar rs.length cr) (.slice at0 ts.length ct) (.slice (some ⟨gm, om, none⟩) m.length cm) (.slice (some ⟨g, 0, none⟩) m.length m.length)) := H7Q.out.below (Below.drew (Below.refl _ _)) (Nat.lt_trans hbr hsq)
        have QD : Hid (Blk2 wq.drew wr.heap.size 89 (.string ⟨q1.toArray⟩) (.int .i64 q2)) := Q0.out.below (Below.drew (Below.refl _ _)) hsq
        have ND : Hid (wq.drew.ownsRow w2.heap.size 89 2 (.slice (some ⟨g, 0, none⟩) m.length m.length) m.length (RC (m.take k) ++ RC (noRes :: List.replicate (m.length - (k + 1)) noRes))) := HNQ.out
        have HK6 : Hid (∀ W, Below wq.drew.heap.size wq.drew W → W.cell? ⟨b, 6, none⟩ = some (.slice (some ⟨g, 0, none⟩) m.length m.length) ∧ (W.cell? ⟨wr.heap.size, 0, none⟩ = some (.string ⟨q1.toArray⟩) ∧ W.cell? ⟨wr.heap.size, 1, none⟩ = some (.int .i64 q2))) := fun W h => ⟨(PD7.out.below h (Nat.lt_trans hbr hsq)).cells.2.2.2.2.2.2, (QD.out.below h hsq).cells⟩
        have HK7 : Hid (∀ W, Below wq.drew.heap.size wq.drew W → (W.cell? ⟨g, k * 2, none⟩ = some (.string ByteArray.empty) ∧ W.cell? ⟨g, k * 2 + 1, none⟩ = some (.int .i64 0)) ∧ (W.frozen? ⟨g, k * 2, none⟩ = false ∧ W.frozen? ⟨g, k * 2 + 1, none⟩ = false)) := fun W h => by
          have hO := own_belowG ND.out h
          refine ⟨⟨?_, ?_⟩, hO.frozenAt _, hO.frozenAt _⟩
          · rw [hO.cellAt (k * 2) (by omega), HE2.out.1]; rfl
          · rw [hO.cellAt (k * 2 + 1) (by omega), HE2.out.2]; rfl
        have ks := HK6.out wq.drew (Below.refl _ _)
        have HCL := Lib.hid (fun W => ownRes8_any (q1, q2) W (by show q1.length ≤ 1000; omega))
        unfold resV at HCL
        simp only at HCL
        have hqg : wr.heap.size ≠ g := by omega
        go_region_held3 (fun w' => w'.cell? ⟨b, 6, none⟩ = some (.slice (some ⟨g, 0, none⟩) m.length m.length) ∧ (w'.cell? ⟨wr.heap.size, 0, none⟩ = some (.string ⟨q1.toArray⟩) ∧ w'.cell? ⟨wr.heap.size, 1, none⟩ = some (.int .i64 q2))) (first | exact ks | (rw [set_ne _ _ hbg, set_ne _ _ hbg, set_ne _ _ hqg, set_ne _ _ hqg, set_ne _ _ hqg, set_ne _ _ hqg]; exact ks))
          (first
            | (go_at_call 116; refine (HCL.out _).mono ?_; rintro e w8 ⟨rfl, hb8⟩
               have ks := HK6.out _ hb8
               obtain ⟨⟨f0, f1⟩, f2, f3⟩ := HK7.out _ hb8
               have C8 := Lib.hid hb8
               clear hb8))
        all_goals
          have HN1 := Lib.hid (own_belowG (w := wq.drew) (show wq.drew.ownsRow w2.heap.size 89 2 _ _ _ from HNQ.out) C8.out)
          have hb28 : Below w2.heap.size w2 w8 := (Below.drew HBQ.out).trans (C8.out.mono (Nat.le_trans hbs (Nat.le_of_lt hsq)))
          have hst := HN1.out.stored (k * 2) (.string ⟨q1.toArray⟩)
          have hst2 := hst.1.stored (k * 2 + 1) (.int .i64 q2)
          rw [HE.out] at hst2
          have HN2 := Lib.hid hst2.1
          have HB2 := Lib.hid ((hb28.trans (only_below hst.2 hg0 hb28.size)).trans (only_below hst2.2 hg0 (Nat.le_trans hb28.size hst.2.size)))
          have H72 := Lib.hid (((PD7.out.below C8.out (Nat.lt_trans hbr hsq)).other (p := ⟨g, k * 2, none⟩) hbg (.string ⟨q1.toArray⟩)).other (p := ⟨g, k * 2 + 1, none⟩) hbg (.int .i64 q2))
          clear hst hst2 hb28 ks
          go_wp2_with fail
          go_roundw
          case rel => exact ⟨k + 1, by omega, by go_num, HN2, HB2, H72⟩
          case measure => simp [intOf]; omega
      · have HN1 : Hid (wr.ownsRow w2.heap.size 89 2 (.slice (some ⟨g, 0, none⟩) m.length m.length) m.length (RC m)) := by
          have := HN.out
          rw [List.take_of_length_le (by omega), show m.length - k = 0 by omega] at this
          simpa [RC, Hid] using this
        have KW := Lib.hid (bth HA.out (bth K2.out HB.out (Nat.le_refl _)) (Nat.le_refl _))
        have KR := Lib.hid (bth K2.out HB.out (Nat.le_refl _))
        clear HN HATM HSM
        obtain ⟨y0, y1, y2, y3, y4, y5, y6⟩ := HB7.out.cells
        have hRB := R0.out.below KR.out hsz1
        have HRB := Lib.hid hRB
        obtain ⟨r0, r1, r2, r3, r4, r5, r6⟩ := hRB.cells
        have z0 := hRB.soft 0
        have z1 := hRB.soft 1
        have z2 := hRB.soft 2
        have z3 := hRB.soft 3
        have z4 := hRB.soft 4
        have z5 := hRB.soft 5
        have z6 := hRB.soft 6
        clear hRB
        go_wp2_with fail
        have hZ := (((((((HRB.out.set0 (.slice an ls.length cn)).set1 (.slice ao l.length co)).set2 (.slice as0 bs.length cs)).set3 (.slice ar rs.length cr)).set4 (.slice at0 ts.length ct)).set5 (.slice am m.length cm)).set6 (.slice (some ⟨g, 0, none⟩) m.length m.length))
        refine bodyPost_ret (results_cell2 rfl rfl (load_rem hZ)) rfl ?_
        have hne : ∀ j : Nat, (Value.slice (some ⟨g, 0, none⟩) m.length m.length).ownBlock ≠ some (⟨w.heap.size + 1, j, none⟩ : Addr).block := fun j e => by
          have : g = w.heap.size + 1 := Option.some.inj e
          omega
        have hO : wr.ownsRow w.heap.size 89 2 (.slice (some ⟨g, 0, none⟩) m.length m.length) m.length (RC m) := own_baseG HN1.out (by omega)
        exact ⟨g, rfl, own_setNeG (own_setNeG (own_setNeG (own_setNeG (own_setNeG (own_setNeG (own_setNeG (hO) (hne 0) _) (hne 1) _) (hne 2) _) (hne 3) _) (hne 4) _) (hne 5) _) (hne 6) _, (((((((KW.out.setCell (p := ⟨w.heap.size + 1, 0, none⟩) (by show _ ≤ _ + 1; omega) _).setCell (p := ⟨w.heap.size + 1, 1, none⟩) (by show _ ≤ _ + 1; omega) _).setCell (p := ⟨w.heap.size + 1, 2, none⟩) (by show _ ≤ _ + 1; omega) _).setCell (p := ⟨w.heap.size + 1, 3, none⟩) (by show _ ≤ _ + 1; omega) _).setCell (p := ⟨w.heap.size + 1, 4, none⟩) (by show _ ≤ _ + 1; omega) _).setCell (p := ⟨w.heap.size + 1, 5, none⟩) (by show _ ≤ _ + 1; omega) _).setCell (p := ⟨w.heap.size + 1, 6, none⟩) (by show _ ≤ _ + 1; omega) _)⟩

end Go.Proofs.YtngldlconipnnaaGreatDoor
