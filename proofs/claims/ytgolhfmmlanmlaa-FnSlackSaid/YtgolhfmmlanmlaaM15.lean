/- Texts of one claim, joined in their order. -/
import Derived.Test.YtgolhfmmlanmlaaM14
import Derived.Test.YtgolhfmmlanmlaaM10
import Derived.Test.YtgolhfmmlanmlaaM8
import Derived.Test.YtgolhfmmlanmlaaM11
import Derived.Test.YtgolhfmmlanmlaaM3

/- Walks: times are drawn; a graph and times. -/
namespace Go.Proofs.Ytgolhfmmlanmlaa
open Go.RowKit Pth

theorem CurL.lowD {B b : Nat} {A : Option Addr} {n c K D : Nat} {w w' : World} (h : CurL B b A n c K w) (hb : Below D w w') (hD : b < D) : CurL B b A n c K w' := by
  obtain ⟨k, hk, h1, ⟨sd, h2⟩, h3⟩ := h
  refine ⟨k, hk, h1, ⟨sd, (hb.block b hD).trans h2⟩, fun i hi => ?_⟩
  obtain ⟨g, o', x, hA, hg, hc, h0, h4⟩ := h3 i hi
  exact ⟨g, o', x, hA, hg, (hb.cell (p := ⟨g, o' + i, none⟩) (by show g < D; omega)).trans hc, h0, h4⟩
theorem own_reader {B b : Nat} {A : Option Addr} {n c K D e m : Nat} {w w' : World} {v : Value} {xs : List Value} (h : w.ownsRow D e 1 v m xs) (hC : CurL B b A n c K w) (hg : w.grownBy w' (some b)) (hD : b < D) : w'.ownsRow D e 1 v m xs :=
  (only_reader hg hC.lt).own h hD
/-- One of some numbers. -/
def AmongPost (l : List Int) (B b : Nat) (A : Option Addr) (n c K : Nat) (w : World) (e : Ending) (w' : World) : Prop :=
  ∃ x ∈ l, e = .returned (.int .i64 x) ∧ CurL B b A n c (K + 1) w' ∧ w.grownBy w' (some b)

set_option maxRecDepth 20000 in
set_option maxHeartbeats 2000000 in
theorem amongL_any (l : List Int) (g cap : Nat) (B b : Nat) (A : Option Addr) (n c K : Nat) (w : World) (h : CurL B b A n c K w) (hn : n ≤ 2000000) (hK : K ≤ 2000000) (hm : 2 ≤ l.length) (hm2 : l.length ≤ 200)
    (hl : w.heap[g]? = some (.cells (I l).toArray 3)) (hgb : g ≠ b) :
    Calls Try.prog 61 #[.pointer (some ⟨b, 0, none⟩), .slice (some ⟨g, 0, none⟩) l.length cap] w (AmongPost l B b A n c K w) := by
  have C := Lib.hid (pickL_any B b A n c K l.length w h hn hK hm2)
  have hgl := lt_of_block hl
  clear h
  go_enter Try.func61, Try.ntmps61
  go_wp2_with fail
  refine C.out.mono ?_
  rintro e w1 ⟨i, hi0, rfl, hC, hg⟩
  have hi : i < l.length := by omega
  have hi2 : (i : Int) < (l.length : Int) := by omega
  have hc : w1.cell? ⟨g, i, none⟩ = some (.int .i64 l[i]) := by
    have h1 : w1.heap[g]? = some (.cells (I l).toArray 3) := by rw [hg.block g hgl (by simpa using hgb)]; exact hl
    rw [Lib.cell_of_heap h1, List.getElem?_toArray, I_atE hi]
  have HM := Lib.hid (List.getElem_mem hi)
  have HC := Lib.hid hC
  have HG := Lib.hid hg
  generalize l[i] = p at *
  clear hC hg C hi0 hl
  go_wp2_with fail
  go_ret
  exact ⟨p, HM.out, rfl, HC.out, HG.out⟩

/-- So many times, few of them good or not; the reader is at most 100 further. -/
def TimesPost (B b : Nat) (A : Option Addr) (n c K m : Nat) (w : World) (e : Ending) (w' : World) : Prop :=
  ∃ v ts, e = .returned v ∧ w'.ownsRow w.heap.size 3 1 v ts.length (I ts) ∧ ts.length = m ∧ (∀ x ∈ ts, 0 ≤ x ∧ x ≤ 101) ∧ CurL B b A n c (K + 100) w' ∧ w.grownBy w' (some b)

set_option maxRecDepth 20000 in
set_option maxHeartbeats 8000000 in
theorem times_any (B b : Nat) (A : Option Addr) (n c K m : Nat) (w : World) (h : CurL B b A n c K w) (hn : n ≤ 2000000) (hK : K ≤ 1000000) (hm : m ≤ 12) :
    Calls Try.prog 59 #[.pointer (some ⟨b, 0, none⟩), .int .i64 (m : Int)] w (TimesPost B b A n c K m w) := by
  have hbw := h.lt
  have HC0 : Hid (CurL B b A n c (K + ([] : List Int).length) w) := h
  have HG0 : Hid (w.grownBy w (some b)) := ⟨rfl, rfl, rfl, Nat.le_refl _, fun _ _ _ => rfl⟩
  clear h
  go_enter Try.func59, Try.ntmps59
  go_wp2_with fail
  go_loopw [1, 5] (fun i q wr => ∃ (k : Nat) (ts : List Int), i = .int .i64 (k : Int) ∧ Hid (ts.length + k = m) ∧ Hid (∀ x ∈ ts, 0 ≤ x ∧ x ≤ 101) ∧ Hid (wr.ownsRow w.heap.size 3 1 q ts.length (I ts)) ∧ Hid (CurL B b A n c (K + ts.length) wr) ∧ Hid (w.grownBy wr (some b))) (fun i _ _ => (intOf i).toNat)
  case atStart => exact ⟨m, [], rfl, by show _ = _; simp, by simp [Hid], none_ownZ _ _ _, HC0, HG0⟩
  case round =>
    clear HC0 HG0
    obtain ⟨k, ts, rfl, HL, HX, HN, HC, HG⟩ := hrel
    have hle := HL.out
    have htl : ts.length ≤ 12 := by omega
    by_cases hk : 0 < k
    · have hgt : decide ((k : Int) > 0) = true := by simp; omega
      have hsub : IntKind.i64.wrap ((k : Int) - 1) = ((k - 1 : Nat) : Int) := by rw [IntKind.wrap_i64]; omega
      have HP := Lib.hid (pickL_any B b A n c (K + ts.length) 9 wr HC.out hn (by omega) (by omega))
      have hbr := HC.out.lt
      clear hle
      go_wp2_with fail
      refine HP.out.mono ?_
      rintro e w1 ⟨x, hx, rfl, hC1, hg1⟩
      have HN1 := Lib.hid (own_reader HN.out HC.out hg1 hbw)
      have HC1 := Lib.hid hC1
      have hxb : x < 9 ∨ x = 0 := hx
      obtain ⟨y, hy⟩ : ∃ y : Int, y = 1 + (x : Int) := ⟨_, rfl⟩
      have hyb : 0 ≤ y ∧ y ≤ 101 := by omega
      have hadd : IntKind.i64.wrap (1 + (x : Int)) = y := by rw [IntKind.wrap_i64]; omega
      have hs1 : w.heap.size ≤ w1.heap.size := Nat.le_trans HG.out.size hg1.size
      have HG1 := Lib.hid (only_chain HG.out hg1)
      have HX1 : Hid (∀ z ∈ ts ++ [y], 0 ≤ z ∧ z ≤ 101) := fun z hz => by
        rw [List.mem_append, List.mem_singleton] at hz
        rcases hz with hz | rfl
        · exact HX.out z hz
        · exact hyb
      clear hC1 hg1 hx hxb hy hyb HP
      go_wp2_with (at_builtin; refine wpAppAtE rfl _ _ rfl w.heap.size _ ts rfl HN1.out _ rfl rfl (by omega) hs1 ?_; intro v8 w8 ho8 hg8 _; have HN8 := Lib.hid ho8; have HC8 := Lib.hid (HC1.out.lowD (below_own HN1.out hg8 hs1) hbw); have HG8 := Lib.hid (only_trans HG1.out hg8 (fun i hi => .inr (HN1.out.lt i hi).1)); clear ho8 hg8)
      go_roundw
      case rel => exact ⟨k - 1, ts ++ [y], rfl, by have := HL.out; show _ = _; rw [List.length_append, List.length_singleton]; omega, HX1, HN8, by rw [List.length_append, List.length_singleton]; exact HC8, HG8⟩
      case measure => simp [intOf]; omega
    · obtain rfl : k = 0 := by omega
      by_cases h0 : ts.length = 0
      · obtain rfl : ts = [] := List.eq_nil_of_length_eq_zero h0
        obtain ⟨qa, qc, hq⟩ := own_slice HN.out
        subst hq
        have HM : Hid (([] : List Int).length = m) := by have := HL.out; show _ = _; omega
        have HCZ := Lib.hid (HC.out.more (show K + ([] : List Int).length ≤ K + 100 by simp))
        clear hle h0 htl
        go_wp2_with fail
        go_ret
        exact ⟨_, [], rfl, HN.out, HM.out, HX.out, HCZ.out, HG.out⟩
      · have hz : decide ((ts.length : Int) > 0) = true := decide_eq_true (by omega)
        have hpos : 0 < ts.length := by omega
        have hposz : (0 : Int) < (ts.length : Int) := by omega
        have HM : Hid (ts.length = m) := by have := HL.out; show _ = _; omega
        have HO := Lib.hid (oneL_any B b A n c (K + ts.length) 20 wr HC.out hn (by omega) (by omega) (by omega))
        have hq : ∃ gq cq, u5 = .slice (some ⟨gq, 0, none⟩) ts.length cq ∧ w.heap.size ≤ gq := by
          rcases HN.out.2 with ⟨_, h1⟩ | ⟨g, cap, cur, hv, hg, _⟩
          · omega
          · exact ⟨g, cap, hv, hg⟩
        obtain ⟨gq, cq, rfl, hgq⟩ := hq
        clear hle h0
        go_wp2_with fail
        refine HO.out.mono ?_
        rintro e w1 ⟨o, rfl, hC1, hg1⟩
        have HN1 := Lib.hid (own_reader HN.out HC.out hg1 hbw)
        have HC1 := Lib.hid hC1
        have HG1 := Lib.hid (only_chain HG.out hg1)
        clear hC1 hg1 HO
        cases o with
        | false =>
          have HCZ := Lib.hid (HC1.out.more (show K + ts.length + 1 ≤ K + 100 by omega))
          go_wp2_with fail
          go_ret
          exact ⟨_, ts, rfl, HN1.out, HM.out, HX.out, HCZ.out, HG1.out⟩
        | true =>
          obtain ⟨w2, hw2⟩ : ∃ w2, w2 = w1.alloc (.cells #[.int .i64 0, .int .i64 100, .int .i64 101] 3) := ⟨_, rfl⟩
          have hb2 : Below w1.heap.size w1 w2 := by rw [hw2]; exact (Below.refl _ w1).alloc (Nat.le_refl _) _
          have HA := Lib.hid (amongL_any [0, 100, 101] w1.heap.size 3 B b A n c (K + ts.length + 1) w2 (HC1.out.below hb2) hn (by omega) (by simp) (by simp) (by rw [hw2]; exact heap_alloc_new w1 _) (by have := HC1.out.lt; omega))
          have HN2 := Lib.hid (own_below HN1.out hb2)
          have HC2 := Lib.hid (HC1.out.below hb2)
          have HG2 : Hid (w.grownBy w2 (some b)) := by rw [hw2]; exact only_alloc HG1.out _
          have HW2 := Lib.hid hw2
          clear hb2 hw2
          go_wp2_with fail
          rw [← HW2.out]
          refine HA.out.mono ?_
          rintro e w3 ⟨x, hx, rfl, hC3, hg3⟩
          have hN3 := own_reader HN2.out HC2.out hg3 hbw
          have HG3 := Lib.hid (only_chain HG2.out hg3)
          have hxb : 0 ≤ x ∧ x ≤ 101 := by simp at hx; omega
          have hcu : w3.cell? ⟨gq, 0, none⟩ = some (.int .i64 ts[0]) := by rw [hN3.cellAt 0 (by omega), I_atE hpos]
          have hf2 := hN3.frozenAt 0
          have hst := hN3.stored 0 (.int .i64 x)
          rw [I_setE] at hst
          have HO3 := Lib.hid hst.1
          have hs3 : w.heap.size ≤ w3.heap.size := HG3.out.size
          have HC3 := Lib.hid ((hC3.lowD (below_own hN3 hst.2 hs3) hbw).more (show K + ts.length + 1 + 1 ≤ K + 100 by omega))
          have HG4 := Lib.hid (only_trans HG3.out hst.2 (fun i hi => .inr (hN3.lt i hi).1))
          have HX3 : Hid (∀ z ∈ ts.set 0 x, 0 ≤ z ∧ z ≤ 101) := fun z hz => by
            rcases List.mem_or_eq_of_mem_set hz with hz | rfl
            · exact HX.out z hz
            · exact hxb
          clear hx hC3 hg3 hN3 hxb hst
          go_wp2_with fail
          go_ret
          exact ⟨_, ts.set 0 x, rfl, by rw [List.length_set]; exact HO3.out, by rw [List.length_set]; exact HM.out, HX3.out, HC3.out, HG4.out⟩
end Go.Proofs.Ytgolhfmmlanmlaa

/- Walks: a graph and times are drawn. -/
namespace Go.Proofs.Ytgolhfmmlanmlaa
open Go.RowKit Pth

/-- A small graph and as many times, in memory of the call's own. -/
def GTPost (w : World) (e : Ending) (w' : World) : Prop :=
  ∃ v ls l tv ts, e = .returned (.tuple #[v, tv]) ∧ GraphO w.heap.size w' v ls l ∧ SmallG ls l ∧ w'.ownsRow w.heap.size 3 1 tv ts.length (I ts) ∧ ts.length = ls.length ∧ (∀ x ∈ ts, 0 ≤ x ∧ x ≤ 101) ∧ Below w.heap.size w w'
theorem below_reader {B b : Nat} {a w w' : World} (h : Below B a w) (hg : w.grownBy w' (some b)) (hb : B ≤ b) (hs : B ≤ w.heap.size) : Below B a w' :=
  ⟨hg.os.trans h.os, hg.tape.trans h.tape, hg.output.trans h.output, Nat.le_trans h.size hg.size, fun i hi => (hg.block i (by omega) (fun e => by simp only [Option.some.injEq] at e; omega)).trans (h.block i hi)⟩
theorem graph_rowsQ {w : World} {nv ov : Value} {ls : List (List Int)} {l : List Int} (h : GraphV w (.agg #[nv, ov]) ls l) : RowN w nv ls ∧ RowV w ov (I l) := by
  obtain ⟨nv', ov', h, h1, h2⟩ := h
  injection h with h
  simp at h
  obtain ⟨rfl, rfl⟩ := h
  exact ⟨h1, h2⟩

set_option maxRecDepth 20000 in
set_option maxHeartbeats 8000000 in
theorem drawEnds_any (A : Option Addr) (n c : Nat) (w : World) (hby : BytesIn w A n) (hn : n ≤ 2000000) :
    Calls Try.prog 38 #[.slice A n c] w (GTPost w) := by
  obtain ⟨w0, hw0⟩ : ∃ w0, w0 = w.alloc (.cells #[.slice none 0 0, .slice none 0 0] 26) := ⟨_, rfl⟩
  have hz0 : w0.heap.size = w.heap.size + 1 := by rw [hw0]; simp
  have b0 : Below w.heap.size w w0 := by rw [hw0]; exact (Below.refl _ w).alloc (Nat.le_refl _) _
  have R0 : Hid (Blk2 w0 w.heap.size 26 (.slice none 0 0) (.slice none 0 0)) := by rw [hw0]; exact Blk2.new
  obtain ⟨w1, hw1⟩ : ∃ w1, w1 = w0.alloc (.cells #[.slice A n c, .int .i64 0, .int .u64 0] 65) := ⟨_, rfl⟩
  have hz1 : w1.heap.size = w0.heap.size + 1 := by rw [hw1]; simp
  have b1 : Below w0.heap.size w0 w1 := by rw [hw1]; exact (Below.refl _ w0).alloc (Nat.le_refl _) _
  have hC1 : CurL w0.heap.size w0.heap.size A n c 0 w1 := ⟨0, Nat.le_refl _, by rw [hw1]; exact cur_new (bytes_below hby b0)⟩
  have HB1 := Lib.hid (bth b0 b1 (Nat.le_refl _))
  have R1 := Lib.hid (R0.out.below b1 (by omega))
  have HG := Lib.hid (graph_any w0.heap.size w0.heap.size A n c 0 w1 hC1 hn (by omega) (Nat.le_refl _))
  have HW0 := Lib.hid hw0
  have HW1 : Hid ((w.alloc (.cells #[.slice none 0 0, .slice none 0 0] 26)).alloc (.cells #[.slice A n c, .int .i64 0, .int .u64 0] 65) = w1) := by show _ = _; rw [← hw0, hw1]
  have HZ0 := Lib.hid hz0
  have HZ1 := Lib.hid hz1
  clear hw0 hw1 b0 b1 hC1 hby hz0 hz1
  obtain ⟨b, hb⟩ : ∃ b, b = w0.heap.size := ⟨_, rfl⟩
  have hbe : w.heap.size + 1 = b := by rw [hb, HZ0.out]
  rw [← hb] at HG
  have hlt : w.heap.size < b := by omega
  have hb1 : b < w1.heap.size := by have := HZ1.out; omega
  have HBE := Lib.hid hbe
  clear hb
  go_enter Try.func38, Try.ntmps38
  go_upto_region 2 with fail
  rw [HW1.out]
  clear hbe
  go_wp2_with fail
  refine HG.out.mono ?_
  rintro e w2 ⟨v, ls, l, rfl, hgo, hsg, hC2, hg2⟩
  obtain ⟨an, cn, ao, co, rfl⟩ := hgo.slices
  obtain ⟨w3, hw3⟩ : ∃ w3, w3 = w2.alloc (.cells #[.slice an ls.length cn, .slice ao l.length co] 26) := ⟨_, rfl⟩
  have b3 : Below w2.heap.size w2 w3 := by rw [hw3]; exact (Below.refl _ w2).alloc (Nat.le_refl _) _
  have hlw : w.heap.size < w2.heap.size := by have := HB1.out.size; have := hg2.size; omega
  have hb2 : b < w2.heap.size := Nat.lt_of_lt_of_le hb1 hg2.size
  have G3 : Hid (Blk2 w3 w2.heap.size 26 (.slice an ls.length cn) (.slice ao l.length co)) := by rw [hw3]; exact Blk2.new
  have R3 := Lib.hid ((R1.out.beside hg2 (by simp only [ne_eq, Option.some.injEq]; omega)).below b3 hlw)
  have HB3 := Lib.hid (bth (below_reader HB1.out hg2 (Nat.le_of_lt hlt) HB1.out.size) b3 (Nat.le_refl _))
  have hO3 := hgo.below b3
  have HO3 := Lib.hid hO3
  have HSG := Lib.hid hsg
  have hC3 := hC2.below b3
  have h12 : ls.length ≤ 12 := by have := hsg.1; omega
  have h10 : l.length ≤ 12 := by have := hsg.2.1; omega
  have HT := Lib.hid (fun W (h : Below w3.heap.size w3 W) => times_any b b A n c (0 + 100) ls.length W (hC3.below h) hn (by omega) h12)
  have hs3 : w2.heap.size < w3.heap.size := by rw [hw3]; simp
  have hb3 : b < w3.heap.size := by omega
  have HW3 := Lib.hid hw3
  have hnn : ls.length ≤ cn ∧ cn ≤ 2 ^ 63 - 1 := by
    obtain ⟨a', c', hv, h1, h2, _⟩ := (graph_rowsQ hgo.view).1.lists
    injection hv with _ _ h3
    unfold maxLen at h2
    omega
  obtain ⟨hn1, hn2⟩ := hnn
  have HC3 := Lib.hid hC3
  clear hgo hsg hC2 hg2 b3 hw3 hO3 hC3 HG
  have PD : Hid (Blk2 w3.drew w2.heap.size 26 (.slice an ls.length cn) (.slice ao l.length co)) := G3.out
  have ks := PD.out.cells
  go_upto_region 3 with fail
  rw [← HW3.out]
  go_region_held3 (fun w' => w'.cell? ⟨w2.heap.size, 0, none⟩ = some (.slice an ls.length cn) ∧ w'.cell? ⟨w2.heap.size, 1, none⟩ = some (.slice ao l.length co)) (first | exact ks | exact ks2)
    (first
      | (go_at_call 59; refine (HT.out _ (Below.drew (Below.refl _ _))).mono ?_; rintro e w4 ⟨tv, ts, rfl, hown, hlen, hx, hC4, hg4⟩
         have R4 := Lib.hid (Blk2.beside (w := w3.drew) R3.out hg4 (by simp only [ne_eq, Option.some.injEq]; omega))
         have ks := (Blk2.beside (w := w3.drew) G3.out hg4 (by simp only [ne_eq, Option.some.injEq]; omega)).cells
         have G4 := Blk2.beside (w := w3.drew) G3.out hg4 (by simp only [ne_eq, Option.some.injEq]; omega)
         have ks2 := ((G4.setNe (p := ⟨w.heap.size, 0, none⟩) (by show w2.heap.size ≠ w.heap.size; omega) (.slice an ls.length cn)).setNe (p := ⟨w.heap.size, 1, none⟩) (by show w2.heap.size ≠ w.heap.size; omega) (.slice ao l.length co)).cells
         obtain ⟨r0, r1⟩ := R4.out.cells
         have f0 := R4.out.soft 0
         have f1 := R4.out.soft 1
         have HO4 := Lib.hid (GraphO.onlyB (w := w3.drew) HO3.out (only_reader hg4 hb3) hb1)
         have HT4 := Lib.hid hown
         have HLN := Lib.hid hlen
         have HX := Lib.hid hx
         have HB4 := Lib.hid (below_reader (w := w3.drew) (Below.drew HB3.out) hg4 (Nat.le_of_lt hlt) HB3.out.size)
         clear hown hlen hx hC4 hg4 G4))
  all_goals
    have k1 := R4.out.set0 (.slice an ls.length cn)
    have k2 := k1.set1 (.slice ao l.length co)
    have o1 := graph_setG (o := 0) HO4.out R4.out (.slice an ls.length cn)
    have o2 := graph_setG (o := 1) o1 k1 (.slice ao l.length co)
    have t1 := own_setNe (p := ⟨w.heap.size, 0, none⟩) HT4.out (fun e => blk_ne R4.out HT4.out (by decide) _ e rfl) (.slice an ls.length cn)
    have t2 := own_setNe (p := ⟨w.heap.size, 1, none⟩) t1 (fun e => blk_ne k1 t1 (by decide) _ e rfl) (.slice ao l.length co)
    have b5 := (HB4.out.setCell (p := ⟨w.heap.size, 0, none⟩) (Nat.le_refl _) (.slice an ls.length cn)).setCell (p := ⟨w.heap.size, 1, none⟩) (Nat.le_refl _) (.slice ao l.length co)
    have HK2 := Lib.hid k2
    have HO5 := Lib.hid (o2.base (B' := w.heap.size) HB1.out.size)
    have HT5 := Lib.hid (own_base (B' := w.heap.size) t2 HB3.out.size)
    have HB5 := Lib.hid b5
    clear k1 k2 o1 o2 t1 t2 b5 ks ks2
    go_wp2_with fail
    refine bodyPost_ret (results_cell2 rfl rfl (load_store2 HK2.out.cells.1 HK2.out.cells.2)) rfl ?_
    exact ⟨_, ls, l, _, ts, rfl, HO5.out, HSG.out, HT5.out, HLN.out, HX.out, HB5.out⟩

set_option maxRecDepth 20000 in
set_option maxHeartbeats 4000000 in
theorem drawWay_any (A : Option Addr) (n c : Nat) (w : World) (hby : BytesIn w A n) (hn : n ≤ 2000000) :
    Calls Try.prog 11 #[.slice A n c] w (GTPost w) := by
  obtain ⟨w0, hw0⟩ : ∃ w0, w0 = w.alloc (.cells #[.slice none 0 0, .slice none 0 0] 26) := ⟨_, rfl⟩
  have b0 : Below w.heap.size w w0 := by rw [hw0]; exact (Below.refl _ w).alloc (Nat.le_refl _) _
  have hs0 : w.heap.size < w0.heap.size := by rw [hw0]; simp
  have R0 : Hid (Blk2 w0 w.heap.size 26 (.slice none 0 0) (.slice none 0 0)) := by rw [hw0]; exact Blk2.new
  have HC := Lib.hid (drawEnds_any A n c w0 (bytes_below hby b0) hn)
  have HB0 := Lib.hid b0
  have HW0 := Lib.hid hw0
  clear hw0 b0 hby
  go_enter Try.func11, Try.ntmps11
  go_wp2_with fail
  rw [← HW0.out]
  refine HC.out.mono ?_
  rintro e w1 ⟨v, ls, l, tv, ts, rfl, hgo, hsg, hown, hlen, hx, hb⟩
  obtain ⟨an, cn, ao, co, rfl⟩ := hgo.slices
  have R1 := Lib.hid (R0.out.below hb hs0)
  obtain ⟨r0, r1⟩ := R1.out.cells
  have f0 := R1.out.soft 0
  have f1 := R1.out.soft 1
  have k1 := R1.out.set0 (.slice an ls.length cn)
  have k2 := k1.set1 (.slice ao l.length co)
  have o1 := graph_setG (o := 0) hgo R1.out (.slice an ls.length cn)
  have o2 := graph_setG (o := 1) o1 k1 (.slice ao l.length co)
  have t1 := own_setNe (p := ⟨w.heap.size, 0, none⟩) hown (fun e => blk_ne R1.out hown (by decide) _ e rfl) (.slice an ls.length cn)
  have t2 := own_setNe (p := ⟨w.heap.size, 1, none⟩) t1 (fun e => blk_ne k1 t1 (by decide) _ e rfl) (.slice ao l.length co)
  have b5 := ((bth HB0.out hb (Nat.le_refl _)).setCell (p := ⟨w.heap.size, 0, none⟩) (Nat.le_refl _) (.slice an ls.length cn)).setCell (p := ⟨w.heap.size, 1, none⟩) (Nat.le_refl _) (.slice ao l.length co)
  have HK2 := Lib.hid k2
  have HO5 := Lib.hid (o2.base (B' := w.heap.size) HB0.out.size)
  have HT5 := Lib.hid (own_base (B' := w.heap.size) t2 HB0.out.size)
  have HB5 := Lib.hid b5
  have HSG := Lib.hid hsg
  have HLN := Lib.hid hlen
  have HX := Lib.hid hx
  clear k1 k2 o1 o2 t1 t2 b5 hgo hsg hown hlen hx hb
  go_wp2_with fail
  refine bodyPost_ret (results_cell2 rfl rfl (load_store2 HK2.out.cells.1 HK2.out.cells.2)) rfl ?_
  exact ⟨_, ls, l, _, ts, rfl, HO5.out, HSG.out, HT5.out, HLN.out, HX.out, HB5.out⟩

set_option maxRecDepth 20000 in
set_option maxHeartbeats 4000000 in
theorem drawTails_any (A : Option Addr) (n c : Nat) (w : World) (hby : BytesIn w A n) (hn : n ≤ 2000000) :
    Calls Try.prog 18 #[.slice A n c] w (GTPost w) := by
  obtain ⟨w0, hw0⟩ : ∃ w0, w0 = w.alloc (.cells #[.slice none 0 0, .slice none 0 0] 26) := ⟨_, rfl⟩
  have b0 : Below w.heap.size w w0 := by rw [hw0]; exact (Below.refl _ w).alloc (Nat.le_refl _) _
  have hs0 : w.heap.size < w0.heap.size := by rw [hw0]; simp
  have R0 : Hid (Blk2 w0 w.heap.size 26 (.slice none 0 0) (.slice none 0 0)) := by rw [hw0]; exact Blk2.new
  have HC := Lib.hid (drawEnds_any A n c w0 (bytes_below hby b0) hn)
  have HB0 := Lib.hid b0
  have HW0 := Lib.hid hw0
  clear hw0 b0 hby
  go_enter Try.func18, Try.ntmps18
  go_wp2_with fail
  rw [← HW0.out]
  refine HC.out.mono ?_
  rintro e w1 ⟨v, ls, l, tv, ts, rfl, hgo, hsg, hown, hlen, hx, hb⟩
  obtain ⟨an, cn, ao, co, rfl⟩ := hgo.slices
  have R1 := Lib.hid (R0.out.below hb hs0)
  obtain ⟨r0, r1⟩ := R1.out.cells
  have f0 := R1.out.soft 0
  have f1 := R1.out.soft 1
  have k1 := R1.out.set0 (.slice an ls.length cn)
  have k2 := k1.set1 (.slice ao l.length co)
  have o1 := graph_setG (o := 0) hgo R1.out (.slice an ls.length cn)
  have o2 := graph_setG (o := 1) o1 k1 (.slice ao l.length co)
  have t1 := own_setNe (p := ⟨w.heap.size, 0, none⟩) hown (fun e => blk_ne R1.out hown (by decide) _ e rfl) (.slice an ls.length cn)
  have t2 := own_setNe (p := ⟨w.heap.size, 1, none⟩) t1 (fun e => blk_ne k1 t1 (by decide) _ e rfl) (.slice ao l.length co)
  have b5 := ((bth HB0.out hb (Nat.le_refl _)).setCell (p := ⟨w.heap.size, 0, none⟩) (Nat.le_refl _) (.slice an ls.length cn)).setCell (p := ⟨w.heap.size, 1, none⟩) (Nat.le_refl _) (.slice ao l.length co)
  have HK2 := Lib.hid k2
  have HO5 := Lib.hid (o2.base (B' := w.heap.size) HB0.out.size)
  have HT5 := Lib.hid (own_base (B' := w.heap.size) t2 HB0.out.size)
  have HB5 := Lib.hid b5
  have HSG := Lib.hid hsg
  have HLN := Lib.hid hlen
  have HX := Lib.hid hx
  clear k1 k2 o1 o2 t1 t2 b5 hgo hsg hown hlen hx hb
  go_wp2_with fail
  refine bodyPost_ret (results_cell2 rfl rfl (load_store2 HK2.out.cells.1 HK2.out.cells.2)) rfl ?_
  exact ⟨_, ls, l, _, ts, rfl, HO5.out, HSG.out, HT5.out, HLN.out, HX.out, HB5.out⟩

set_option maxRecDepth 20000 in
set_option maxHeartbeats 4000000 in
theorem drawSlack_any (A : Option Addr) (n c : Nat) (w : World) (hby : BytesIn w A n) (hn : n ≤ 2000000) :
    Calls Try.prog 21 #[.slice A n c] w (GTPost w) := by
  obtain ⟨w0, hw0⟩ : ∃ w0, w0 = w.alloc (.cells #[.slice none 0 0, .slice none 0 0] 26) := ⟨_, rfl⟩
  have b0 : Below w.heap.size w w0 := by rw [hw0]; exact (Below.refl _ w).alloc (Nat.le_refl _) _
  have hs0 : w.heap.size < w0.heap.size := by rw [hw0]; simp
  have R0 : Hid (Blk2 w0 w.heap.size 26 (.slice none 0 0) (.slice none 0 0)) := by rw [hw0]; exact Blk2.new
  have HC := Lib.hid (drawEnds_any A n c w0 (bytes_below hby b0) hn)
  have HB0 := Lib.hid b0
  have HW0 := Lib.hid hw0
  clear hw0 b0 hby
  go_enter Try.func21, Try.ntmps21
  go_wp2_with fail
  rw [← HW0.out]
  refine HC.out.mono ?_
  rintro e w1 ⟨v, ls, l, tv, ts, rfl, hgo, hsg, hown, hlen, hx, hb⟩
  obtain ⟨an, cn, ao, co, rfl⟩ := hgo.slices
  have R1 := Lib.hid (R0.out.below hb hs0)
  obtain ⟨r0, r1⟩ := R1.out.cells
  have f0 := R1.out.soft 0
  have f1 := R1.out.soft 1
  have k1 := R1.out.set0 (.slice an ls.length cn)
  have k2 := k1.set1 (.slice ao l.length co)
  have o1 := graph_setG (o := 0) hgo R1.out (.slice an ls.length cn)
  have o2 := graph_setG (o := 1) o1 k1 (.slice ao l.length co)
  have t1 := own_setNe (p := ⟨w.heap.size, 0, none⟩) hown (fun e => blk_ne R1.out hown (by decide) _ e rfl) (.slice an ls.length cn)
  have t2 := own_setNe (p := ⟨w.heap.size, 1, none⟩) t1 (fun e => blk_ne k1 t1 (by decide) _ e rfl) (.slice ao l.length co)
  have b5 := ((bth HB0.out hb (Nat.le_refl _)).setCell (p := ⟨w.heap.size, 0, none⟩) (Nat.le_refl _) (.slice an ls.length cn)).setCell (p := ⟨w.heap.size, 1, none⟩) (Nat.le_refl _) (.slice ao l.length co)
  have HK2 := Lib.hid k2
  have HO5 := Lib.hid (o2.base (B' := w.heap.size) HB0.out.size)
  have HT5 := Lib.hid (own_base (B' := w.heap.size) t2 HB0.out.size)
  have HB5 := Lib.hid b5
  have HSG := Lib.hid hsg
  have HLN := Lib.hid hlen
  have HX := Lib.hid hx
  clear k1 k2 o1 o2 t1 t2 b5 hgo hsg hown hlen hx hb
  go_wp2_with fail
  refine bodyPost_ret (results_cell2 rfl rfl (load_store2 HK2.out.cells.1 HK2.out.cells.2)) rfl ?_
  exact ⟨_, ls, l, _, ts, rfl, HO5.out, HSG.out, HT5.out, HLN.out, HX.out, HB5.out⟩

end Go.Proofs.Ytgolhfmmlanmlaa

/- Walks: the laws' sameInts and has; the law that the longest way is as long as all takes. -/
namespace Go.Proofs.Ytgolhfmmlanmlaa
open Go.RowKit Pth

set_option maxRecDepth 20000 in
set_option maxHeartbeats 8000000 in
theorem sameInts_any (R : List Int) (x y : Value) (w : World) (hx : RowV w x (I R)) (hy : RowV w y (I R)) (hl : R.length ≤ 1000000) :
    Calls Try.prog 16 #[x, y] w (BoolB true w) := by
  obtain ⟨ax, cx, rfl, hx1, hx2, hxt⟩ := hx.ints
  obtain ⟨ay, cy, rfl, hy1, hy2, hyt⟩ := hy.ints
  unfold maxLen at hx2 hy2
  have HXT := Lib.hid hxt
  have HYT := Lib.hid hyt
  clear hxt hyt hx hy
  go_enter Try.func16, Try.ntmps16
  go_wp2_with fail
  go_loopw [13] (fun i wr => ∃ k : Nat, k ≤ R.length ∧ i = .int .i64 (k : Int) ∧ Hid (Below w.heap.size w wr)) (fun i _ => R.length - (intOf i).toNat)
  case atStart => exact ⟨0, Nat.zero_le _, rfl, Below.refl _ _⟩
  case round =>
    obtain ⟨k, hk, rfl, HB⟩ := hrel
    by_cases hlt : k < R.length
    · obtain ⟨g, o, hgo, hg, hc⟩ := HXT.out k hlt
      obtain ⟨g', o', hgo', hg', hc'⟩ := HYT.out k hlt
      subst hgo hgo'
      have c1 : wr.cell? ⟨g, o + k, none⟩ = some (.int .i64 R[k]) := (HB.out.cell (p := ⟨g, o + k, none⟩) hg).trans hc
      have c2 : wr.cell? ⟨g', o' + k, none⟩ = some (.int .i64 R[k]) := (HB.out.cell (p := ⟨g', o' + k, none⟩) hg').trans hc'
      have hltz : (k : Int) < (R.length : Int) := by omega
      clear hc hc'
      generalize R[k] = x at *
      go_wp2_with fail
      go_region
      all_goals
        go_wp2_with fail
        go_roundw
        case rel => exact ⟨k + 1, by omega, by go_num, Lib.hid (Below.drew HB.out)⟩
        case measure => simp [intOf]; omega
    · go_wp2_with fail
      go_ret
      exact ⟨rfl, HB.out⟩

set_option maxRecDepth 20000 in
set_option maxHeartbeats 8000000 in
theorem has_any (l : List Int) (n : Int) (v : Value) (w : World) (hrow : RowV w v (I l)) :
    Calls Try.prog 17 #[v, .int .i64 n] w fun e w' => e = .returned (.bool (hasL l n)) ∧ w' = w := by
  obtain ⟨a, cap, rfl, hc1, hc2, hat⟩ := hrow.ints
  clear hrow
  unfold maxLen at hc2
  have HAT := Lib.hid hat
  clear hat
  go_enter Try.func17, Try.ntmps17
  go_wp2_with fail
  go_loop [9] (fun i => ∃ k : Nat, k ≤ l.length ∧ i = .int .i64 k ∧ Hid (hasL l n = hasL (l.drop k) n)) (fun i => l.length - (intOf i).toNat)
  case atStart => exact ⟨0, Nat.zero_le _, rfl, rfl⟩
  case round =>
    obtain ⟨k, hk, rfl, HO⟩ := hrel
    by_cases hlt : k < l.length
    · obtain ⟨g, o, rfl, hg, hcell⟩ := HAT.out k hlt
      by_cases hx : l[k] = n
      · have HR : Hid (hasL l n = true) := by rw [hasL, decide_eq_true_iff, ← hx]; exact List.getElem_mem hlt
        have hx1 : (l[k] == n) = true := by simp [hx]
        generalize l[k] = x at hcell hx hx1
        clear HO hx
        go_wp2_with fail
        go_ret
        exact ⟨ret_bool HR.out.symm, rfl⟩
      · have HR : Hid (hasL l n = hasL (l.drop (k + 1)) n) := has_next hlt HO.out hx
        have hx1 : (l[k] == n) = false := by simp [hx]
        generalize l[k] = x at hcell hx hx1
        clear HO hx
        go_wp2_with fail
        go_round
        case rel => exact ⟨k + 1, by omega, by go_num, HR⟩
        case measure => simp [intOf]; omega
    · have HR : Hid (hasL l n = false) := by rw [HO.out, List.drop_of_length_le (by omega)]; rfl
      clear HO
      go_wp2_with fail
      go_ret
      exact ⟨ret_bool HR.out.symm, rfl⟩

theorem wayT_shortS (ls : List (List Int)) (l ts : List Int) : (ifL (timesG ls l ts) (wayT ls l ts)).length ≤ 1000000 := by
  rcases hT : timesG ls l ts with _ | _
  · show ([] : List Int).length ≤ _; simp
  · show (wayT ls l ts).length ≤ _; have := wayT_len ls l ts; omega
theorem lenS {ls : List (List Int)} {l ts x : List Int} (h : x.length = ls.length) : (ifL (timesG ls l ts) x).length ≤ 1000000 := by
  rcases hT : timesG ls l ts with _ | _
  · show ([] : List Int).length ≤ _; simp
  · show x.length ≤ _; have := (timesG_yes hT).1.high; omega
theorem endsL_shortS (ls : List (List Int)) (l ts : List Int) : (ifL (timesG ls l ts) (endsL ls l ts)).length ≤ 1000000 := lenS (endsL_len _ _ _)
theorem tailsL_shortS (ls : List (List Int)) (l ts : List Int) : (ifL (timesG ls l ts) (tailsL ls l ts)).length ≤ 1000000 := lenS (tailsL_len _ _ _)

set_option maxRecDepth 20000 in
set_option maxHeartbeats 16000000 in
theorem fnEnds_any (A1 A2 : Option Addr) (n1 c1 n2 c2 : Nat) (w : World) (hi1 : BytesIn w A1 n1) (hi2 : BytesIn w A2 n2) (hn1 : n1 ≤ 140737488355328) (hn2 : n2 ≤ 140737488355328) :
    Calls Try.prog 3 #[.slice A1 n1 c1, .slice A2 n2 c2] w (YesZ w) := by
  have hadd : IntKind.i64.wrap ((n1 : Int) + (n2 : Int)) = ((n1 + n2 : Nat) : Int) := by rw [IntKind.wrap_i64]; omega
  by_cases hbig : 1048576 < n1 + n2
  · have hgt : decide (((n1 + n2 : Nat) : Int) > 1048576) = true := decide_eq_true (by omega)
    clear hi1 hi2
    generalize n1 + n2 = nn at *
    go_enter Try.func3, Try.ntmps3
    go_wp2_with fail
    go_ret
    exact ⟨rfl, Below.refl _ _⟩
  have hgt : decide (((n1 + n2 : Nat) : Int) > 1048576) = false := decide_eq_false (by omega)
  have HD1 := Lib.hid (drawWay_any A1 n1 c1 w hi1 (by omega))
  have HD2 := Lib.hid (fun W (h : Below w.heap.size w W) => drawTails_any A2 n2 c2 W (bytes_below hi2 h) (by omega))
  clear hi1 hi2 hbig hn1 hn2
  generalize n1 + n2 = nn at *
  go_enter Try.func3, Try.ntmps3
  go_wp2_with fail
  refine HD1.out.mono ?_
  rintro e w1 ⟨v, ls, l, tv, ts, rfl, hgo, hsg, hown, hlen, hx, hb1⟩
  have HGV := Lib.hid hgo.view
  have HRV := Lib.hid (RowV.of_own hown)
  obtain ⟨an, cn, ao, co, rfl⟩ := hgo.slices
  obtain ⟨tm, tc, hz⟩ := own_slice hown
  subst hz
  have KW1 := Lib.hid hb1
  obtain ⟨w2, hw2⟩ : ∃ w2, w2 = w1.alloc (.cells #[.slice an ls.length cn, .slice ao l.length co] 26) := ⟨_, rfl⟩
  have P2 : Hid (Blk2 w2 w1.heap.size 26 (.slice an ls.length cn) (.slice ao l.length co)) := by rw [hw2]; exact Blk2.new
  have b2 : Below w1.heap.size w1 w2 := by rw [hw2]; exact (Below.refl _ w1).alloc (Nat.le_refl _) _
  have hsz2 : w1.heap.size < w2.heap.size := by rw [hw2]; simp
  have KW2 := Lib.hid (bth KW1.out b2 (Nat.le_refl _))
  have K2 := Lib.hid (Below.refl w2.heap.size w2)
  have HGW := Lib.hid (fun W (h : Below w2.heap.size w2 W) => HGV.out.below (bth b2 h (Nat.le_refl _)))
  have HRW := Lib.hid (fun W (h : Below w2.heap.size w2 W) => HRV.out.below (bth b2 h (Nat.le_refl _)))
  have HW2 := Lib.hid hw2
  have hsh1 := wayT_shortS ls l ts
  have hsh2 := endsL_shortS ls l ts
  obtain ⟨c0, c1⟩ := P2.out.cells
  clear hgo hsg hown hlen hx hb1 b2 hw2 HD1
  rcases hT : timesG ls l ts with _ | _
  · have HI3 := Lib.hid (fun W (h : Below w2.heap.size w2 W) => implWay_any ls l ts _ _ W (HGW.out W h) (HRW.out W h))
    have HI4 := Lib.hid (fun W (h : Below w2.heap.size w2 W) => specWay_any ls l ts _ _ W (HGW.out W h) (HRW.out W h))
    have HI5 := Lib.hid (fun W (h : Below w2.heap.size w2 W) => implEnds_any ls l ts _ _ W (HGW.out W h) (HRW.out W h))
    have HI6 := Lib.hid (fun W (h : Below w2.heap.size w2 W) => specEnds_any ls l ts _ _ W (HGW.out W h) (HRW.out W h))
    rw [hT] at HI3 HI4 HI5 HI6 hsh1 hsh2
    rw [show ifL false (wayT ls l ts) = [] from rfl, show ifN false (endT (tailsL ls l ts)) = 0 from rfl] at HI3 HI4
    rw [show ifL false (endsL ls l ts) = [] from rfl] at HI5 HI6
    clear hsh1 hsh2
    clear hT
    go_upto_region 4 with fail
    rw [← HW2.out]
    go_wp2_with fail
    refine (HI3.out w2 K2.out).mono ?_
    rintro e w3 ⟨v3, rfl, ho3', hb3⟩
    have HO3 := Lib.hid (RowV.of_own ho3')
    have K3 := Lib.hid (bth K2.out hb3 (Nat.le_refl _))
    obtain ⟨a3, k3, hv3⟩ := own_slice ho3'
    subst hv3
    have X3 := Lib.hid hb3
    clear ho3' hb3 c0 c1
    obtain ⟨c0, c1⟩ := (P2.out.below K3.out hsz2).cells
    go_wp2_with fail
    refine (HI4.out w3 K3.out).mono ?_
    rintro e w4 ⟨v4, rfl, ho4', hb4⟩
    have HO4 := Lib.hid (RowV.of_own ho4')
    have K4 := Lib.hid (bth K3.out hb4 (Nat.le_refl _))
    obtain ⟨a4, k4, hv4⟩ := own_slice ho4'
    subst hv4
    have X4 := Lib.hid hb4
    clear ho4' hb4 c0 c1
    obtain ⟨c0, c1⟩ := (P2.out.below K4.out hsz2).cells
    go_wp2_with fail
    refine (HI5.out w4 K4.out).mono ?_
    rintro e w5 ⟨v5, rfl, ho5', hb5⟩
    have HO5 := Lib.hid (RowV.of_own ho5')
    have K5 := Lib.hid (bth K4.out hb5 (Nat.le_refl _))
    obtain ⟨a5, k5, hv5⟩ := own_slice ho5'
    subst hv5
    have X5 := Lib.hid hb5
    clear ho5' hb5 c0 c1
    obtain ⟨c0, c1⟩ := (P2.out.below K5.out hsz2).cells
    go_wp2_with fail
    refine (HI6.out w5 K5.out).mono ?_
    rintro e w6 ⟨v6, rfl, ho6', hb6⟩
    have HO6 := Lib.hid (RowV.of_own ho6')
    have K6 := Lib.hid (bth K5.out hb6 (Nat.le_refl _))
    obtain ⟨a6, k6, hv6⟩ := own_slice ho6'
    subst hv6
    have X6 := Lib.hid hb6
    clear ho6' hb6 c0 c1
    obtain ⟨c0, c1⟩ := (P2.out.below K6.out hsz2).cells
    have HS1 := Lib.hid (sameInts_any [] _ _ w6 (HO3.out.below (bth X4.out (bth X5.out X6.out (Nat.le_refl _)) (Nat.le_refl _))) (HO4.out.below (bth X5.out X6.out (Nat.le_refl _))) (by simp))
    have HS2 := Lib.hid (fun W (h : Below w6.heap.size w6 W) => sameInts_any [] _ _ W (HO5.out.below (bth X6.out h (Nat.le_refl _))) (HO6.out.below h) (by simp))
    clear c0 c1
    go_wp2_with fail
    refine HS1.out.mono ?_
    rintro e w7 ⟨rfl, hb7⟩
    have X7 := Lib.hid hb7
    have K7 := Lib.hid (bth K6.out hb7 (Nat.le_refl _))
    clear hb7
    go_wp2_with fail
    refine (HS2.out w7 X7.out).mono ?_
    rintro e w8 ⟨rfl, hb8⟩
    have X8 := Lib.hid (bth X7.out hb8 (Nat.le_refl _))
    have K8 := Lib.hid (bth K7.out hb8 (Nat.le_refl _))
    clear hb8
    have KZ := Lib.hid (bth KW2.out K8.out (Nat.le_refl _))
    go_wp2_with fail
    refine (HD2.out _ KZ.out).mono ?_
    rintro e z1 ⟨zv, ls2, l2, ztv, ts2, rfl, hgo2, hsg2, hown2, hlen2, hx2, hb21⟩
    have HGV2 := Lib.hid hgo2.view
    have HRV2 := Lib.hid (RowV.of_own hown2)
    obtain ⟨an2, cn2, ao2, co2, rfl⟩ := hgo2.slices
    obtain ⟨tm2, tc2, hz⟩ := own_slice hown2
    subst hz
    have KZ1 := Lib.hid (bth KZ.out hb21 (Nat.le_refl _))
    obtain ⟨z2, hz2⟩ : ∃ z2, z2 = z1.alloc (.cells #[.slice an2 ls2.length cn2, .slice ao2 l2.length co2] 26) := ⟨_, rfl⟩
    have PZ : Hid (Blk2 z2 z1.heap.size 26 (.slice an2 ls2.length cn2) (.slice ao2 l2.length co2)) := by rw [hz2]; exact Blk2.new
    have bz2 : Below z1.heap.size z1 z2 := by rw [hz2]; exact (Below.refl _ z1).alloc (Nat.le_refl _) _
    have hsz9 : z1.heap.size < z2.heap.size := by rw [hz2]; simp
    have KZ2 := Lib.hid (bth KZ1.out bz2 (Nat.le_refl _))
    have HC1 := Lib.hid (implTails_any ls2 l2 ts2 _ _ z2 (HGV2.out.below bz2) (HRV2.out.below bz2))
    have HC2 := Lib.hid (fun W (h : Below z2.heap.size z2 W) => specTails_any ls2 l2 ts2 _ _ W (HGV2.out.below (bth bz2 h (Nat.le_refl _))) (HRV2.out.below (bth bz2 h (Nat.le_refl _))))
    have hts2 := tailsL_shortS ls2 l2 ts2
    have HZW := Lib.hid hz2
    clear hgo2 hsg2 hown2 hlen2 hx2 hb21 bz2 hz2
    generalize timesG ls2 l2 ts2 = b2 at *
    generalize ifL b2 (tailsL ls2 l2 ts2) = R2 at *
    have hbb2 : (b2 == b2) = true := by simp
    obtain ⟨d0, d1⟩ := PZ.out.cells
    go_upto_region 34 with fail
    rw [← HZW.out]
    go_wp2_with fail
    refine HC1.out.mono ?_
    rintro e z3 ⟨q3, rfl, hq3, hbz3⟩
    have HQ3 := Lib.hid (RowV.of_own hq3)
    have KZ3 := Lib.hid (bth KZ2.out hbz3 (Nat.le_refl _))
    obtain ⟨d0', d1'⟩ := (PZ.out.below hbz3 hsz9).cells
    have HC3 := Lib.hid (HC2.out z3 hbz3)
    obtain ⟨qa3, qc3, hz⟩ := own_slice hq3
    subst hz
    clear hq3 hbz3 HC1 HC2
    go_wp2_with fail
    refine HC3.out.mono ?_
    rintro e z4 ⟨q4, rfl, hq4, hbz4⟩
    have HQ4 := Lib.hid (RowV.of_own hq4)
    have HS4 := Lib.hid (sameInts_any R2 _ _ z4 (HQ3.out.below hbz4) (RowV.of_own hq4) hts2)
    have KZ4 := Lib.hid (bth KZ3.out hbz4 (Nat.le_refl _))
    obtain ⟨qa4, qc4, hz⟩ := own_slice hq4
    subst hz
    clear hq4 hbz4 HC3 d0 d1 d0' d1'
    generalize R2.length = m2 at *
    go_wp2_with fail
    refine HS4.out.mono ?_
    rintro e z5 ⟨rfl, hbz5⟩
    have KZ5 := Lib.hid (bth KZ4.out hbz5 (Nat.le_refl _))
    clear hbz5
    go_wp2_with fail
    go_ret
    exact ⟨rfl, KZ5.out⟩
  · have HI3 := Lib.hid (fun W (h : Below w2.heap.size w2 W) => implWay_any ls l ts _ _ W (HGW.out W h) (HRW.out W h))
    have HI4 := Lib.hid (fun W (h : Below w2.heap.size w2 W) => specWay_any ls l ts _ _ W (HGW.out W h) (HRW.out W h))
    have HI5 := Lib.hid (fun W (h : Below w2.heap.size w2 W) => implEnds_any ls l ts _ _ W (HGW.out W h) (HRW.out W h))
    have HI6 := Lib.hid (fun W (h : Below w2.heap.size w2 W) => specEnds_any ls l ts _ _ W (HGW.out W h) (HRW.out W h))
    rw [hT] at HI3 HI4 HI5 HI6 hsh1 hsh2
    obtain ⟨hG, hTT⟩ := timesG_yes hT
    have HG := Lib.hid hG
    have HTM := Lib.hid hTT
    have hea := end_at hG.toP hTT
    have HTL := Lib.hid hTT.len
    obtain ⟨W1, hW1, hwa, hws⟩ : ∃ W1, wayT ls l ts = W1 ∧ (∀ (i : Nat) (hi : i < W1.length), (0 ≤ W1[i] ∧ W1[i] < (ls.length : Int)) ∧ atI (endsL ls l ts) W1[i] = sumT ts (W1.take (i + 1)) ∧ (∀ h0 : 0 < i, W1[i - 1] ∈ needsAt ls W1[i])) ∧ sumT ts W1 = endT (tailsL ls l ts) := ⟨_, rfl, fun i hi => way_at hG.toP hTT i hi, way_sum hG.toP hTT⟩
    obtain ⟨E1, hE1⟩ : ∃ E1, endT (tailsL ls l ts) = E1 := ⟨_, rfl⟩
    have HEB : Hid (∀ k : Int, 0 ≤ k ∧ k < (ls.length : Int) → atI (endsL ls l ts) k ≤ E1) := fun k hk => by rw [← hE1]; exact ends_before hG.toP hTT hk
    rw [show ifL true (wayT ls l ts) = W1 from hW1, show ifN true (endT (tailsL ls l ts)) = E1 from hE1] at HI3 HI4
    rw [show ifL true (wayT ls l ts) = W1 from hW1] at hsh1
    rw [hE1] at hea hws
    have HWA := Lib.hid hwa
    have HWS := Lib.hid hws
    clear hG hTT hW1 hE1 hwa hws
    rw [show ifL true (endsL ls l ts) = endsL ls l ts from rfl] at HI5 HI6 hsh2
    clear hT
    go_upto_region 4 with fail
    rw [← HW2.out]
    go_wp2_with fail
    refine (HI3.out w2 K2.out).mono ?_
    rintro e w3 ⟨v3, rfl, ho3', hb3⟩
    have HO3 := Lib.hid (RowV.of_own ho3')
    have K3 := Lib.hid (bth K2.out hb3 (Nat.le_refl _))
    obtain ⟨a3, k3, hv3⟩ := own_slice ho3'
    subst hv3
    have X3 := Lib.hid hb3
    clear ho3' hb3 c0 c1
    obtain ⟨c0, c1⟩ := (P2.out.below K3.out hsz2).cells
    go_wp2_with fail
    refine (HI4.out w3 K3.out).mono ?_
    rintro e w4 ⟨v4, rfl, ho4', hb4⟩
    have HO4 := Lib.hid (RowV.of_own ho4')
    have K4 := Lib.hid (bth K3.out hb4 (Nat.le_refl _))
    obtain ⟨a4, k4, hv4⟩ := own_slice ho4'
    subst hv4
    have X4 := Lib.hid hb4
    clear ho4' hb4 c0 c1
    obtain ⟨c0, c1⟩ := (P2.out.below K4.out hsz2).cells
    go_wp2_with fail
    refine (HI5.out w4 K4.out).mono ?_
    rintro e w5 ⟨v5, rfl, ho5', hb5⟩
    have HO5 := Lib.hid (RowV.of_own ho5')
    have K5 := Lib.hid (bth K4.out hb5 (Nat.le_refl _))
    obtain ⟨a5, k5, hv5⟩ := own_slice ho5'
    subst hv5
    have X5 := Lib.hid hb5
    clear ho5' hb5 c0 c1
    obtain ⟨c0, c1⟩ := (P2.out.below K5.out hsz2).cells
    go_wp2_with fail
    refine (HI6.out w5 K5.out).mono ?_
    rintro e w6 ⟨v6, rfl, ho6', hb6⟩
    have HO6 := Lib.hid (RowV.of_own ho6')
    have K6 := Lib.hid (bth K5.out hb6 (Nat.le_refl _))
    obtain ⟨a6, k6, hv6⟩ := own_slice ho6'
    subst hv6
    have X6 := Lib.hid hb6
    clear ho6' hb6 c0 c1
    obtain ⟨c0, c1⟩ := (P2.out.below K6.out hsz2).cells
    have HS1 := Lib.hid (sameInts_any W1 _ _ w6 (HO3.out.below (bth X4.out (bth X5.out X6.out (Nat.le_refl _)) (Nat.le_refl _))) (HO4.out.below (bth X5.out X6.out (Nat.le_refl _))) hsh1)
    have HS2 := Lib.hid (fun W (h : Below w6.heap.size w6 W) => sameInts_any (endsL ls l ts) _ _ W (HO5.out.below (bth X6.out h (Nat.le_refl _))) (HO6.out.below h) hsh2)
    clear c0 c1
    go_wp2_with fail
    refine HS1.out.mono ?_
    rintro e w7 ⟨rfl, hb7⟩
    have X7 := Lib.hid hb7
    have K7 := Lib.hid (bth K6.out hb7 (Nat.le_refl _))
    clear hb7
    go_wp2_with fail
    refine (HS2.out w7 X7.out).mono ?_
    rintro e w8 ⟨rfl, hb8⟩
    have X8 := Lib.hid (bth X6.out (bth X7.out hb8 (Nat.le_refl _)) (Nat.le_refl _))
    have K8 := Lib.hid (bth K7.out hb8 (Nat.le_refl _))
    clear hb8
    have H3 := Lib.hid (HO3.out.below (bth X4.out (bth X5.out X8.out (Nat.le_refl _)) (Nat.le_refl _)))
    have H5 := Lib.hid (HO5.out.below X8.out)
    have hgr := graph_rows (HGW.out w8 K8.out)
    obtain ⟨an', cn', han, hn1, hn2, hat⟩ := hgr.1.lists
    obtain ⟨tm', tc', htm, ht1, ht2, htt⟩ := (HRW.out w8 K8.out).ints
    obtain ⟨x3, y3, hx3, hy31, hy32, hw3⟩ := H3.out.ints
    obtain ⟨x5, y5, hx5, hy51, hy52, hw5⟩ := H5.out.ints
    injection han with e1 _ e2
    subst e1 e2
    injection htm with e1 _ e2
    subst e1 e2
    injection hx3 with e1 _ e2
    subst e1 e2
    injection hx5 with e1 _ e2
    subst e1 e2
    unfold maxLen at hn2 ht2 hy32 hy52
    have HAT := Lib.hid hat
    have HTT := Lib.hid htt
    have H3T := Lib.hid hw3
    have H5T := Lib.hid hw5
    have hway : W1.length ≤ 1000000 := hsh1
    have P8 := Lib.hid (P2.out.below K8.out hsz2)
    have hsz8 := Nat.lt_of_lt_of_le hsz2 K8.out.size
    have HEL := Lib.hid (endsL_len ls l ts)
    have h10 := HG.out.high
    clear hat htt hw3 hw5 hgr hsh1 hsh2
    -- the way, task by task
    go_wp2_with fail
    go_loopw [17, 95] (fun s i wr => ∃ k : Nat, k ≤ W1.length ∧ i = .int .i64 (k : Int) ∧ Hid (s = .int .i64 (sumT ts (W1.take k))) ∧ Hid (Below w8.heap.size w8 wr)) (fun _ i _ => W1.length - (intOf i).toNat)
    case atStart => exact ⟨0, Nat.zero_le _, rfl, rfl, Below.refl _ _⟩
    case round =>
      obtain ⟨k, hk, rfl, HQ, HB⟩ := hrel
      have hq := HQ.out
      clear HQ
      subst hq
      by_cases hlt : k < W1.length
      · have hltz : (k : Int) < (W1.length : Int) := by omega
        obtain ⟨hkr, hke, hkn⟩ := HWA.out k hlt
        obtain ⟨kn, hkk⟩ : ∃ kn : Nat, W1[k] = kn := ⟨W1[k].toNat, by omega⟩
        rw [hkk] at hkr hke
        have hknl : kn < ls.length := by omega
        have hknz : (kn : Int) < (ls.length : Int) := by omega
        have hknt : kn < ts.length := by rw [HTL.out]; exact hknl
        have hkntz : (kn : Int) < (ts.length : Int) := by omega
        have hkne : kn < (endsL ls l ts).length := by rw [HEL.out]; exact hknl
        have hknez : (kn : Int) < ((endsL ls l ts).length : Int) := by omega
        obtain ⟨g3, o3, hg3, hl3, hc3⟩ := H3T.out k hlt
        subst hg3
        obtain ⟨gt, ot, hgt', hlt', hct⟩ := HTT.out kn hknt
        subst hgt'
        obtain ⟨g5, o5, hg5, hl5, hc5⟩ := H5T.out kn hkne
        subst hg5
        have q3 : wr.cell? ⟨g3, o3 + k, none⟩ = some (.int .i64 (kn : Int)) := by rw [HB.out.cell (p := ⟨g3, o3 + k, none⟩) hl3, hc3, hkk]
        have qt : wr.cell? ⟨gt, ot + kn, none⟩ = some (.int .i64 (atI ts (kn : Int))) := by rw [HB.out.cell (p := ⟨gt, ot + kn, none⟩) hlt', hct, atI_get hknt]
        have hsn : sumT ts (W1.take (k + 1)) = sumT ts (W1.take k) + atI ts (kn : Int) := by rw [List.take_succ_eq_append_getElem hlt, sumT_snoc, hkk]
        have q5 : wr.cell? ⟨g5, o5 + kn, none⟩ = some (.int .i64 (sumT ts (W1.take (k + 1)))) := by rw [HB.out.cell (p := ⟨g5, o5 + kn, none⟩) hl5, hc5, ← hke, atI_get hkne]
        have hE := ends_at HG.out.toP HTM.out hkr
        have htb := HTM.out.at hkr
        have hadd2 : IntKind.i64.wrap (sumT ts (W1.take k) + atI ts (kn : Int)) = sumT ts (W1.take (k + 1)) := by rw [hsn, IntKind.wrap_i64]; rw [hke, hsn] at hE; omega
        obtain ⟨d0, d1⟩ := (P8.out.below HB.out hsz8).cells
        have hne : (sumT ts (W1.take (k + 1)) != sumT ts (W1.take (k + 1))) = false := by simp
        obtain ⟨s1, hs1⟩ : ∃ s1, sumT ts (W1.take (k + 1)) = s1 := ⟨_, rfl⟩
        rw [hs1] at hsn q5 hadd2 hne hke
        have HS1 : Hid (Value.int .i64 s1 = .int .i64 (sumT ts (W1.take (k + 1)))) := by rw [hs1]; rfl
        clear hs1
        by_cases h0 : 0 < k
        · have hk0 : decide ((k : Int) > 0) = true := decide_eq_true (by omega)
          have hk1 : IntKind.i64.wrap ((k : Int) - 1) = ((k - 1 : Nat) : Int) := by rw [IntKind.wrap_i64]; omega
          have hlt1 : k - 1 < W1.length := by omega
          have hlt1z : ((k - 1 : Nat) : Int) < (W1.length : Int) := by omega
          obtain ⟨g3', o3', hA3, hl3', hc3'⟩ := H3T.out (k - 1) hlt1
          obtain ⟨rfl, rfl⟩ := addr_inj hA3
          have q3' : wr.cell? ⟨g3, o3 + (k - 1), none⟩ = some (.int .i64 W1[k - 1]) := (HB.out.cell (p := ⟨g3, o3 + (k - 1), none⟩) hl3').trans hc3'
          obtain ⟨gn, on, a2, k2, hgn, hgl, hcn0, hrow⟩ := HAT.out kn hknl
          subst hgn
          have qn : wr.cell? ⟨gn, on + kn, none⟩ = some (.slice a2 ls[kn].length k2) := (HB.out.cell (p := ⟨gn, on + kn, none⟩) hgl).trans hcn0
          have hmem : hasL ls[kn] W1[k - 1] = true := by
            have := hkn h0
            rw [hkk, needsAt_get hknl] at this
            rw [hasL, decide_eq_true_iff]; exact this
          have HH := Lib.hid (fun W (hW : Below wr.heap.size wr W) => has_any ls[kn] W1[k - 1] _ W (hrow.below (bth HB.out hW (Nat.le_refl _))))
          rw [hmem] at HH
          have HHD := Lib.hid (HH.out wr.drew (Below.drew (Below.refl _ _)))
          have HHR := Lib.hid (HH.out wr (Below.refl _ _))
          clear HH
          clear hkn hsn hE hke hc3 hct hc5 hA3 hc3' hcn0 hrow hmem
          generalize sumT ts (W1.take k) = s0 at *
          generalize atI ts (kn : Int) = tt at *
          generalize W1[k - 1] = xp at *
          generalize ls[kn].length = n9 at *
          go_wp2_with fail
          have ks : wr.drew.cell? ⟨w1.heap.size, 0, none⟩ = some (.slice (some ⟨gn, on, none⟩) ls.length cn) ∧ wr.drew.cell? ⟨gn, on + kn, none⟩ = some (.slice a2 n9 k2) ∧ wr.drew.cell? ⟨g3, o3 + (k - 1), none⟩ = some (.int .i64 xp) ∧ wr.drew.cell? ⟨g5, o5 + kn, none⟩ = some (.int .i64 s1) := ⟨d0, qn, q3', q5⟩
          go_region_held3 (fun w' => w'.cell? ⟨w1.heap.size, 0, none⟩ = some (.slice (some ⟨gn, on, none⟩) ls.length cn) ∧ w'.cell? ⟨gn, on + kn, none⟩ = some (.slice a2 n9 k2) ∧ w'.cell? ⟨g3, o3 + (k - 1), none⟩ = some (.int .i64 xp) ∧ w'.cell? ⟨g5, o5 + kn, none⟩ = some (.int .i64 s1)) (first | exact ks)
            (first
              | (go_at_call 17; refine HHD.out.mono ?_; rintro e w9 ⟨rfl, rfl⟩))
          all_goals
            go_wp2_with fail
            go_roundw
            case rel => exact ⟨k + 1, by omega, by go_num, HS1, Lib.hid (Below.drew HB.out)⟩
            case measure => simp [intOf]; omega
        · have hk0 : decide ((k : Int) > 0) = false := decide_eq_false (by omega)
          clear hkn hsn hE hke hc3 hct hc5
          generalize sumT ts (W1.take k) = s0 at *
          generalize atI ts (kn : Int) = tt at *
          go_wp2_with fail
          go_region
          all_goals
            go_wp2_with fail
            go_roundw
            case rel => exact ⟨k + 1, by omega, by go_num, HS1, Lib.hid (Below.drew HB.out)⟩
            case measure => simp [intOf]; omega
      · obtain rfl : k = W1.length := by omega
        rw [List.take_length, HWS.out]
        have hne : (E1 != E1) = false := by simp
        obtain ⟨d0, d1⟩ := (P8.out.below HB.out hsz8).cells
        have HBQ := HB
        go_wp2_with fail
        go_loopw [141] (fun i wz => ∃ k : Nat, k ≤ ls.length ∧ i = .int .i64 (k : Int) ∧ Hid (Below w8.heap.size w8 wz)) (fun i _ => ls.length - (intOf i).toNat)
        case atStart => exact ⟨0, Nat.zero_le _, rfl, HBQ⟩
        case round =>
          clear HB HBQ d0 d1
          obtain ⟨k, hk2, rfl, HB⟩ := hrel
          by_cases hlt2 : k < ls.length
          · have hltz : (k : Int) < (ls.length : Int) := by omega
            have hkr : 0 ≤ (k : Int) ∧ (k : Int) < (ls.length : Int) := by omega
            obtain ⟨gn, on, a2, k2, hgn, hgl, hcn0, hrow⟩ := HAT.out k hlt2
            subst hgn
            have qn : wr.cell? ⟨gn, on + k, none⟩ = some (.slice a2 ls[k].length k2) := (HB.out.cell (p := ⟨gn, on + k, none⟩) hgl).trans hcn0
            have hkt : k < ts.length := by rw [HTL.out]; exact hlt2
            have hktz : (k : Int) < (ts.length : Int) := by omega
            have hke : k < (endsL ls l ts).length := by rw [HEL.out]; exact hlt2
            have hkez : (k : Int) < ((endsL ls l ts).length : Int) := by omega
            obtain ⟨gt, ot, hgt', hlt', hct⟩ := HTT.out k hkt
            subst hgt'
            have QT : Hid (∀ W, Below w8.heap.size w8 W → W.cell? ⟨gt, ot + k, none⟩ = some (.int .i64 (atI ts (k : Int)))) := fun W h => by rw [h.cell (p := ⟨gt, ot + k, none⟩) hlt', hct, atI_get hkt]
            obtain ⟨g5, o5, hg5, hl5, hc5⟩ := H5T.out k hke
            subst hg5
            have Q5 : Hid (∀ (j : Nat), j < ls.length → ∀ W, Below w8.heap.size w8 W → W.cell? ⟨g5, o5 + j, none⟩ = some (.int .i64 (atI (endsL ls l ts) (j : Int)))) := fun j hj W h => by
              have hje : j < (endsL ls l ts).length := by rw [HEL.out]; exact hj
              obtain ⟨g5', o5', hA, hl5', hc5'⟩ := H5T.out j hje
              obtain ⟨rfl, rfl⟩ := addr_inj hA
              rw [h.cell (p := ⟨g5, o5 + j, none⟩) hl5', hc5', atI_get hje]
            have HNL := Lib.hid (fun x (hx : x ∈ ls[k]) => ends_after HG.out.toP HTM.out hkr (x := x) (by rw [needsAt_get hlt2]; exact hx))
            have HNR := Lib.hid (good_inE HG.out k hlt2)
            have htb := HTM.out.at hkr
            have hee := HEB.out (k : Int) hkr
            obtain ⟨a2', k2', hv2, hr1, hr2, hrt⟩ := hrow.ints
            injection hv2 with ev _ ew
            subst ev ew
            unfold maxLen at hr2
            have HRT := Lib.hid hrt
            clear hcn0 hrow hct hc5 hrt
            go_wp2_with fail
            go_loopw [148] (fun i wz => ∃ m : Nat, m ≤ ls[k].length ∧ i = .int .i64 (m : Int) ∧ Hid (Below w8.heap.size w8 wz)) (fun i _ => ls[k].length - (intOf i).toNat)
            case atStart => exact ⟨0, Nat.zero_le _, rfl, HB⟩
            case round =>
              clear HB qn
              obtain ⟨m, hm, rfl, HB⟩ := hrel
              by_cases hlt3 : m < ls[k].length
              · have hmz : (m : Int) < (ls[k].length : Int) := by omega
                obtain ⟨gr, gro, hgr, hlr, hcr⟩ := HRT.out m hlt3
                subst hgr
                have hxr := HNR.out ls[k][m] (List.getElem_mem hlt3)
                have hxe := HNL.out ls[k][m] (List.getElem_mem hlt3)
                obtain ⟨xn, hxn⟩ : ∃ xn : Nat, ls[k][m] = xn := ⟨ls[k][m].toNat, by omega⟩
                rw [hxn] at hxr hxe
                have hxl : xn < ls.length := by omega
                have hxz : (xn : Int) < ((endsL ls l ts).length : Int) := by rw [HEL.out]; omega
                have qx : wr.cell? ⟨gr, gro + m, none⟩ = some (.int .i64 (xn : Int)) := by rw [HB.out.cell (p := ⟨gr, gro + m, none⟩) hlr, hcr, hxn]
                have q1 := Q5.out k hlt2 wr HB.out
                have q2 := Q5.out xn hxl wr HB.out
                have q4 := QT.out wr HB.out
                have hE1 := ends_at HG.out.toP HTM.out hkr
                have hE2 := ends_at HG.out.toP HTM.out hxr
                clear hcr hxn
                generalize atI (endsL ls l ts) (k : Int) = ek at *
                generalize atI (endsL ls l ts) (xn : Int) = ex at *
                generalize atI ts (k : Int) = tt at *
                have hadd3 : IntKind.i64.wrap (ex + tt) = ex + tt := by rw [IntKind.wrap_i64]; omega
                have hlt4 : decide (ek < ex + tt) = false := decide_eq_false (by omega)
                go_wp2_with fail
                go_region
                all_goals
                  go_wp2_with fail
                  go_roundw
                  case rel => exact ⟨m + 1, by omega, by go_num, Lib.hid (Below.drew HB.out)⟩
                  case measure => simp [intOf]; omega
              · have q1 := Q5.out k hlt2 wr HB.out
                have hgt9 : decide (atI (endsL ls l ts) (k : Int) > E1) = false := decide_eq_false (by omega)
                generalize atI (endsL ls l ts) (k : Int) = ek at *
                go_wp2_with fail
                go_roundw
                case rel => exact ⟨k + 1, by omega, by go_num, HB⟩
                case measure => simp [intOf]; omega
          · have KZ := Lib.hid (bth KW2.out (bth K8.out HB.out (Nat.le_refl _)) (Nat.le_refl _))
            go_wp2_with fail
            refine (HD2.out _ KZ.out).mono ?_
            rintro e z1 ⟨zv, ls2, l2, ztv, ts2, rfl, hgo2, hsg2, hown2, hlen2, hx2, hb21⟩
            have HGV2 := Lib.hid hgo2.view
            have HRV2 := Lib.hid (RowV.of_own hown2)
            obtain ⟨an2, cn2, ao2, co2, rfl⟩ := hgo2.slices
            obtain ⟨tm2, tc2, hz⟩ := own_slice hown2
            subst hz
            have KZ1 := Lib.hid (bth KZ.out hb21 (Nat.le_refl _))
            obtain ⟨z2, hz2⟩ : ∃ z2, z2 = z1.alloc (.cells #[.slice an2 ls2.length cn2, .slice ao2 l2.length co2] 26) := ⟨_, rfl⟩
            have PZ : Hid (Blk2 z2 z1.heap.size 26 (.slice an2 ls2.length cn2) (.slice ao2 l2.length co2)) := by rw [hz2]; exact Blk2.new
            have bz2 : Below z1.heap.size z1 z2 := by rw [hz2]; exact (Below.refl _ z1).alloc (Nat.le_refl _) _
            have hsz9 : z1.heap.size < z2.heap.size := by rw [hz2]; simp
            have KZ2 := Lib.hid (bth KZ1.out bz2 (Nat.le_refl _))
            have HC1 := Lib.hid (implTails_any ls2 l2 ts2 _ _ z2 (HGV2.out.below bz2) (HRV2.out.below bz2))
            have HC2 := Lib.hid (fun W (h : Below z2.heap.size z2 W) => specTails_any ls2 l2 ts2 _ _ W (HGV2.out.below (bth bz2 h (Nat.le_refl _))) (HRV2.out.below (bth bz2 h (Nat.le_refl _))))
            have hts2 := tailsL_shortS ls2 l2 ts2
            have HZW := Lib.hid hz2
            clear hgo2 hsg2 hown2 hlen2 hx2 hb21 bz2 hz2
            generalize timesG ls2 l2 ts2 = b2 at *
            generalize ifL b2 (tailsL ls2 l2 ts2) = R2 at *
            have hbb2 : (b2 == b2) = true := by simp
            obtain ⟨d0, d1⟩ := PZ.out.cells
            go_upto_region 34 with fail
            rw [← HZW.out]
            go_wp2_with fail
            refine HC1.out.mono ?_
            rintro e z3 ⟨q3, rfl, hq3, hbz3⟩
            have HQ3 := Lib.hid (RowV.of_own hq3)
            have KZ3 := Lib.hid (bth KZ2.out hbz3 (Nat.le_refl _))
            obtain ⟨d0', d1'⟩ := (PZ.out.below hbz3 hsz9).cells
            have HC3 := Lib.hid (HC2.out z3 hbz3)
            obtain ⟨qa3, qc3, hz⟩ := own_slice hq3
            subst hz
            clear hq3 hbz3 HC1 HC2
            go_wp2_with fail
            refine HC3.out.mono ?_
            rintro e z4 ⟨q4, rfl, hq4, hbz4⟩
            have HQ4 := Lib.hid (RowV.of_own hq4)
            have HS4 := Lib.hid (sameInts_any R2 _ _ z4 (HQ3.out.below hbz4) (RowV.of_own hq4) hts2)
            have KZ4 := Lib.hid (bth KZ3.out hbz4 (Nat.le_refl _))
            obtain ⟨qa4, qc4, hz⟩ := own_slice hq4
            subst hz
            clear hq4 hbz4 HC3 d0 d1 d0' d1'
            generalize R2.length = m2 at *
            go_wp2_with fail
            refine HS4.out.mono ?_
            rintro e z5 ⟨rfl, hbz5⟩
            have KZ5 := Lib.hid (bth KZ4.out hbz5 (Nat.le_refl _))
            clear hbz5
            go_wp2_with fail
            go_ret
            exact ⟨rfl, KZ5.out⟩

end Go.Proofs.Ytgolhfmmlanmlaa
