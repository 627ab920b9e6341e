/- Walks: the law that good files are told alike. -/
import Derived.Test.YtoahfhidekmodaaDoorIc
import Derived.Test.YtoahfhidekmodaaDoorQi
namespace Go.Proofs.YtoahfhidekmodaaDoor
open Go.RowKit Pth

/-- The law says yes, and nothing that lay there has turned. -/
def YesP (w : World) (e : Ending) (w' : World) : Prop := e = .returned (.bool true) ∧ Below w.heap.size w w'
theorem bth {w w1 w2 : World} (h : Below w.heap.size w w1) (k : Below w1.heap.size w1 w2) : Below w.heap.size w w2 := h.trans (k.mono h.size)

set_option maxRecDepth 20000 in
set_option maxHeartbeats 2000000 in
theorem exactGoodFiles_any (l : List FileT) (v : Value) (w : World) (hrow : RowF w v l) (hx : ∀ f ∈ l, f.1.length ≤ maxLen ∧ f.2.length ≤ maxLen) (hm : MaxAt w) :
    Calls Tryd.prog 3 #[v] w (YesP w) := by
  have HS := Lib.hid (szFileS_any l 1048576 v w hrow hx (by omega))
  have HR := Lib.hid hrow
  have HX := Lib.hid hx
  have HM := Lib.hid hm
  clear hrow hx hm
  go_enter Tryd.func3, Tryd.ntmps3
  go_wp2_with fail
  refine HS.out.mono ?_
  rintro e w1 ⟨r, rfl, hr, hb1⟩
  by_cases h0 : r < 0
  · have HB1 := Lib.hid hb1
    clear hr hb1
    go_wp2_with fail
    go_ret
    exact ⟨rfl, HB1.out⟩
  · have hl : l.length ≤ 2000000 := by have := (hr (by omega)).1; omega
    have HB1 := Lib.hid hb1
    clear hr hb1 HS
    go_wp2_with fail
    refine (toFileS_any l v w1 (HR.out.below HB1.out) hl).mono ?_
    rintro e w2 ⟨v2, rfl, hown2, hb2⟩
    have HC := Lib.hid (specGoodFiles_any l v2 w2 (RowF.of_own hown2) HX.out)
    have HB2 := Lib.hid (bth HB1.out hb2)
    clear hown2 hb2 HB1
    generalize hG : goodF l = G at HC
    have HG := Lib.hid hG
    clear hG
    go_wp2_with fail
    refine HC.out.mono ?_
    rintro e w3 ⟨rfl, hb3⟩
    have HB3 := Lib.hid (bth HB2.out hb3)
    clear hb3 HB2 HC
    go_wp2_with fail
    refine (toFileS_any l v w3 (HR.out.below HB3.out) hl).mono ?_
    rintro e w4 ⟨v4, rfl, hown4, hb4⟩
    have HC := Lib.hid (implGoodFiles_any l v4 w4 (RowF.of_own hown4) HX.out (HM.out.below (bth HB3.out hb4)))
    have HB4 := Lib.hid (bth HB3.out hb4)
    have HO4 := Lib.hid (RowF.of_own hown4)
    rw [HG.out] at HC
    clear hown4 hb4 HB3
    go_wp2_with fail
    refine HC.out.mono ?_
    rintro e w5 ⟨rfl, hb5⟩
    have HB5 := Lib.hid (bth HB4.out hb5)
    have HO5 := Lib.hid (HO4.out.below hb5)
    clear hb5 HB4 HO4 HC
    have hne : (G != G) = false := by cases G <;> rfl
    go_wp2_with fail
    refine (toFileS_any l v w5 (HR.out.below HB5.out) hl).mono ?_
    rintro e w6 ⟨v6, rfl, hown6, hb6⟩
    have HC := Lib.hid (eqFileS_any l l v4 v6 w6 (HO5.out.below hb6) (RowF.of_own hown6) hl)
    have HB6 := Lib.hid (bth HB5.out hb6)
    rw [decide_eq_true (rfl : l = l)] at HC
    clear hown6 hb6 HB5 HO5
    go_wp2_with fail
    refine HC.out.mono ?_
    rintro e w7 ⟨rfl, hb7⟩
    have HB7 := Lib.hid (bth HB6.out hb7)
    clear hb7 HB6 HC
    go_wp2_with fail
    go_ret
    exact ⟨rfl, HB7.out⟩

end Go.Proofs.YtoahfhidekmodaaDoor
