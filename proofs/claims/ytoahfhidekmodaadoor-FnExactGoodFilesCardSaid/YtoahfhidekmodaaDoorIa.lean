/- Walks: the program's names of files, and whether files are good. -/
import Derived.Test.YtoahfhidekmodaaDoorXM
import Derived.Test.YtoahfhidekmodaaDoorGb
namespace Go.Proofs.YtoahfhidekmodaaDoor
open Go.RowKit Pth

/-- The library's variable has some value. -/
def MaxAt (w : World) : Prop := ∃ m, w.cell? ⟨0, 0, none⟩ = some (.int .i64 m)
theorem MaxAt.below {w w' : World} (h : MaxAt w) (hb : Below w.heap.size w w') : MaxAt w' := by
  obtain ⟨m, hm⟩ := h
  exact ⟨m, D1.keep_max hm hb⟩
theorem nameOk_no {n : List UInt8} (h : D1.isT n = false) : nameOk n = false := by
  unfold nameOk
  unfold D1.isT at h
  rcases hp : pathL n with _ | _
  · rfl
  · rw [hp, Bool.true_and] at h
    rw [h]; simp
theorem nameOk_yes {n : List UInt8} (h : D1.isT n = true) : nameOk n = decide (n.length ≤ 20) := by
  unfold nameOk
  unfold D1.isT at h
  rw [Bool.and_eq_true] at h
  rw [h.1, h.2]; simp

set_option maxHeartbeats 1000000 in
theorem isFileName_any (n : List UInt8) (w : World) (hn : n.length ≤ maxLen) (hm : MaxAt w) :
    Calls Tryd.prog 38 #[.string ⟨n.toArray⟩] w (BoolPost (nameOk n) w) := by
  obtain ⟨m, hm⟩ := hm
  have D := D1.implIs_l n m w hn hm
  unfold maxLen at hn
  rcases h1 : D1.isT n with _ | _
  · have HT := Lib.hid (nameOk_no h1)
    rw [h1] at D
    have HD := Lib.hid D
    clear h1 D
    generalize pathL n = p at HD
    go_enter Tryd.func38, Tryd.ntmps38
    go_wp2_with fail
    refine HD.out.mono ?_
    rintro e w1 ⟨rfl, hb⟩
    go_wp2_with fail
    go_ret
    exact ⟨ret_bool HT.out.symm, hb⟩
  · have HT := Lib.hid (nameOk_yes h1)
    rw [h1] at D
    have HD := Lib.hid D
    clear h1 D
    generalize pathL n = p at HD
    go_enter Tryd.func38, Tryd.ntmps38
    go_wp2_with fail
    refine HD.out.mono ?_
    rintro e w1 ⟨rfl, hb⟩
    go_wp2_with fail
    go_ret
    exact ⟨ret_bool (by rw [HT.out]; go_num), hb⟩

end Go.Proofs.YtoahfhidekmodaaDoor
