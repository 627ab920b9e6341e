/- Walks: whether a path is clean; the place a path lies in, and its last part; both programs'. -/
import Derived.Test.YtoahfhidekmodaaDoorXK
namespace Go.Proofs.YtoahfhidekmodaaDoor.D1
open Go.RowKit Pth

/-- What IsClean answers. -/
def isT (l : List UInt8) : Bool := pathL l && (cleanL l == l)
theorem isT_no {l : List UInt8} (h : pathL l = false) : isT l = false := by simp [isT, h]
theorem isT_yes {l : List UInt8} (h : pathL l = true) : isT l = (cleanL l == l) := by simp [isT, h]
theorem cleanT_no {l : List UInt8} (h : pathL l = false) : cleanT l = [] := by simp [cleanT, h]
theorem cleanT_yes {l : List UInt8} (h : pathL l = true) : cleanT l = cleanL l := by simp [cleanT, h]

/-- The contracts over a text as a list of bytes. -/
theorem l1Path_l {b : Bool} (l : List UInt8) (w : World) (hs : l.length ≤ maxLen) (hb : Hid (pathL l = b)) :
    Calls Tryd.prog 36 #[.string ⟨l.toArray⟩] w fun e w' => e = .returned (.bool b) ∧ w = w' := l1Path_eq ⟨l.toArray⟩ w hs hb
theorem l1Clean_l (l : List UInt8) (w : World) (hs : l.length ≤ 1000) :
    Calls Tryd.prog 37 #[.string ⟨l.toArray⟩] w (TextPost w.heap.size (cleanL l) w) := l1Clean_any ⟨l.toArray⟩ w hs
theorem l1Parts_l (l : List UInt8) (w : World) (hs : l.length ≤ 1000) :
    Calls Tryd.prog 45 #[.string ⟨l.toArray⟩] w (RowPost w.heap.size (partsL l) w) := l1Parts_any ⟨l.toArray⟩ w hs
theorem l1Rooted_l (l : List UInt8) (w : World) (hs : l.length ≤ maxLen) :
    Calls Tryd.prog 46 #[.string ⟨l.toArray⟩] w fun e w' => e = .returned (.bool (rootedL l)) ∧ w = w' := l1Rooted_any ⟨l.toArray⟩ w hs
theorem isPath_l {b : Bool} (l : List UInt8) (w : World) (hs : l.length ≤ maxLen) (hb : Hid (pathL l = b)) :
    Calls Tryd.prog 65 #[.string ⟨l.toArray⟩] w (BoolPost b w) := isPath_eq ⟨l.toArray⟩ w hs hb
theorem routeOf_l (l : List UInt8) (m : Int) (w : World) (hs : l.length ≤ 1000) (hm : w.cell? ⟨0, 0, none⟩ = some (.int .i64 m)) :
    Calls Tryd.prog 67 #[.string ⟨l.toArray⟩] w (NewRoute (rootedL l) (partsL l) w) := routeOf_any ⟨l.toArray⟩ m w hs hm
theorem weigh_l (l : List UInt8) : weigh (partsL l) ≤ l.length + 1 := weigh_parts ⟨l.toArray⟩
theorem path_len {l : List UInt8} (h : pathL l = true) : l.length ≤ 60 := path_size (s := ⟨l.toArray⟩) h

theorem implClean_l (l : List UInt8) (m : Int) (w : World) (hs : l.length ≤ maxLen) (hm : w.cell? ⟨0, 0, none⟩ = some (.int .i64 m)) :
    Calls Tryd.prog 53 #[.string ⟨l.toArray⟩] w (TwoPost (cleanT l) (pathL l) w) := implClean_any ⟨l.toArray⟩ m w hs hm

set_option maxHeartbeats 1000000 in
theorem implIs_l (l : List UInt8) (m : Int) (w : World) (hs : l.length ≤ maxLen) (hm : w.cell? ⟨0, 0, none⟩ = some (.int .i64 m)) :
    Calls Tryd.prog 47 #[.string ⟨l.toArray⟩] w (BothPost (isT l) (pathL l) w) := by
  have c := implClean_l l m w hs hm
  rcases hp : pathL l with _ | _
  · have HT := Lib.hid (isT_no hp)
    rw [hp, cleanT_no hp] at c
    have C := Lib.hid c
    clear hp c
    go_enter Tryd.func47, Tryd.ntmps47
    go_wp2_with fail
    refine C.out.mono ?_
    rintro e w1 ⟨rfl, hb1⟩
    go_wp2_with fail
    go_ret2
    exact ⟨by rw [HT.out] <;> rfl, hb1⟩
  · have HT := Lib.hid (isT_yes hp)
    rw [hp, cleanT_yes hp] at c
    have C := Lib.hid c
    clear hp c
    go_enter Tryd.func47, Tryd.ntmps47
    go_wp2_with fail
    refine C.out.mono ?_
    rintro e w1 ⟨rfl, hb1⟩
    go_wp2_with fail
    go_ret2
    exact ⟨by rw [HT.out] <;> rfl, hb1⟩

end Go.Proofs.YtoahfhidekmodaaDoor.D1
