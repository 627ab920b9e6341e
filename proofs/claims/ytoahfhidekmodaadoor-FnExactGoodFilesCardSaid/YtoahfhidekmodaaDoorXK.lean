/- Walks: the program's clean path; the law that both programs clean alike. -/
import Derived.Test.YtoahfhidekmodaaDoorXJ
namespace Go.Proofs.YtoahfhidekmodaaDoor.D1
open Go.RowKit Pth

/-- No part is empty. -/
def Full (l : List (List UInt8)) : Prop := ∀ p ∈ l, ¬ p = []
theorem full_pstep {b : Bool} {acc : List (List UInt8)} {p : List UInt8} (h : Full acc) : Full (pstep b acc p) := by
  unfold pstep
  by_cases h0 : p = [] ∨ p = [46]
  · rw [if_pos h0]; exact h
  · have hp : ¬ p = [] := fun e => h0 (.inl e)
    have ha : Full (acc ++ [p]) := fun q hq => by
      rcases List.mem_append.1 hq with h1 | h1
      · exact h q h1
      · rw [List.mem_singleton.1 h1]; exact hp
    rw [if_neg h0]
    split
    · split
      · exact fun q hq => h q ((List.dropLast_sublist acc).subset hq)
      · split
        · exact h
        · exact ha
    · exact ha
theorem full_from {b : Bool} (r : List (List UInt8)) : ∀ acc, Full acc → Full (partsFrom b acc r) := by
  induction r with
  | nil => intro acc h; exact h
  | cons p t ih => intro acc h; exact ih _ (full_pstep h)
theorem full_parts (l : List UInt8) : Full (partsL l) := full_from _ [] (fun _ h => by simp at h)
theorem glue_nil {l : List (List UInt8)} (h : Full l) : glue l = [] ↔ l = [] := by
  cases l with
  | nil => simp [glue]
  | cons p t =>
    have hp := h p (by simp)
    cases t with
    | nil => simp [glue, hp]
    | cons q r => simp [glue]
theorem text_join {l : List (List UInt8)} (b : Bool) (h : Full l) : textL l b = joinL l b := by
  unfold textL joinL
  simp only [glue_nil h]

theorem isPath_eq {b : Bool} (s : ByteArray) (w : World) (hs : s.size ≤ maxLen) (hb : Hid (pathL s.data.toList = b)) :
    Calls Tryd.prog 65 #[.string s] w (BoolPost b w) := by
  have h := isPath_any s w hs
  rw [hb.out] at h
  exact h

/-- The library's variable lies where it lay. -/
theorem keep_max {w w' : World} {m : Int} (hm : w.cell? ⟨0, 0, none⟩ = some (.int .i64 m)) (hb : Below w.heap.size w w') : w'.cell? ⟨0, 0, none⟩ = some (.int .i64 m) := by
  rw [hb.cell (p := ⟨0, 0, none⟩) (World.block_lt_of_cell? w ⟨0, 0, none⟩ hm)]; exact hm
theorem bthen {w w1 w2 : World} (h : Below w.heap.size w w1) (k : Below w1.heap.size w1 w2) : Below w.heap.size w w2 := h.trans (k.mono h.size)

theorem cleanText_any (s : ByteArray) (v : Value) (B : Nat) (w : World) (hs : s.size ≤ 1000) (hown : w.ownsRow B 9 1 v (partsL s.data.toList).length (S (partsL s.data.toList))) :
    Calls Tryd.prog 66 #[.agg #[.bool (rootedL s.data.toList), v]] w (TextPost w.heap.size (cleanL s.data.toList) w) := by
  have h := routeText_any (partsL s.data.toList) (rootedL s.data.toList) B v w hown (by have := weigh_parts s; omega)
  rw [text_join _ (full_parts _)] at h
  exact h

set_option maxHeartbeats 1000000 in
theorem implClean_any (s : ByteArray) (m : Int) (w : World) (hs : s.size ≤ maxLen) (hm : w.cell? ⟨0, 0, none⟩ = some (.int .i64 m)) :
    Calls Tryd.prog 53 #[.string s] w (TwoPost (cleanT s.data.toList) (pathL s.data.toList) w) := by
  rcases hp : pathL s.data.toList with _ | _
  · have HT : Hid (cleanT s.data.toList = []) := by show cleanT _ = _; simp [cleanT, hp]
    have HP := Lib.hid hp
    clear hp
    go_enter Tryd.func53, Tryd.ntmps53
    go_wp2_with fail
    refine (isPath_eq s _ hs HP).mono ?_
    rintro e w1 ⟨rfl, hb1⟩
    go_wp2_with fail
    go_ret2
    exact ⟨by rw [HT.out] <;> rfl, hb1⟩
  · have HT : Hid (cleanT s.data.toList = cleanL s.data.toList) := by show cleanT _ = _; simp [cleanT, hp]
    have hsz := path_size hp
    have HP := Lib.hid hp
    clear hp
    go_enter Tryd.func53, Tryd.ntmps53
    go_wp2_with fail
    refine (isPath_eq s _ hs HP).mono ?_
    rintro e w1 ⟨rfl, hb1⟩
    go_wp2_with fail
    refine (routeOf_any s m _ (by omega) (keep_max hm hb1)).mono ?_
    rintro e w2 ⟨v2, rfl, hown2, hb2⟩
    go_wp2_with fail
    refine (cleanText_any s v2 _ _ (by omega) hown2).mono ?_
    rintro e w3 ⟨rfl, hb3⟩
    go_wp2_with fail
    go_ret2
    exact ⟨by rw [HT.out] <;> rfl, bthen (bthen hb1 hb2) hb3⟩

/-- The law says yes, and nothing that lay there has turned. -/
def YesPost (w : World) (e : Ending) (w' : World) : Prop := e = .returned (.bool true) ∧ Below w.heap.size w w'

end Go.Proofs.YtoahfhidekmodaaDoor.D1
