/- Walks: the reference's names and files: found, good. -/
import Derived.Test.YtoahfhidekmodaaDoorGr
import Derived.Test.YtoahfhidekmodaaDoorLa
namespace Go.Proofs.YtoahfhidekmodaaDoor
open Go.RowKit Pth

set_option maxHeartbeats 1000000 in
theorem l1Path_any (s : ByteArray) (w : World) (hs : s.size ≤ maxLen) :
    Calls Tryd.prog 36 #[.string s] w fun e w' => e = .returned (.bool (pathL s.data.toList)) ∧ w = w' := by
  unfold maxLen at hs
  go_enter Tryd.func36, Tryd.ntmps36
  go_wp2
  go_loop [3] (fun i => ∃ k : Nat, k ≤ s.size ∧ i = .int .i64 k ∧ Hid (okL (s.data.toList.take k) = true)) (fun i => s.size - (intOf i).toNat)
  case atStart => exact ⟨0, Nat.zero_le _, rfl, rfl⟩
  case round =>
    obtain ⟨k, hk, rfl, HO⟩ := hrel
    by_cases hlt : k < s.size
    · go_wp2
      all_goals first
        | (go_round
           case rel => exact ⟨k + 1, by omega, by go_num, okL_next hlt HO.out (by clear HO; go_light; simp_all [pb] <;> omega)⟩
           case measure => simp [intOf]; omega)
        | (go_ret
           exact ⟨ret_bool (pathL_false k hlt (by clear HO; go_light; simp_all [pb] <;> omega)).symm, rfl⟩)
    · go_wp2
      go_ret
      exact ⟨ret_bool (by rw [pathL_end (k := k) (by omega) HO.out]; go_num), rfl⟩
theorem l1Path_l (x : List UInt8) (w : World) (hx : x.length ≤ maxLen) : Calls Tryd.prog 36 #[.string ⟨x.toArray⟩] w fun e w' => e = .returned (.bool (pathL x)) ∧ w = w' :=
  l1Path_any ⟨x.toArray⟩ w (by simpa [ByteArray.size] using hx)
theorem l1Clean_l (x : List UInt8) (w : World) (hx : x.length ≤ 1000) : Calls Tryd.prog 37 #[.string ⟨x.toArray⟩] w fun e w' => e = .returned (.string ⟨(cleanL x).toArray⟩) ∧ Below w.heap.size w w' :=
  C1.l1Clean_any ⟨x.toArray⟩ w (by simpa [ByteArray.size] using hx)

/-- A bool is handed back; what lay there lies there. -/
def BoolPost (b : Bool) (w : World) (e : Ending) (w' : World) : Prop := e = .returned (.bool b) ∧ Below w.heap.size w w'
theorem path_len {t : List UInt8} (h : pathL t = true) : t.length ≤ 60 := by
  simp only [pathL, Bool.and_eq_true, decide_eq_true_iff] at h
  exact h.2

set_option maxHeartbeats 1000000 in
theorem l3Name_any (n : List UInt8) (w : World) (hn : n.length ≤ maxLen) :
    Calls Tryd.prog 22 #[.string ⟨n.toArray⟩] w (BoolPost (nameOk n) w) := by
  have D := l1Path_l n w hn
  unfold maxLen at hn
  rcases h1 : pathL n with _ | _
  · have HT : Hid (nameOk n = false) := by rw [nameOk, h1]; rfl
    rw [h1] at D
    have HD := Lib.hid D
    clear h1 D
    go_enter Tryd.func22, Tryd.ntmps22
    go_wp2_with fail
    refine HD.out.mono ?_
    rintro e w1 ⟨rfl, rfl⟩
    go_wp2_with fail
    go_ret
    exact ⟨ret_bool HT.out.symm, Below.refl _ _⟩
  · have hl := path_len h1
    rw [h1] at D
    have HD := Lib.hid D
    by_cases h2 : n.length ≤ 20
    · have HT : Hid (nameOk n = (cleanL n == n)) := by rw [nameOk, h1, decide_eq_true h2]; rfl
      have hd : decide ((n.length : Int) ≤ 20) = true := decide_eq_true (by omega)
      have HC := Lib.hid (fun W => l1Clean_l n W (by omega))
      clear h1 D
      generalize cleanL n = c at HT HC
      go_enter Tryd.func22, Tryd.ntmps22
      go_wp2_with fail
      refine HD.out.mono ?_
      rintro e w1 ⟨rfl, rfl⟩
      go_wp2_with fail
      refine (HC.out w).mono ?_
      rintro e w1 ⟨rfl, hb1⟩
      have HB1 := Lib.hid hb1
      clear hb1
      go_wp2_with fail
      go_ret
      exact ⟨ret_bool HT.out.symm, HB1.out⟩
    · have HT : Hid (nameOk n = false) := by rw [nameOk, decide_eq_false h2]; simp [Hid]
      have hd : decide ((n.length : Int) ≤ 20) = false := decide_eq_false (by omega)
      clear h1 D
      go_enter Tryd.func22, Tryd.ntmps22
      go_wp2_with fail
      refine HD.out.mono ?_
      rintro e w1 ⟨rfl, rfl⟩
      go_wp2_with fail
      go_ret
      exact ⟨ret_bool HT.out.symm, Below.refl _ _⟩

set_option maxHeartbeats 1000000 in
theorem l3Find_any (l : List FileT) (n : List UInt8) (v : Value) (w : World) (hrow : RowF w v l) :
    Calls Tryd.prog 28 #[v, .string ⟨n.toArray⟩] w fun e w' => e = .returned (.int .i64 (findF l n)) ∧ Below w.heap.size w w' := by
  obtain ⟨a, cap, rfl, hc1, hc2, hat⟩ := hrow.files
  clear hrow
  unfold maxLen at hc2
  go_enter Tryd.func28, Tryd.ntmps28
  go_wp2_with fail
  go_loopw [9] (fun i wr => ∃ k : Nat, k ≤ l.length ∧ i = .int .i64 k ∧ Hid (Below w.heap.size w wr) ∧ Hid (∀ j (hj : j < k) (hl : j < l.length), l[j].1 ≠ n)) (fun i _ => l.length - (intOf i).toNat)
  case atStart => exact ⟨0, Nat.zero_le _, rfl, Below.refl _ _, fun j hj => absurd hj (by omega)⟩
  case round =>
    obtain ⟨k, hk, rfl, HB, HO⟩ := hrel
    have hbs := HB.out.size
    by_cases hlt : k < l.length
    · obtain ⟨g, o, rfl, hg, hcell1, hcell2⟩ := hat k hlt
      have hc1' : wr.cell? ⟨g, o + k * 2, none⟩ = some (.string ⟨(l[k]).1.toArray⟩) := by rw [HB.out.cell (p := ⟨g, o + k * 2, none⟩) hg]; exact hcell1
      have hc2' : wr.cell? ⟨g, o + k * 2 + 1, none⟩ = some (.string ⟨(l[k]).2.toArray⟩) := by rw [HB.out.cell (p := ⟨g, o + k * 2 + 1, none⟩) hg]; exact hcell2
      clear hcell1 hcell2 hat
      by_cases hx : l[k].1 = n
      · have HR : Hid (findF l n = (k : Int)) := find_hit hlt (fun j hj => HO.out j hj (by omega)) hx
        have hx1 : (l[k].1 == n) = true := by simpa using hx
        generalize l[k].1 = x at hc1' hx hx1
        generalize l[k].2 = y at hc2'
        clear HO hx
        go_wp2_with fail
        go_ret
        exact ⟨by rw [HR.out] <;> rfl, HB.out.alloc hbs _⟩
      · have HR : Hid (∀ j (hj : j < k + 1) (hl : j < l.length), l[j].1 ≠ n) := by
          intro j hj hl
          by_cases e : j = k
          · subst e; exact hx
          · exact HO.out j (by omega) hl
        have hx1 : (l[k].1 == n) = false := by simpa using hx
        generalize l[k].1 = x at hc1' hx hx1
        generalize l[k].2 = y at hc2'
        clear HO hx
        go_wp2_with fail
        go_roundw
        case rel => exact ⟨k + 1, by omega, by go_num, HB.out.alloc hbs _, HR⟩
        case measure => simp [intOf]; omega
    · have HR : Hid (findF l n = -1) := find_none (fun f hf => by
        obtain ⟨j, hj, rfl⟩ := List.mem_iff_getElem.1 hf
        exact HO.out j (by omega) hj)
      clear HO hat
      go_wp2_with fail
      go_ret
      exact ⟨by rw [HR.out] <;> rfl, HB.out⟩

end Go.Proofs.YtoahfhidekmodaaDoor
