/- Walks: the program's text of a route. -/
import Derived.Test.YtoahfhidekmodaaDoorXF
namespace Go.Proofs.YtoahfhidekmodaaDoor.D1
open Go.RowKit Pth

/-- The text that the program makes of parts. -/
def textL (l : List (List UInt8)) (r : Bool) : List UInt8 := if r then 47 :: glue l else if l = [] then [46] else glue l
def headL (r : Bool) : List UInt8 := if r then [47] else []

/-- The builder as the loop leaves it. -/
def Writes (w : World) (o : Obj) (acc : List UInt8) (wr : World) : Prop :=
  Lib.IsBuilder 103 5 (w.heap.size + 1) (w.heap.size + 1) (Lib.byteCells acc) wr ∧ Below (w.heap.size + 1) (w.alloc o) wr

theorem Writes.fresh (w : World) (o : Obj) : Writes w o [] ((w.alloc o).alloc (.cells #[.pointer none, .slice none 0 0] 103)) := by
  have h := Lib.fresh_isBuilder 103 5 (w.alloc o)
  have e : (w.alloc o).heap.size = w.heap.size + 1 := by simp
  rw [e] at h
  exact ⟨h, (Below.refl _ _).alloc (by simp) _⟩
theorem Writes.size {w : World} {o : Obj} {acc : List UInt8} {wr : World} (h : Writes w o acc wr) : w.heap.size + 1 ≤ wr.heap.size := by
  have := h.2.size; simp at this; omega
theorem Writes.old {w : World} {o : Obj} {acc : List UInt8} {wr : World} (h : Writes w o acc wr) {p : Addr} {u : Value} (hp : p.block < w.heap.size) (hc : w.cell? p = some u) : wr.cell? p = some u := by
  rw [h.2.cell (by omega), World.cell?_alloc_lt w o p hp]; exact hc
theorem Writes.below {w : World} {o : Obj} {acc : List UInt8} {wr w' : World} (h : Writes w o acc wr) (hb : Below (w.heap.size + 1) wr w') : Below w.heap.size w w' :=
  ((Below.refl _ _).alloc (Nat.le_refl _) o).trans ((h.2.trans hb).mono (by omega))

theorem put_slash {w : World} {o : Obj} {acc : List UInt8} {wr : World} (h : Writes w o acc wr) (hl : acc.length ≤ 2000000) :
    Calls Tryd.prog 75 #[.pointer (some ⟨w.heap.size + 1, 0, none⟩), .int .u8 47] wr fun e w' => e = .returned .nilIface ∧ Writes w o (acc ++ [47]) w' := by
  refine (writeByte_any (w.heap.size + 1) (w.heap.size + 1) _ 47 wr h.1 (by rw [Lib.byteCells_length]; omega) h.size).mono ?_
  rintro e w' ⟨rfl, hA, hb⟩
  refine ⟨rfl, .inr ?_, h.2.trans hb⟩
  rw [Lib.byteCells_append]
  exact hA
theorem put_text {w : World} {o : Obj} {acc : List UInt8} {wr : World} (p : List UInt8) (h : Writes w o acc wr) (hl : acc.length + p.length ≤ 3000000) :
    Calls Tryd.prog 76 #[.pointer (some ⟨w.heap.size + 1, 0, none⟩), .string ⟨p.toArray⟩] wr fun e w' => e = .returned (.tuple #[.int .i64 (p.length : Int), .nilIface]) ∧ Writes w o (acc ++ p) w' := by
  have hz : (ByteArray.mk p.toArray).size = p.length := by simp [ByteArray.size]
  refine (writeString_any (w.heap.size + 1) (w.heap.size + 1) _ ⟨p.toArray⟩ wr h.1 (by rw [Lib.byteCells_length, hz]; omega) h.size).mono ?_
  rintro e w' ⟨rfl, hA, hb⟩
  refine ⟨by rw [hz], .inr ?_, h.2.trans hb⟩
  rw [Lib.byteCells_append]
  exact hA
theorem get_text {w : World} {o : Obj} {acc : List UInt8} {wr : World} (h : Writes w o acc wr) :
    Calls Tryd.prog 77 #[.pointer (some ⟨w.heap.size + 1, 0, none⟩)] wr fun e w' => e = .returned (.string ⟨acc.toArray⟩) ∧ Below w.heap.size w w' := by
  refine (Tryd.build_text (w.heap.size + 1) (w.heap.size + 1) acc wr h.1 h.size).mono ?_
  rintro e w' ⟨rfl, hb⟩
  exact ⟨rfl, h.below hb⟩

theorem text_next (l : List (List UInt8)) (r : Bool) (k : Nat) (hk : k < l.length) (h0 : 0 < k) : headL r ++ glue (l.take (k + 1)) = ((headL r ++ glue (l.take k)) ++ [47]) ++ l[k] := by
  rw [glue_take l k hk, if_neg (by omega)]; simp
theorem text_first (l : List (List UInt8)) (r : Bool) (hk : 0 < l.length) : headL r ++ glue (l.take (0 + 1)) = (headL r ++ glue (l.take 0)) ++ l[0] := by
  rw [glue_take l 0 hk, if_pos rfl]; simp [glue]
theorem head_len (r : Bool) : (headL r).length ≤ 1 := by cases r <;> simp [headL]
theorem text_end {l : List (List UInt8)} {r : Bool} (h : r = true ∨ ¬ l = []) : textL l r = headL r ++ glue l := by
  cases r
  · simp at h; simp [textL, headL, h]
  · simp [textL, headL]

/-- A slice that reads as a list of texts, wherever it lies. -/
def RowAt (w : World) (v : Value) (l : List (List UInt8)) : Prop :=
  ∃ a c, v = .slice a l.length c ∧ ∀ k (hk : k < l.length), ∃ g o, a = some ⟨g, o, none⟩ ∧ g < w.heap.size ∧ w.cell? ⟨g, o + k, none⟩ = some (.string ⟨(l[k]).toArray⟩)
theorem row_own {w : World} {B : Nat} {v : Value} {l : List (List UInt8)} (h : w.ownsRow B 9 1 v l.length (S l)) : RowAt w v l := by
  obtain ⟨a, c, hv⟩ := own_slice h
  refine ⟨a, c, hv, fun k hk => ?_⟩
  obtain ⟨g, cap, hv2, _, hg, _, _, hc⟩ := own_at h k hk
  rw [hv] at hv2
  injection hv2 with h1
  exact ⟨g, 0, h1, hg, by rw [Nat.zero_add]; exact hc⟩

set_option maxHeartbeats 2000000 in
theorem routeText_row (l : List (List UInt8)) (r : Bool) (v : Value) (w : World) (hrow : RowAt w v l) (hl2 : weigh l ≤ 1000000) :
    Calls Tryd.prog 66 #[.agg #[.bool r, v]] w (TextPost w.heap.size (textL l r) w) := by
  have hl := len_weigh l
  obtain ⟨sv, sc, hsv, hat⟩ := hrow
  subst hsv
  have HAT := Lib.hid hat
  clear hat
  by_cases he : r = false ∧ l = []
  · obtain ⟨rfl, rfl⟩ := he
    go_enter Tryd.func66, Tryd.ntmps66
    go_wp2
    go_ret
    exact ⟨rfl, (Below.refl _ _).alloc (Nat.le_refl _) _⟩
  · have HE : Hid (textL l r = headL r ++ glue l) := text_end (by cases r <;> simp_all)
    have hf := Writes.fresh w (.cells #[.bool r, .slice sv l.length sc] 92)
    rcases r with _ | _
    · have hne2 : 0 < l.length := by
        rcases l with _ | ⟨x, t⟩
        · simp at he
        · simp
      have hne : ((l.length : Int) == 0) = false := by rw [beq_eq_false_iff_ne]; omega
      clear he
      go_enter Tryd.func66, Tryd.ntmps66
      go_wp2_with fail
      clear hne
      go_loopw [21] (fun i wr => ∃ k : Nat, k ≤ l.length ∧ i = .int .i64 k ∧ Writes w (.cells #[.bool false, .slice sv l.length sc] 92) (headL false ++ glue (l.take k)) wr) (fun i _ => l.length - (intOf i).toNat)
      case atStart => exact ⟨0, Nat.zero_le _, rfl, by simpa [glue, headL] using hf⟩
      case round =>
        obtain ⟨k, hk, rfl, hW⟩ := hrel
        have hg1 := glue_len (l.take k)
        have hg2 := weigh_le l k
        have hg3 := head_len false
        have hg4 : (headL false ++ glue (l.take k)).length ≤ 1000001 := by rw [List.length_append]; omega
        clear hg1 hg2 hg3
        by_cases hlt : k < l.length
        · obtain ⟨g, o, hv1, hb2, hcell⟩ := HAT.out k hlt
          subst hv1
          have hcr := hW.old (p := ⟨g, o + k, none⟩) hb2 hcell
          have hw3 := weigh_take l k hlt
          have hw4 := weigh_le l (k + 1)
          have hpl : (l[k]).length ≤ 1000000 := by omega
          clear hcell hw3 hw4
          by_cases hk0 : 0 < k
          · have HN := Lib.hid (text_next l false k hlt hk0)
            generalize l[k] = p at hcr hpl HN
            go_wp2_with fail
            refine (put_slash hW (by omega)).mono ?_
            rintro e w2 ⟨rfl, hW2⟩
            go_wp2_with fail
            refine (put_text p hW2 (by rw [List.length_append, List.length_singleton]; omega)).mono ?_
            rintro e w3 ⟨rfl, hW3⟩
            go_wp2_with fail
            go_roundw
            case rel => exact ⟨k + 1, by omega, by go_num, by rw [HN.out]; exact hW3⟩
            case measure => simp [intOf]; omega
          · obtain rfl : k = 0 := by omega
            rw [Nat.add_zero] at hcr
            have HN := Lib.hid (text_first l false hlt)
            generalize l[0] = p at hcr hpl HN
            go_wp2_with fail
            refine (put_text p hW (by omega)).mono ?_
            rintro e w3 ⟨rfl, hW3⟩
            go_wp2_with fail
            go_roundw
            case rel => exact ⟨0 + 1, by omega, rfl, by rw [HN.out]; exact hW3⟩
            case measure => simp [intOf]; omega
        · have hkl : l.take k = l := List.take_of_length_le (by omega)
          rw [hkl] at hW
          obtain ⟨t, HT, hWt⟩ : ∃ t, Hid (textL l false = t) ∧ Writes w (.cells #[.bool false, .slice sv l.length sc] 92) t wr := ⟨_, HE, hW⟩
          clear hkl hg4 HE hW
          go_wp2_with fail
          refine (get_text hWt).mono ?_
          rintro e w3 ⟨rfl, hb⟩
          go_wp2_with fail
          go_ret
          exact ⟨by rw [HT.out] <;> rfl, hb⟩
    · clear he
      go_enter Tryd.func66, Tryd.ntmps66
      go_wp2_with fail
      refine (put_slash hf (by simp)).mono ?_
      rintro e w2 ⟨rfl, hW2⟩
      have hc1 : w2.cell? ⟨w.heap.size, 1, none⟩ = some (.slice sv l.length sc) := by
        rw [hW2.2.cell (p := ⟨w.heap.size, 1, none⟩) (by simp)]; simp
      go_wp2_with fail
      go_loopw [21] (fun i wr => ∃ k : Nat, k ≤ l.length ∧ i = .int .i64 k ∧ Writes w (.cells #[.bool true, .slice sv l.length sc] 92) (headL true ++ glue (l.take k)) wr) (fun i _ => l.length - (intOf i).toNat)
      case atStart => exact ⟨0, Nat.zero_le _, rfl, by simpa [glue, headL] using hW2⟩
      case round =>
        obtain ⟨k, hk, rfl, hW⟩ := hrel
        have hg1 := glue_len (l.take k)
        have hg2 := weigh_le l k
        have hg3 := head_len true
        have hg4 : (headL true ++ glue (l.take k)).length ≤ 1000001 := by rw [List.length_append]; omega
        clear hg1 hg2 hg3
        by_cases hlt : k < l.length
        · obtain ⟨g, o, hv1, hb2, hcell⟩ := HAT.out k hlt
          subst hv1
          have hcr := hW.old (p := ⟨g, o + k, none⟩) hb2 hcell
          have hw3 := weigh_take l k hlt
          have hw4 := weigh_le l (k + 1)
          have hpl : (l[k]).length ≤ 1000000 := by omega
          clear hcell hw3 hw4
          by_cases hk0 : 0 < k
          · have HN := Lib.hid (text_next l true k hlt hk0)
            generalize l[k] = p at hcr hpl HN
            go_wp2_with fail
            refine (put_slash hW (by omega)).mono ?_
            rintro e w2 ⟨rfl, hW2⟩
            go_wp2_with fail
            refine (put_text p hW2 (by rw [List.length_append, List.length_singleton]; omega)).mono ?_
            rintro e w3 ⟨rfl, hW3⟩
            go_wp2_with fail
            go_roundw
            case rel => exact ⟨k + 1, by omega, by go_num, by rw [HN.out]; exact hW3⟩
            case measure => simp [intOf]; omega
          · obtain rfl : k = 0 := by omega
            rw [Nat.add_zero] at hcr
            have HN := Lib.hid (text_first l true hlt)
            generalize l[0] = p at hcr hpl HN
            go_wp2_with fail
            refine (put_text p hW (by omega)).mono ?_
            rintro e w3 ⟨rfl, hW3⟩
            go_wp2_with fail
            go_roundw
            case rel => exact ⟨0 + 1, by omega, rfl, by rw [HN.out]; exact hW3⟩
            case measure => simp [intOf]; omega
        · have hkl : l.take k = l := List.take_of_length_le (by omega)
          rw [hkl] at hW
          obtain ⟨t, HT, hWt⟩ : ∃ t, Hid (textL l true = t) ∧ Writes w (.cells #[.bool true, .slice sv l.length sc] 92) t wr := ⟨_, HE, hW⟩
          clear hkl hg4 HE hW
          go_wp2_with fail
          refine (get_text hWt).mono ?_
          rintro e w3 ⟨rfl, hb⟩
          go_wp2_with fail
          go_ret
          exact ⟨by rw [HT.out] <;> rfl, hb⟩

theorem routeText_any (l : List (List UInt8)) (r : Bool) (B : Nat) (v : Value) (w : World) (hown : w.ownsRow B 9 1 v l.length (S l)) (hl2 : weigh l ≤ 1000000) :
    Calls Tryd.prog 66 #[.agg #[.bool r, v]] w (TextPost w.heap.size (textL l r) w) := routeText_row l r v w (row_own hown) hl2

end Go.Proofs.YtoahfhidekmodaaDoor.D1
