/- Texts of one claim, joined in their order. -/
import Derived.Lib.Hide
import Derived.Laws.RangeAny
import Derived.Laws.EntriesVeiled
import Derived.Test.YtgcaplbeahjbmaaGreatDoorCards
import Derived.Test.YtgcaplbeahjbmaaGreatDoorTie
import Derived.ProofKit
import Derived.SliceStrings
import Derived.SizedLaws
import Derived.OpenShut
import Derived.Deep.SlicePairs
import Derived.Lib.SmallJoins
import Derived.Deep.DeepHandedRow
import Derived.Deep.DeepLaidRun
import Derived.Test.YtgcaplbeahjbmaaGreatDoorM3
import Derived.Test.YtgcaplbeahjbmaaGreatDoorM2
import Derived.Test.YtgcaplbeahjbmaaGreatDoorM1

/- Walks: the reference's text of parts, and its clean path. -/
namespace Go.Proofs.YtgcaplbeahjbmaaGreatDoor.D1
open Go.RowKit Pth

/-- How many bytes the parts and their slashes are. -/
def weigh : List (List UInt8) → Nat
  | [] => 0
  | p :: r => p.length + 1 + weigh r
theorem weigh_take (l : List (List UInt8)) (k : Nat) (h : k < l.length) : weigh (l.take (k + 1)) = weigh (l.take k) + l[k].length + 1 := by
  induction l generalizing k with
  | nil => simp at h
  | cons p r ih =>
    cases k with
    | zero => simp [weigh]
    | succ k =>
      have := ih k (by simpa using h)
      simp only [List.take_succ_cons, weigh, List.getElem_cons_succ] at this ⊢
      omega
theorem weigh_le (l : List (List UInt8)) (k : Nat) : weigh (l.take k) ≤ weigh l := by
  induction l generalizing k with
  | nil => simp
  | cons p r ih =>
    cases k with
    | zero => simp [weigh]
    | succ k => have := ih k; simp only [List.take_succ_cons, weigh]; omega
theorem glue_len (l : List (List UInt8)) : (glue l).length ≤ weigh l := by
  induction l with
  | nil => simp [glue, weigh]
  | cons p r ih =>
    cases r with
    | nil => simp [glue, weigh]
    | cons q t => simp only [glue, weigh, List.length_append, List.length_cons] at ih ⊢; omega
theorem glue_take (l : List (List UInt8)) (k : Nat) (h : k < l.length) : glue (l.take (k + 1)) = if k = 0 then l[k] else glue (l.take k) ++ 47 :: l[k] := by
  rw [List.take_succ_eq_append_getElem h, glue_snoc]
  by_cases hk : k = 0
  · subst hk; simp
  · rw [if_neg hk, if_neg]
    intro h0
    have := congrArg List.length h0
    rw [List.length_take, List.length_nil] at this
    omega

/-- A text is handed back; below B nothing has turned. -/
def TextPost (B : Nat) (t : List UInt8) (w : World) (e : Ending) (w' : World) : Prop := e = .returned (.string ⟨t.toArray⟩) ∧ Below B w w'

theorem cat0 (p : List UInt8) : Value.string (⟨#[]⟩ ++ ⟨p.toArray⟩) = .string ⟨p.toArray⟩ := by
  rw [show (⟨#[]⟩ : ByteArray) = ⟨([] : List UInt8).toArray⟩ from rfl, ByteArray.mk_append_mk]; rfl
theorem cat1 (p : List UInt8) : Ending.returned (Value.string (⟨#[47]⟩ ++ ⟨p.toArray⟩)) = .returned (.string ⟨(47 :: p).toArray⟩) := by
  rw [show (⟨#[47]⟩ : ByteArray) = ⟨([47] : List UInt8).toArray⟩ from rfl, ByteArray.mk_append_mk]; rfl
theorem cat2 (a p : List UInt8) : Value.string (⟨a.toArray⟩ ++ ⟨#[47]⟩ ++ ⟨p.toArray⟩) = .string ⟨(a ++ 47 :: p).toArray⟩ := by
  rw [show (⟨#[47]⟩ : ByteArray) = ⟨([47] : List UInt8).toArray⟩ from rfl, ByteArray.mk_append_mk, ByteArray.mk_append_mk, List.append_assoc]; rfl

set_option maxHeartbeats 1000000 in
theorem l1Join_any (l : List (List UInt8)) (b : Bool) (B : Nat) (v : Value) (w : World) (hown : w.ownsRow B 9 1 v l.length (S l)) (hl : l.length ≤ 1000000) (hl2 : weigh l ≤ 1000000) :
    Calls Tryz.prog 57 #[v, .bool b] w fun e w' => e = .returned (.string ⟨(joinL l b).toArray⟩) ∧ w = w' := by
  obtain ⟨sv, sc, hsv⟩ := own_slice hown
  subst hsv
  go_enter Tryz.func57, Tryz.ntmps57
  go_wp2
  go_loop [5, 10] (fun t i => ∃ (k : Nat), k ≤ l.length ∧ i = .int .i64 k ∧ t = .string ⟨(glue (l.take k)).toArray⟩) (fun _ i => l.length - (intOf i).toNat)
  case atStart => exact ⟨0, Nat.zero_le _, rfl, rfl⟩
  case round =>
    obtain ⟨k, hk, rfl, rfl⟩ := hrel
    have hw1 := weigh_le l k
    have hw2 := glue_len (l.take k)
    have hgl : (glue (l.take k)).length ≤ 1000000 := by omega
    clear hw2
    by_cases hlt : k < l.length
    · obtain ⟨g, cap', hv, hg1, hg2, _, _, hcell⟩ := own_at hown k hlt
      injection hv with hv1 hv2 hv3
      subst hv1
      have HG := Lib.hid (glue_take l k hlt)
      have hw3 := weigh_take l k hlt
      have hw4 := weigh_le l (k + 1)
      generalize l[k] = p at hcell HG hw3
      have hpl : p.length ≤ 1000000 := by omega
      clear hv2 hv3 hw1 hw3 hw4
      by_cases hk0 : k = 0
      · subst hk0
        have hgk : Hid ((glue (l.take 1)) = p) := HG.out
        have g0 : glue (l.take 0) = [] := rfl
        rw [g0]
        clear HG g0 hgl
        go_wp2
        go_round
        case rel => exact ⟨1, by omega, rfl, by rw [hgk.out]; exact cat0 p⟩
        case measure => simp [intOf]; omega
      · have hgk : Hid ((glue (l.take (k + 1))) = glue (l.take k) ++ 47 :: p) := by have := HG.out; rw [if_neg hk0] at this; exact this
        have hk1 : 0 < k := by omega
        clear HG hk0
        go_wp2
        go_round
        case rel => exact ⟨k + 1, by omega, by go_num, by rw [hgk.out]; exact cat2 _ p⟩
        case measure => simp [intOf]; omega
    · have hkl : l.take k = l := List.take_of_length_le (by omega)
      rw [hkl] at hgl ⊢
      clear hkl hw1
      rcases b with _ | _
      · by_cases h0 : glue l = []
        · have HJ : Hid (joinL l false = [46]) := by simp [Hid, joinL, h0]
          rw [h0]
          clear h0 hgl
          go_wp2
          go_ret
          exact ⟨by rw [HJ.out] <;> rfl, rfl⟩
        · have HJ : Hid (joinL l false = glue l) := by simp [Hid, joinL, h0]
          have h1 : (glue l).isEmpty = false := by simpa using h0
          go_wp2
          go_ret
          exact ⟨by rw [HJ.out] <;> rfl, rfl⟩
      · have HJ : Hid (joinL l true = 47 :: glue l) := by simp [Hid, joinL]
        go_wp2
        go_ret
        exact ⟨by rw [HJ.out]; exact cat1 _, rfl⟩

theorem weigh_append (a b : List (List UInt8)) : weigh (a ++ b) = weigh a + weigh b := by
  induction a with
  | nil => simp [weigh]
  | cons p r ih => simp only [List.cons_append, weigh, ih]; omega
theorem weigh_splitAux (l : List UInt8) : ∀ cur, weigh (splitAux cur l) = cur.length + l.length + 1 := by
  induction l with
  | nil => intro cur; simp [splitAux, weigh]
  | cons c r ih =>
    intro cur
    rw [splitAux]
    split
    · simp only [weigh, ih, List.length_reverse, List.length_cons, List.length_nil]; omega
    · rw [ih]; simp only [List.length_cons]; omega
theorem weigh_pstep (b : Bool) (acc : List (List UInt8)) (p : List UInt8) : weigh (pstep b acc p) ≤ weigh acc + p.length + 1 := by
  unfold pstep
  split
  · omega
  · split
    · split
      · rcases last_of acc with h | ⟨a, q, h⟩
        · rw [h]; simp [weigh]
        · rw [h, List.dropLast_concat, weigh_append]; omega
      · split
        · omega
        · rw [weigh_append]; simp [weigh]; omega
    · rw [weigh_append]; simp [weigh]; omega
theorem weigh_from (b : Bool) (r : List (List UInt8)) : ∀ acc, weigh (partsFrom b acc r) ≤ weigh acc + weigh r := by
  induction r with
  | nil => intro acc; simp [partsFrom, weigh]
  | cons p t ih =>
    intro acc
    rw [partsFrom]
    have := ih (pstep b acc p)
    have := weigh_pstep b acc p
    simp only [weigh]
    omega
theorem weigh_parts (s : ByteArray) : weigh (partsL s.data.toList) ≤ s.size + 1 := by
  have h := weigh_from (rootedL s.data.toList) (splitL s.data.toList) []
  have h2 := weigh_splitAux s.data.toList []
  rw [len_eq] at h2
  simp only [weigh, List.length_nil] at h h2
  unfold partsL
  unfold splitL at h ⊢
  omega
theorem len_weigh (l : List (List UInt8)) : l.length ≤ weigh l := by
  induction l with
  | nil => simp [weigh]
  | cons p r ih => simp only [weigh, List.length_cons]; omega

set_option maxHeartbeats 1000000 in
theorem l1Clean_any (s : ByteArray) (w : World) (hs : s.size ≤ 1000) :
    Calls Tryz.prog 50 #[.string s] w (TextPost w.heap.size (cleanL s.data.toList) w) := by
  have hw1 := weigh_parts s
  have hw2 := len_weigh (partsL s.data.toList)
  go_enter Tryz.func50, Tryz.ntmps50
  go_wp2_with fail
  refine (l1Parts_any s _ hs).mono ?_
  rintro e w1 ⟨v1, rfl, hown1, hb1⟩
  go_wp2_with fail
  refine (l1Rooted_any s _ (by unfold maxLen; omega)).mono ?_
  rintro e w' ⟨rfl, rfl⟩
  go_wp2_with fail
  refine (l1Join_any _ _ _ _ _ hown1 (by omega) (by omega)).mono ?_
  rintro e w' ⟨rfl, rfl⟩
  go_wp2_with fail
  go_ret
  exact ⟨rfl, hb1⟩

/-- A text and a bool are handed back; what lay there lies there. -/
def TwoPost (t : List UInt8) (b : Bool) (w : World) (e : Ending) (w' : World) : Prop := e = .returned (.tuple #[.string ⟨t.toArray⟩, .bool b]) ∧ Below w.heap.size w w'
def BothPost (t : Bool) (b : Bool) (w : World) (e : Ending) (w' : World) : Prop := e = .returned (.tuple #[.bool t, .bool b]) ∧ Below w.heap.size w w'

theorem l1Path_eq {b : Bool} (s : ByteArray) (w : World) (hs : s.size ≤ maxLen) (hb : Hid (pathL s.data.toList = b)) :
    Calls Tryz.prog 49 #[.string s] w fun e w' => e = .returned (.bool b) ∧ w = w' := by
  have h := l1Path_any s w hs
  rw [hb.out] at h
  exact h
theorem path_size {s : ByteArray} (h : pathL s.data.toList = true) : s.size ≤ 60 := by
  simp only [pathL, Bool.and_eq_true, decide_eq_true_eq, len_eq] at h
  exact h.2

/-- What CleanPath answers. -/
def cleanT (l : List UInt8) : List UInt8 := if pathL l then cleanL l else []

end Go.Proofs.YtgcaplbeahjbmaaGreatDoor.D1

/- Walks: the program's test on a path, and its text of a route. -/
namespace Go.Proofs.YtgcaplbeahjbmaaGreatDoor.D1
open Go.RowKit Pth

/-- A bool is handed back; what lay there lies there. -/
def BoolPost (b : Bool) (w : World) (e : Ending) (w' : World) : Prop := e = .returned (.bool b) ∧ Below w.heap.size w w'

theorem isPathRune_eq {b : Bool} (c : Int) (w : World) (h : Hid (pb c = b)) :
    Calls Tryz.prog 101 #[.int .i32 c] w fun e w' => e = .returned (.bool b) ∧ w = w' := by
  have := isPathRune_any c w
  rw [h.out] at this
  exact this

set_option maxHeartbeats 1000000 in
theorem isPath_any (s : ByteArray) (w : World) (hs : s.size ≤ maxLen) :
    Calls Tryz.prog 88 #[.string s] w (BoolPost (pathL s.data.toList) w) := by
  unfold maxLen at hs
  by_cases hbig : 60 < s.size
  · have HP := Lib.hid (pathL_long hbig)
    go_enter Tryz.func88, Tryz.ntmps88
    go_wp2
    go_ret
    exact ⟨ret_bool HP.out.symm, Below.refl _ _⟩
  · go_enter Tryz.func88, Tryz.ntmps88
    go_wp2
    go_loopw [] (fun wr => ∃ pos : Nat, pos ≤ s.size ∧ wr = w.iter s pos ∧ Hid (okL (s.data.toList.take pos) = true)) (fun wr => s.size - wr.iterPos w.heap.size)
    case atStart => exact ⟨0, Nat.zero_le _, rfl, rfl⟩
    case round =>
      obtain ⟨pos, hp, rfl, HO⟩ := hrel
      by_cases hlt : pos < s.size
      · have hnx : ∀ ty, (Instr.next (.pointer (some ⟨w.heap.size, 0, none⟩)) true ty).run Tryz.prog (w.iter s pos) = _ := fun ty => run_next_any w s pos ty hlt
        by_cases ha : s[pos].toNat < 128
        · rw [decode_ascii s pos hlt ha] at hnx
          rcases hpb : pb (s[pos].toNat : Int) with _ | _
          · have HB := Lib.hid hpb
            clear hpb
            go_wp2_with (go_at_call 101; refine (isPathRune_eq _ _ HB).mono ?_; rintro e w' ⟨rfl, rfl⟩)
            go_ret
            exact ⟨ret_bool (pathL_false pos hlt HB.out).symm, (Below.refl _ _).alloc (Nat.le_refl _) _⟩
          · have HB := Lib.hid hpb
            clear hpb
            go_wp2_with (go_at_call 101; refine (isPathRune_eq _ _ HB).mono ?_; rintro e w' ⟨rfl, rfl⟩)
            go_roundw
            case rel => exact ⟨pos + 1, by omega, rfl, okL_next hlt HO.out HB.out⟩
            case measure => rw [World.iterPos_iter, World.iterPos_iter]; omega
        · have hd := (decode_high s pos hlt (by omega)).1
          have HB : Hid (pb (((Utf8.decode s pos).1 : Nat) : Int) = false) := pb_high (by omega)
          go_wp2_with (go_at_call 101; refine (isPathRune_eq _ _ HB).mono ?_; rintro e w' ⟨rfl, rfl⟩)
          go_ret
          exact ⟨ret_bool (pathL_false pos hlt (pb_high (by omega))).symm, (Below.refl _ _).alloc (Nat.le_refl _) _⟩
      · have hnx : ∀ ty, (Instr.next (.pointer (some ⟨w.heap.size, 0, none⟩)) true ty).run Tryz.prog (w.iter s pos) = _ := fun ty => run_next_end w s pos ty hlt
        have HP := Lib.hid (pathL_end (k := pos) (by omega) HO.out)
        go_wp2
        go_ret
        exact ⟨ret_bool (by rw [HP.out]; simp; omega), (Below.refl _ _).alloc (Nat.le_refl _) _⟩

end Go.Proofs.YtgcaplbeahjbmaaGreatDoor.D1

/- Walks: the program's text of a route. -/
namespace Go.Proofs.YtgcaplbeahjbmaaGreatDoor.D1
open Go.RowKit Pth

/-- The text that the program makes of parts. -/
def textL (l : List (List UInt8)) (r : Bool) : List UInt8 := if r then 47 :: glue l else if l = [] then [46] else glue l
def headL (r : Bool) : List UInt8 := if r then [47] else []

/-- The builder as the loop leaves it. -/
def Writes (w : World) (o : Obj) (acc : List UInt8) (wr : World) : Prop :=
  Lib.IsBuilder 123 5 (w.heap.size + 1) (w.heap.size + 1) (Lib.byteCells acc) wr ∧ Below (w.heap.size + 1) (w.alloc o) wr

theorem Writes.fresh (w : World) (o : Obj) : Writes w o [] ((w.alloc o).alloc (.cells #[.pointer none, .slice none 0 0] 123)) := by
  have h := Lib.fresh_isBuilder 123 5 (w.alloc o)
  have e : (w.alloc o).heap.size = w.heap.size + 1 := by simp
  rw [e] at h
  exact ⟨h, (Below.refl _ _).alloc (by simp) _⟩
theorem Writes.size {w : World} {o : Obj} {acc : List UInt8} {wr : World} (h : Writes w o acc wr) : w.heap.size + 1 ≤ wr.heap.size := by
  have := h.2.size; simp at this; omega
theorem Writes.old {w : World} {o : Obj} {acc : List UInt8} {wr : World} (h : Writes w o acc wr) {p : Addr} {u : Value} (hp : p.block < w.heap.size) (hc : w.cell? p = some u) : wr.cell? p = some u := by
  rw [h.2.cell (by omega), World.cell?_alloc_lt w o p hp]; exact hc
theorem Writes.below {w : World} {o : Obj} {acc : List UInt8} {wr w' : World} (h : Writes w o acc wr) (hb : Below (w.heap.size + 1) wr w') : Below w.heap.size w w' :=
  ((Below.refl _ _).alloc (Nat.le_refl _) o).trans ((h.2.trans hb).mono (by omega))

theorem put_slash {w : World} {o : Obj} {acc : List UInt8} {wr : World} (h : Writes w o acc wr) (hl : acc.length ≤ 2000000) :
    Calls Tryz.prog 102 #[.pointer (some ⟨w.heap.size + 1, 0, none⟩), .int .u8 47] wr fun e w' => e = .returned .nilIface ∧ Writes w o (acc ++ [47]) w' := by
  refine (writeByte_any (w.heap.size + 1) (w.heap.size + 1) _ 47 wr h.1 (by rw [Lib.byteCells_length]; omega) h.size).mono ?_
  rintro e w' ⟨rfl, hA, hb⟩
  refine ⟨rfl, .inr ?_, h.2.trans hb⟩
  rw [Lib.byteCells_append]
  exact hA
theorem put_text {w : World} {o : Obj} {acc : List UInt8} {wr : World} (p : List UInt8) (h : Writes w o acc wr) (hl : acc.length + p.length ≤ 3000000) :
    Calls Tryz.prog 103 #[.pointer (some ⟨w.heap.size + 1, 0, none⟩), .string ⟨p.toArray⟩] wr fun e w' => e = .returned (.tuple #[.int .i64 (p.length : Int), .nilIface]) ∧ Writes w o (acc ++ p) w' := by
  have hz : (ByteArray.mk p.toArray).size = p.length := by simp [ByteArray.size]
  refine (writeString_any (w.heap.size + 1) (w.heap.size + 1) _ ⟨p.toArray⟩ wr h.1 (by rw [Lib.byteCells_length, hz]; omega) h.size).mono ?_
  rintro e w' ⟨rfl, hA, hb⟩
  refine ⟨by rw [hz], .inr ?_, h.2.trans hb⟩
  rw [Lib.byteCells_append]
  exact hA
theorem get_text {w : World} {o : Obj} {acc : List UInt8} {wr : World} (h : Writes w o acc wr) :
    Calls Tryz.prog 104 #[.pointer (some ⟨w.heap.size + 1, 0, none⟩)] wr fun e w' => e = .returned (.string ⟨acc.toArray⟩) ∧ Below w.heap.size w w' := by
  refine (Tryz.build_text (w.heap.size + 1) (w.heap.size + 1) acc wr h.1 h.size).mono ?_
  rintro e w' ⟨rfl, hb⟩
  exact ⟨rfl, h.below hb⟩

theorem text_next (l : List (List UInt8)) (r : Bool) (k : Nat) (hk : k < l.length) (h0 : 0 < k) : headL r ++ glue (l.take (k + 1)) = ((headL r ++ glue (l.take k)) ++ [47]) ++ l[k] := by
  rw [glue_take l k hk, if_neg (by omega)]; simp
theorem text_first (l : List (List UInt8)) (r : Bool) (hk : 0 < l.length) : headL r ++ glue (l.take (0 + 1)) = (headL r ++ glue (l.take 0)) ++ l[0] := by
  rw [glue_take l 0 hk, if_pos rfl]; simp [glue]
theorem head_len (r : Bool) : (headL r).length ≤ 1 := by cases r <;> simp [headL]
theorem text_end {l : List (List UInt8)} {r : Bool} (h : r = true ∨ ¬ l = []) : textL l r = headL r ++ glue l := by
  cases r
  · simp at h; simp [textL, headL, h]
  · simp [textL, headL]

/-- A slice that reads as a list of texts, wherever it lies. -/
def RowAt (w : World) (v : Value) (l : List (List UInt8)) : Prop :=
  ∃ a c, v = .slice a l.length c ∧ ∀ k (hk : k < l.length), ∃ g o, a = some ⟨g, o, none⟩ ∧ g < w.heap.size ∧ w.cell? ⟨g, o + k, none⟩ = some (.string ⟨(l[k]).toArray⟩)
theorem row_own {w : World} {B : Nat} {v : Value} {l : List (List UInt8)} (h : w.ownsRow B 9 1 v l.length (S l)) : RowAt w v l := by
  obtain ⟨a, c, hv⟩ := own_slice h
  refine ⟨a, c, hv, fun k hk => ?_⟩
  obtain ⟨g, cap, hv2, _, hg, _, _, hc⟩ := own_at h k hk
  rw [hv] at hv2
  injection hv2 with h1
  exact ⟨g, 0, h1, hg, by rw [Nat.zero_add]; exact hc⟩

set_option maxHeartbeats 2000000 in
theorem routeText_row (l : List (List UInt8)) (r : Bool) (v : Value) (w : World) (hrow : RowAt w v l) (hl2 : weigh l ≤ 1000000) :
    Calls Tryz.prog 89 #[.agg #[.bool r, v]] w (TextPost w.heap.size (textL l r) w) := by
  have hl := len_weigh l
  obtain ⟨sv, sc, hsv, hat⟩ := hrow
  subst hsv
  have HAT := Lib.hid hat
  clear hat
  by_cases he : r = false ∧ l = []
  · obtain ⟨rfl, rfl⟩ := he
    go_enter Tryz.func89, Tryz.ntmps89
    go_wp2
    go_ret
    exact ⟨rfl, (Below.refl _ _).alloc (Nat.le_refl _) _⟩
  · have HE : Hid (textL l r = headL r ++ glue l) := text_end (by cases r <;> simp_all)
    have hf := Writes.fresh w (.cells #[.bool r, .slice sv l.length sc] 110)
    rcases r with _ | _
    · have hne2 : 0 < l.length := by
        rcases l with _ | ⟨x, t⟩
        · simp at he
        · simp
      have hne : ((l.length : Int) == 0) = false := by rw [beq_eq_false_iff_ne]; omega
      clear he
      go_enter Tryz.func89, Tryz.ntmps89
      go_wp2_with fail
      clear hne
      go_loopw [21] (fun i wr => ∃ k : Nat, k ≤ l.length ∧ i = .int .i64 k ∧ Writes w (.cells #[.bool false, .slice sv l.length sc] 110) (headL false ++ glue (l.take k)) wr) (fun i _ => l.length - (intOf i).toNat)
      case atStart => exact ⟨0, Nat.zero_le _, rfl, by simpa [glue, headL] using hf⟩
      case round =>
        obtain ⟨k, hk, rfl, hW⟩ := hrel
        have hg1 := glue_len (l.take k)
        have hg2 := weigh_le l k
        have hg3 := head_len false
        have hg4 : (headL false ++ glue (l.take k)).length ≤ 1000001 := by rw [List.length_append]; omega
        clear hg1 hg2 hg3
        by_cases hlt : k < l.length
        · obtain ⟨g, o, hv1, hb2, hcell⟩ := HAT.out k hlt
          subst hv1
          have hcr := hW.old (p := ⟨g, o + k, none⟩) hb2 hcell
          have hw3 := weigh_take l k hlt
          have hw4 := weigh_le l (k + 1)
          have hpl : (l[k]).length ≤ 1000000 := by omega
          clear hcell hw3 hw4
          by_cases hk0 : 0 < k
          · have HN := Lib.hid (text_next l false k hlt hk0)
            generalize l[k] = p at hcr hpl HN
            go_wp2_with fail
            refine (put_slash hW (by omega)).mono ?_
            rintro e w2 ⟨rfl, hW2⟩
            go_wp2_with fail
            refine (put_text p hW2 (by rw [List.length_append, List.length_singleton]; omega)).mono ?_
            rintro e w3 ⟨rfl, hW3⟩
            go_wp2_with fail
            go_roundw
            case rel => exact ⟨k + 1, by omega, by go_num, by rw [HN.out]; exact hW3⟩
            case measure => simp [intOf]; omega
          · obtain rfl : k = 0 := by omega
            rw [Nat.add_zero] at hcr
            have HN := Lib.hid (text_first l false hlt)
            generalize l[0] = p at hcr hpl HN
            go_wp2_with fail
            refine (put_text p hW (by omega)).mono ?_
            rintro e w3 ⟨rfl, hW3⟩
            go_wp2_with fail
            go_roundw
            case rel => exact ⟨0 + 1, by omega, rfl, by rw [HN.out]; exact hW3⟩
            case measure => simp [intOf]; omega
        · have hkl : l.take k = l := List.take_of_length_le (by omega)
          rw [hkl] at hW
          obtain ⟨t, HT, hWt⟩ : ∃ t, Hid (textL l false = t) ∧ Writes w (.cells #[.bool false, .slice sv l.length sc] 110) t wr := ⟨_, HE, hW⟩
          clear hkl hg4 HE hW
          go_wp2_with fail
          refine (get_text hWt).mono ?_
          rintro e w3 ⟨rfl, hb⟩
          go_wp2_with fail
          go_ret
          exact ⟨by rw [HT.out] <;> rfl, hb⟩
    · clear he
      go_enter Tryz.func89, Tryz.ntmps89
      go_wp2_with fail
      refine (put_slash hf (by simp)).mono ?_
      rintro e w2 ⟨rfl, hW2⟩
      have hc1 : w2.cell? ⟨w.heap.size, 1, none⟩ = some (.slice sv l.length sc) := by
        rw [hW2.2.cell (p := ⟨w.heap.size, 1, none⟩) (by simp)]; simp
      go_wp2_with fail
      go_loopw [21] (fun i wr => ∃ k : Nat, k ≤ l.length ∧ i = .int .i64 k ∧ Writes w (.cells #[.bool true, .slice sv l.length sc] 110) (headL true ++ glue (l.take k)) wr) (fun i _ => l.length - (intOf i).toNat)
      case atStart => exact ⟨0, Nat.zero_le _, rfl, by simpa [glue, headL] using hW2⟩
      case round =>
        obtain ⟨k, hk, rfl, hW⟩ := hrel
        have hg1 := glue_len (l.take k)
        have hg2 := weigh_le l k
        have hg3 := head_len true
        have hg4 : (headL true ++ glue (l.take k)).length ≤ 1000001 := by rw [List.length_append]; omega
        clear hg1 hg2 hg3
        by_cases hlt : k < l.length
        · obtain ⟨g, o, hv1, hb2, hcell⟩ := HAT.out k hlt
          subst hv1
          have hcr := hW.old (p := ⟨g, o + k, none⟩) hb2 hcell
          have hw3 := weigh_take l k hlt
          have hw4 := weigh_le l (k + 1)
          have hpl : (l[k]).length ≤ 1000000 := by omega
          clear hcell hw3 hw4
          by_cases hk0 : 0 < k
          · have HN := Lib.hid (text_next l true k hlt hk0)
            generalize l[k] = p at hcr hpl HN
            go_wp2_with fail
            refine (put_slash hW (by omega)).mono ?_
            rintro e w2 ⟨rfl, hW2⟩
            go_wp2_with fail
            refine (put_text p hW2 (by rw [List.length_append, List.length_singleton]; omega)).mono ?_
            rintro e w3 ⟨rfl, hW3⟩
            go_wp2_with fail
            go_roundw
            case rel => exact ⟨k + 1, by omega, by go_num, by rw [HN.out]; exact hW3⟩
            case measure => simp [intOf]; omega
          · obtain rfl : k = 0 := by omega
            rw [Nat.add_zero] at hcr
            have HN := Lib.hid (text_first l true hlt)
            generalize l[0] = p at hcr hpl HN
            go_wp2_with fail
            refine (put_text p hW (by omega)).mono ?_
            rintro e w3 ⟨rfl, hW3⟩
            go_wp2_with fail
            go_roundw
            case rel => exact ⟨0 + 1, by omega, rfl, by rw [HN.out]; exact hW3⟩
            case measure => simp [intOf]; omega
        · have hkl : l.take k = l := List.take_of_length_le (by omega)
          rw [hkl] at hW
          obtain ⟨t, HT, hWt⟩ : ∃ t, Hid (textL l true = t) ∧ Writes w (.cells #[.bool true, .slice sv l.length sc] 110) t wr := ⟨_, HE, hW⟩
          clear hkl hg4 HE hW
          go_wp2_with fail
          refine (get_text hWt).mono ?_
          rintro e w3 ⟨rfl, hb⟩
          go_wp2_with fail
          go_ret
          exact ⟨by rw [HT.out] <;> rfl, hb⟩

theorem routeText_any (l : List (List UInt8)) (r : Bool) (B : Nat) (v : Value) (w : World) (hown : w.ownsRow B 9 1 v l.length (S l)) (hl2 : weigh l ≤ 1000000) :
    Calls Tryz.prog 89 #[.agg #[.bool r, v]] w (TextPost w.heap.size (textL l r) w) := routeText_row l r v w (row_own hown) hl2

end Go.Proofs.YtgcaplbeahjbmaaGreatDoor.D1

/- Walks: the program's parts of a path, one by one. -/
namespace Go.Proofs.YtgcaplbeahjbmaaGreatDoor.D1
open Go.RowKit Pth

/-- A route is handed back, its parts in memory from B on. -/
def RoutePost (B : Nat) (v0 : Value) (r : Bool) (l : List (List UInt8)) (w : World) (e : Ending) (w' : World) : Prop :=
  ∃ v, e = .returned (.agg #[.bool r, v]) ∧ w'.ownsRow B 9 1 v l.length (S l) ∧ w.grownBy w' v0.ownBlock

theorem only_alloc {a w : World} {row : Option Nat} (h : a.grownBy w row) (o : Obj) : a.grownBy (w.alloc o) row :=
  ⟨h.os, h.tape, h.output, Nat.le_trans h.size (by simp), fun i hi hne => (Below.heap_alloc w o i (Nat.lt_of_lt_of_le hi h.size)).trans (h.block i hi hne)⟩
theorem only_set {a w : World} {row : Option Nat} (h : a.grownBy w row) {p : Addr} (hp : a.heap.size ≤ p.block) (u : Value) : a.grownBy (w.setCell p u) row :=
  ⟨h.os, h.tape, h.output, by simpa [World.setCell] using h.size, fun i hi hne => (Below.heap_setCell w p u i (by omega)).trans (h.block i hi hne)⟩
theorem only_refl (w : World) (row : Option Nat) : w.grownBy w row := ⟨rfl, rfl, rfl, Nat.le_refl _, fun _ _ _ => rfl⟩
theorem only_trans {a b c : World} {row row' : Option Nat} (h : a.grownBy b row) (k : b.grownBy c row') (hr : ∀ i, row' = some i → row = some i ∨ a.heap.size ≤ i) : a.grownBy c row :=
  ⟨k.os.trans h.os, k.tape.trans h.tape, k.output.trans h.output, Nat.le_trans h.size k.size, fun i hi hne => (k.block i (Nat.lt_of_lt_of_le hi h.size) (fun e => by
    rcases hr i e.symm with h1 | h1
    · exact hne h1.symm
    · omega)).trans (h.block i hi hne)⟩

theorem nothing_yes (p : List UInt8) (w : World) (h : p = [] ∨ p = [46]) :
    Calls Tryz.prog 113 #[.string ⟨p.toArray⟩] w fun e w' => e = .returned (.bool true) ∧ w = w' := by
  rcases h with rfl | rfl
  all_goals
    go_enter Tryz.func113, Tryz.ntmps113
    go_wp2
    go_ret
    exact ⟨rfl, rfl⟩
theorem nothing_no (p : List UInt8) (w : World) (h : ¬ p = []) (h1 : ¬ p = [46]) :
    Calls Tryz.prog 113 #[.string ⟨p.toArray⟩] w fun e w' => e = .returned (.bool false) ∧ w = w' := by
  have hp4 : p.isEmpty = false := by simpa using h
  have hp5 : (p == [46]) = false := by simpa using h1
  go_enter Tryz.func113, Tryz.ntmps113
  go_wp2
  go_ret
  exact ⟨rfl, rfl⟩
theorem up_yes (w : World) :
    Calls Tryz.prog 115 #[.string ⟨#[46, 46]⟩] w fun e w' => e = .returned (.bool true) ∧ w = w' := by
  go_enter Tryz.func115, Tryz.ntmps115
  go_wp2
  go_ret
  exact ⟨rfl, rfl⟩
theorem up_no (p : List UInt8) (w : World) (h : ¬ p = [46, 46]) :
    Calls Tryz.prog 115 #[.string ⟨p.toArray⟩] w fun e w' => e = .returned (.bool false) ∧ w = w' := by
  have hp5 : (p == [46, 46]) = false := by simpa using h
  go_enter Tryz.func115, Tryz.ntmps115
  go_wp2
  go_ret
  exact ⟨by simp, rfl⟩

theorem stays_any (l : List (List UInt8)) (r : Bool) (B : Nat) (v : Value) (w : World) (hown : w.ownsRow B 9 1 v l.length (S l)) (_hB : B ≤ w.heap.size) :
    Calls Tryz.prog 114 #[.agg #[.bool r, v]] w (RoutePost B v r l w) := by
  obtain ⟨sv, sc, hsv⟩ := own_slice hown
  subst hsv
  go_enter Tryz.func114, Tryz.ntmps114
  go_wp2
  exact bodyPost_ret (v := .agg #[.bool r, .slice sv l.length sc]) (by simp [results, Tryz.results114, go_sem]) rfl ⟨_, rfl, (hown.alloc _).alloc _, only_alloc (only_alloc (only_refl _ _) _) _⟩

def ruleObj : Obj := .cells #[.func (.func 113) #[] #[], .func (.func 114) #[] #[], .func (.func 115) #[] #[], .func (.func 116) #[] #[]] 140
theorem rules_any (w : World) : Calls Tryz.prog 106 #[] w fun e w' => e = .returned (.slice (some ⟨w.heap.size, 0, none⟩) 2 2) ∧ w' = w.alloc ruleObj := by
  go_enter Tryz.func106, Tryz.ntmps106
  go_wp2
  go_ret
  exact ⟨rfl, rfl⟩

/-- What is stored into a block of another type leaves a row of texts alone. -/
theorem own_set {w : World} {B n b o : Nat} {v u : Value} {xs : List Value} {cs : Array Value} {T : TypeId} {fr : Nat × Nat} (h : w.ownsRow B 9 1 v n xs) (hb : w.heap[b]? = some (.cells cs T fr)) (hT : T ≠ 9) :
    (w.setCell ⟨b, o, none⟩ u).ownsRow B 9 1 v n xs :=
  h.kept (row := some b) ⟨rfl, rfl, rfl, by simp [World.setCell], fun k _ hk => Below.heap_setCell _ _ _ _ (fun e => hk (by simp [e]))⟩ (Or.inr (Lib.ownBlock_ne h hb hT))
theorem block_set {w : World} {b o : Nat} {u : Value} {cs : Array Value} {T : TypeId} {fr : Nat × Nat} (hb : w.heap[b]? = some (.cells cs T fr)) : (w.setCell ⟨b, o, none⟩ u).heap[b]? = some (.cells (cs.setIfInBounds o u) T fr) := by
  simp [World.setCell, Array.getElem?_modify, hb]

set_option maxHeartbeats 1000000 in
theorem goesUp_pop (a : List (List UInt8)) (q : List UInt8) (r : Bool) (B : Nat) (v : Value) (w : World) (hown : w.ownsRow B 9 1 v (a.length + 1) (S (a ++ [q]))) (_hB : B ≤ w.heap.size) (hq : ¬ q = dots) (hl : a.length ≤ 10000) :
    Calls Tryz.prog 116 #[.agg #[.bool r, v]] w (RoutePost B v r a w) := by
  obtain ⟨g, c, hsv, hg1, hg2, hc1, hc2, hlast⟩ := own_last hown
  subst hsv
  unfold maxLen at hc2
  have hq1 : ¬ q = [46, 46] := hq
  have hq2 : (q == [46, 46]) = false := by simpa using hq1
  clear hq
  have hl1 : ∀ o1 o2, ((w.alloc o1).alloc o2).cell? ⟨g, a.length, none⟩ = some (.string ⟨q.toArray⟩) := fun o1 o2 => by
    rw [World.cell?_alloc_lt _ _ _ (by simp; omega), World.cell?_alloc_lt _ _ _ hg2]; exact hlast
  go_enter Tryz.func116, Tryz.ntmps116
  go_wp2
  exact bodyPost_ret (v := .agg #[.bool r, .slice (some ⟨g, 0, none⟩) a.length c]) (by simp [results, Tryz.results116, go_sem]) rfl ⟨_, rfl, ((own_pop hown).alloc _).alloc _, only_alloc (only_alloc (only_refl _ _) _) _⟩

set_option maxHeartbeats 1000000 in
theorem goesUp_stay (l : List (List UInt8)) (B : Nat) (v : Value) (w : World) (hown : w.ownsRow B 9 1 v l.length (S l)) (_hB : B ≤ w.heap.size) (hq : l = [] ∨ ∃ a, l = a ++ [dots]) (hl : l.length ≤ 10000) :
    Calls Tryz.prog 116 #[.agg #[.bool true, v]] w (RoutePost B v true l w) := by
  rcases hq with rfl | ⟨a, rfl⟩
  · obtain ⟨sv, sc, hsv⟩ := own_slice hown
    subst hsv
    go_enter Tryz.func116, Tryz.ntmps116
    go_wp2
    exact bodyPost_ret (v := .agg #[.bool true, .slice sv 0 sc]) (by simp [results, Tryz.results116, go_sem]) rfl ⟨_, rfl, (hown.alloc _).alloc _, only_alloc (only_alloc (only_refl _ _) _) _⟩
  · have hn : (a ++ [dots]).length = a.length + 1 := by simp
    rw [hn] at hown hl
    obtain ⟨g, c, hsv, hg1, hg2, hc1, hc2, hlast⟩ := own_last hown
    subst hsv
    unfold maxLen at hc2
    unfold dots at hlast
    have hl1 : ∀ o1 o2, ((w.alloc o1).alloc o2).cell? ⟨g, a.length, none⟩ = some (.string ⟨#[46, 46]⟩) := fun o1 o2 => by
      rw [World.cell?_alloc_lt _ _ _ (by simp; omega), World.cell?_alloc_lt _ _ _ hg2]; exact hlast
    clear hn
    go_enter Tryz.func116, Tryz.ntmps116
    go_wp2
    exact bodyPost_ret (v := .agg #[.bool true, .slice (some ⟨g, 0, none⟩) (a.length + 1) c]) (by simp [results, Tryz.results116, go_sem]) rfl ⟨_, rfl, by rw [List.length_append]; exact (hown.alloc _).alloc _, only_alloc (only_alloc (only_refl _ _) _) _⟩

/-- The two blocks of a struct's argument and result, behind an append. -/
theorem two_blocks {w w2 : World} {o1 o2 : Obj} {row : Option Nat} {B : Nat} (hg : ((w.alloc o1).alloc o2).grownBy w2 row) (hr : ∀ k, row = some k → B ≤ k ∧ k < w.heap.size) :
    w2.heap[w.heap.size]? = some o1 ∧ w2.heap[w.heap.size + 1]? = some o2 := by
  constructor
  · rw [hg.block w.heap.size (by simp; omega) (fun e => by have := (hr _ e.symm).2; omega), Below.heap_alloc _ _ _ (by simp)]
    exact heap_alloc_new w o1
  · rw [hg.block (w.heap.size + 1) (by simp) (fun e => by have := (hr _ e.symm).2; omega)]
    have := heap_alloc_new (w.alloc o1) o2
    simpa using this

/-- The stores into the struct's two blocks leave the row of texts alone, and all below. -/
theorem stored_own {w2 : World} {B n m b : Nat} {v u0 u1 u2 : Value} {xs : List Value} {c1 c2 : Array Value} (h : w2.ownsRow B 9 1 v n xs) (k0 : w2.heap[b]? = some (.cells c1 110 (0, 0))) (k1 : w2.heap[b + 1]? = some (.cells c2 110 (0, 0))) :
    (((w2.setCell ⟨b, m, none⟩ u0).setCell ⟨b + 1, 0, none⟩ u1).setCell ⟨b + 1, 1, none⟩ u2).ownsRow B 9 1 v n xs := by
  have k2 : (w2.setCell ⟨b, m, none⟩ u0).heap[b + 1]? = some (.cells c2 110 (0, 0)) := (Below.heap_setCell _ _ _ _ (by simp)).trans k1
  exact own_set (own_set (own_set h k0 (by decide)) k2 (by decide)) (block_set k2) (by decide)
theorem stored_only {w w2 : World} {row : Option Nat} {m : Nat} {u0 u1 u2 : Value} (h : w.grownBy w2 row) : w.grownBy (((w2.setCell ⟨w.heap.size, m, none⟩ u0).setCell ⟨w.heap.size + 1, 0, none⟩ u1).setCell ⟨w.heap.size + 1, 1, none⟩ u2) row :=
  only_set (only_set (only_set h (p := ⟨w.heap.size, m, none⟩) (Nat.le_refl _) _) (p := ⟨w.heap.size + 1, 0, none⟩) (Nat.le_succ _) _) (p := ⟨w.heap.size + 1, 1, none⟩) (Nat.le_succ _) _

set_option maxHeartbeats 1000000 in
theorem goesUp_up (l : List (List UInt8)) (B : Nat) (v : Value) (w : World) (hown : w.ownsRow B 9 1 v l.length (S l)) (hB : B ≤ w.heap.size) (hq : l = [] ∨ ∃ a, l = a ++ [dots]) (hl : l.length ≤ 10000) :
    Calls Tryz.prog 116 #[.agg #[.bool false, v]] w (RoutePost B v false (l ++ [dots]) w) := by
  rcases hq with rfl | ⟨a, rfl⟩
  · obtain ⟨sv, sc, hsv⟩ := own_slice hown
    subst hsv
    go_enter Tryz.func116, Tryz.ntmps116
    go_wp2_with (at_builtin; refine wpApp rfl _ _ rfl B (.slice sv 0 sc) [] dots rfl rfl ((hown.alloc _).alloc _) _ rfl (by simp) (by simp) (by simp; omega) ?_)
    intro v' w2 hown2 hb2 hg2
    obtain ⟨k0, k1⟩ := two_blocks hg2 (fun k hk => hown.lt k hk)
    obtain ⟨sv', sc', hsv'⟩ := own_slice hown2
    subst hsv'
    have d0 : w2.cell? ⟨w.heap.size, 0, none⟩ = some (.bool false) := by rw [Lib.cell_of_heap k0]; rfl
    have d1 : w2.cell? ⟨w.heap.size, 1, none⟩ = some (.slice sv 0 sc) := by rw [Lib.cell_of_heap k0]; rfl
    have e0 : w2.cell? ⟨w.heap.size + 1, 0, none⟩ = some (.bool false) := by rw [Lib.cell_of_heap k1]; rfl
    have e1 : w2.cell? ⟨w.heap.size + 1, 1, none⟩ = some (.slice none 0 0) := by rw [Lib.cell_of_heap k1]; rfl
    have f1 : w2.frozen? ⟨w.heap.size, 1, none⟩ = false := Lib.frozen_of_heap k0 1
    have g0 : w2.frozen? ⟨w.heap.size + 1, 0, none⟩ = false := Lib.frozen_of_heap k1 0
    have g1 : w2.frozen? ⟨w.heap.size + 1, 1, none⟩ = false := Lib.frozen_of_heap k1 1
    go_wp2
    exact bodyPost_ret (v := .agg #[.bool false, .slice sv' (0 + 1) sc']) (by simp [results, Tryz.results116, go_sem, e0, e1]) rfl ⟨_, rfl, by simpa using stored_own hown2 k0 k1, stored_only (only_trans (only_alloc (only_alloc (only_refl _ _) _) _) hg2 (fun i hi => .inl hi))⟩
  · have hn : (a ++ [dots]).length = a.length + 1 := by simp
    have hown0 := hown
    rw [hn] at hown hl
    obtain ⟨g, c, hsv, hg1, hg2, hc1, hc2, hlast⟩ := own_last hown
    subst hsv
    unfold maxLen at hc2
    unfold dots at hlast
    have hl1 : ∀ o1 o2, ((w.alloc o1).alloc o2).cell? ⟨g, a.length, none⟩ = some (.string ⟨#[46, 46]⟩) := fun o1 o2 => by
      rw [World.cell?_alloc_lt _ _ _ (by simp; omega), World.cell?_alloc_lt _ _ _ hg2]; exact hlast
    clear hn
    go_enter Tryz.func116, Tryz.ntmps116
    go_wp2_with (at_builtin; refine wpApp rfl _ _ rfl B (.slice (some ⟨g, 0, none⟩) (a.length + 1) c) (a ++ [dots]) dots rfl rfl ((hown0.alloc _).alloc _) _ rfl (by simp) (by simp; omega) (by simp; omega) ?_)
    intro v' w2 hown2 hb2 hg2
    obtain ⟨k0, k1⟩ := two_blocks hg2 (fun k hk => hown.lt k hk)
    obtain ⟨sv', sc', hsv'⟩ := own_slice hown2
    subst hsv'
    have d0 : w2.cell? ⟨w.heap.size, 0, none⟩ = some (.bool false) := by rw [Lib.cell_of_heap k0]; rfl
    have d1 : w2.cell? ⟨w.heap.size, 1, none⟩ = some (.slice (some ⟨g, 0, none⟩) (a.length + 1) c) := by rw [Lib.cell_of_heap k0]; rfl
    have e0 : w2.cell? ⟨w.heap.size + 1, 0, none⟩ = some (.bool false) := by rw [Lib.cell_of_heap k1]; rfl
    have e1 : w2.cell? ⟨w.heap.size + 1, 1, none⟩ = some (.slice none 0 0) := by rw [Lib.cell_of_heap k1]; rfl
    have f1 : w2.frozen? ⟨w.heap.size, 1, none⟩ = false := Lib.frozen_of_heap k0 1
    have g0 : w2.frozen? ⟨w.heap.size + 1, 0, none⟩ = false := Lib.frozen_of_heap k1 0
    have g1 : w2.frozen? ⟨w.heap.size + 1, 1, none⟩ = false := Lib.frozen_of_heap k1 1
    go_wp2
    exact bodyPost_ret (v := .agg #[.bool false, .slice sv' ((a ++ [dots]).length + 1) sc']) (by simp [results, Tryz.results116, go_sem, e0, e1]) rfl ⟨_, rfl, by simpa using stored_own hown2 k0 k1, stored_only (only_trans (only_alloc (only_alloc (only_refl _ _) _) _) hg2 (fun i hi => .inl hi))⟩

end Go.Proofs.YtgcaplbeahjbmaaGreatDoor.D1

/- Walks: one part taken by the program's rules. -/
namespace Go.Proofs.YtgcaplbeahjbmaaGreatDoor.D1
open Go.RowKit Pth

/-- Which rules did not fit, by how many were asked. -/
def Passed (p : List UInt8) : Nat → Prop
  | 0 => True
  | 1 => ¬ (p = [] ∨ p = [46])
  | _ => ¬ (p = [] ∨ p = [46]) ∧ ¬ p = dots

def routeObj (r : Bool) (v : Value) : Obj := .cells #[.bool r, v] 110
def freshObj : Obj := .cells #[.bool false, .slice none 0 0] 110

/-- The world in which the rules are asked. -/
def Asked (w : World) (r : Bool) (v : Value) (wr : World) : Prop := Below (w.heap.size + 2) ((w.alloc (routeObj r v)).alloc freshObj) wr

theorem Asked.size {w wr : World} {r : Bool} {v : Value} (h : Asked w r v wr) : w.heap.size + 2 ≤ wr.heap.size := by
  have := Below.size h; simp at this; omega
theorem Asked.grown {w wr : World} {r : Bool} {v : Value} (h : Asked w r v wr) (row : Option Nat) : w.grownBy wr row :=
  ⟨(Below.os h).trans rfl, (Below.tape h).trans rfl, (Below.output h).trans rfl, by have := Asked.size h; omega, fun k hk _ => by
    rw [Below.block h k (by omega), Below.heap_alloc _ _ _ (by simp; omega), Below.heap_alloc _ _ _ hk]⟩
theorem Asked.one {w wr : World} {r : Bool} {v : Value} (h : Asked w r v wr) : wr.heap[w.heap.size]? = some (routeObj r v) := by
  rw [Below.block h _ (by omega), Below.heap_alloc _ _ _ (by simp)]; exact heap_alloc_new w _
theorem Asked.two {w wr : World} {r : Bool} {v : Value} (h : Asked w r v wr) : wr.heap[w.heap.size + 1]? = some freshObj := by
  rw [Below.block h _ (by omega)]
  have := heap_alloc_new (w.alloc (routeObj r v)) freshObj
  simpa using this
theorem Asked.alloc {w wr : World} {r : Bool} {v : Value} (h : Asked w r v wr) (o : Obj) : Asked w r v (wr.alloc o) := Below.alloc h (Asked.size h) o

/-- The route that came out is stored as the result. -/
theorem stored_two {w2 : World} {B n b : Nat} {v u1 u2 : Value} {xs : List Value} {c2 : Array Value} (h : w2.ownsRow B 9 1 v n xs) (k1 : w2.heap[b]? = some (.cells c2 110 (0, 0))) :
    ((w2.setCell ⟨b, 0, none⟩ u1).setCell ⟨b, 1, none⟩ u2).ownsRow B 9 1 v n xs :=
  own_set (own_set h k1 (by decide)) (block_set k1) (by decide)
theorem stored_two_only {w w2 : World} {row : Option Nat} {b : Nat} {u1 u2 : Value} (h : w.grownBy w2 row) (hb : w.heap.size ≤ b) : w.grownBy ((w2.setCell ⟨b, 0, none⟩ u1).setCell ⟨b, 1, none⟩ u2) row :=
  only_set (only_set h (p := ⟨b, 0, none⟩) hb _) (p := ⟨b, 1, none⟩) hb _

theorem goesUp_any (l : List (List UInt8)) (r : Bool) (B : Nat) (v : Value) (w : World) (hown : w.ownsRow B 9 1 v l.length (S l)) (hB : B ≤ w.heap.size) (hl : l.length ≤ 10000) :
    Calls Tryz.prog 116 #[.agg #[.bool r, v]] w (RoutePost B v r (pstep r l dots) w) := by
  rcases last_of l with rfl | ⟨a, q, rfl⟩
  · cases r
    · rw [pstep_up0]; exact goesUp_up [] B v w hown hB (.inl rfl) hl
    · rw [pstep_stay0]; exact goesUp_stay [] B v w hown hB (.inl rfl) hl
  · by_cases hq : q = dots
    · subst hq
      cases r
      · rw [pstep_up]; exact goesUp_up _ B v w hown hB (.inr ⟨a, rfl⟩) hl
      · rw [pstep_stay]; exact goesUp_stay _ B v w hown hB (.inr ⟨a, rfl⟩) hl
    · rw [pstep_drop hq]
      rw [List.length_append, List.length_singleton] at hown hl
      exact goesUp_pop a q r B v w hown hB hq (by omega)

set_option maxHeartbeats 2000000 in
theorem takePart_any (l : List (List UInt8)) (p : List UInt8) (r : Bool) (B gr : Nat) (v : Value) (w : World) (hown : w.ownsRow B 9 1 v l.length (S l)) (hB : B ≤ w.heap.size) (hl : l.length ≤ 10000)
    (hr : w.heap[gr]? = some ruleObj) :
    Calls Tryz.prog 108 #[.slice (some ⟨gr, 0, none⟩) 2 2, .agg #[.bool r, v], .string ⟨p.toArray⟩] w (RoutePost B v r (pstep r l p) w) := by
  obtain ⟨sv, sc, hsv⟩ := own_slice hown
  subst hsv
  have hgr := lt_of_block hr
  go_enter Tryz.func108, Tryz.ntmps108
  go_wp2_with fail
  go_loopw [11] (fun i wr => ∃ k : Nat, k ≤ 2 ∧ i = .int .i64 k ∧ Asked w r (.slice sv l.length sc) wr ∧ wr.ownsRow B 9 1 (.slice sv l.length sc) l.length (S l) ∧ Passed p k) (fun i _ => 2 - (intOf i).toNat)
  case atStart => exact ⟨0, by omega, rfl, Below.refl _ _, (hown.alloc _).alloc _, trivial⟩
  case round =>
    obtain ⟨k, hk, rfl, hA, ho, hP⟩ := hrel
    have hsz := hA.size
    have hru : wr.heap[gr]? = some ruleObj := by rw [(hA.grown none).block gr hgr (by simp)]; exact hr
    have r0 : wr.cell? ⟨gr, 0, none⟩ = some (.func (.func 113) #[] #[]) := by rw [Lib.cell_of_heap hru]; rfl
    have r1 : wr.cell? ⟨gr, 1, none⟩ = some (.func (.func 114) #[] #[]) := by rw [Lib.cell_of_heap hru]; rfl
    have r2 : wr.cell? ⟨gr, 2, none⟩ = some (.func (.func 115) #[] #[]) := by rw [Lib.cell_of_heap hru]; rfl
    have r3 : wr.cell? ⟨gr, 3, none⟩ = some (.func (.func 116) #[] #[]) := by rw [Lib.cell_of_heap hru]; rfl
    have q0 : ∀ o, (wr.alloc o).cell? ⟨w.heap.size, 0, none⟩ = some (.bool r) := fun o => by rw [World.cell?_alloc_lt _ _ _ (by show w.heap.size < _; omega), Lib.cell_of_heap hA.one]; rfl
    have q1 : ∀ o, (wr.alloc o).cell? ⟨w.heap.size, 1, none⟩ = some (.slice sv l.length sc) := fun o => by rw [World.cell?_alloc_lt _ _ _ (by show w.heap.size < _; omega), Lib.cell_of_heap hA.one]; rfl
    rcases k with _ | _ | _ | k
    · by_cases hp : p = [] ∨ p = [46]
      · have HP := Lib.hid (pstep_skip (b := r) (acc := l) hp)
        have HQ := Lib.hid hp
        clear hp
        go_wp2_with (first | (go_at_call 113; refine (nothing_yes p _ HQ.out).mono ?_; rintro e w' ⟨rfl, rfl⟩) | (go_at_call 114; refine (stays_any l r B _ _ (ho.alloc _) (by simp; omega)).mono ?_))
        rintro e w2 ⟨v2, rfl, hown2, hg2⟩
        obtain ⟨sv2, sc2, hsv2⟩ := own_slice hown2
        subst hsv2
        have k1 : w2.heap[w.heap.size + 1]? = some (.cells #[.bool false, .slice none 0 0] 110 (0, 0)) := by
          rw [hg2.block (w.heap.size + 1) (by simp; omega) (fun e => by have := (hown.lt _ e.symm).2; omega), Below.heap_alloc _ _ _ (by omega)]
          exact hA.two
        have e0 : w2.cell? ⟨w.heap.size + 1, 0, none⟩ = some (.bool false) := by rw [Lib.cell_of_heap k1]; rfl
        have e1 : w2.cell? ⟨w.heap.size + 1, 1, none⟩ = some (.slice none 0 0) := by rw [Lib.cell_of_heap k1]; rfl
        have g0 : w2.frozen? ⟨w.heap.size + 1, 0, none⟩ = false := Lib.frozen_of_heap k1 0
        have g1 : w2.frozen? ⟨w.heap.size + 1, 1, none⟩ = false := Lib.frozen_of_heap k1 1
        go_wp2
        exact bodyPost_ret (v := .agg #[.bool r, .slice sv2 l.length sc2]) (by simp [results, Tryz.results108, go_sem, e0, e1]) rfl ⟨_, rfl, stored_two (by rw [HP.out]; exact hown2) k1, stored_two_only (only_trans ((hA.alloc _).grown _) hg2 (fun i hi => .inl hi)) (by omega)⟩
      · have HQ : Hid (Passed p 1) := hp
        have hp1 : ¬ p = [] := fun h => hp (.inl h)
        have hp2 : ¬ p = [46] := fun h => hp (.inr h)
        clear hp hP
        have HN1 := Lib.hid hp1
        have HN2 := Lib.hid hp2
        clear hp1 hp2
        go_wp2_with (go_at_call 113; refine (nothing_no p _ HN1.out HN2.out).mono ?_; rintro e w' ⟨rfl, rfl⟩)
        go_roundw
        case rel => exact ⟨1, by omega, rfl, hA.alloc _, ho.alloc _, HQ.out⟩
        case measure => simp [intOf]
    · by_cases hp : p = dots
      · subst hp
        clear hP
        have hp46 : (⟨dots.toArray⟩ : ByteArray) = ⟨#[46, 46]⟩ := rfl
        rw [hp46]
        clear hp46
        go_wp2_with (first | (go_at_call 115; refine (up_yes _).mono ?_; rintro e w' ⟨rfl, rfl⟩) | (go_at_call 116; refine (goesUp_any l r B _ _ (ho.alloc _) (by simp; omega) hl).mono ?_))
        rintro e w2 ⟨v2, rfl, hown2, hg2⟩
        obtain ⟨sv2, sc2, hsv2⟩ := own_slice hown2
        subst hsv2
        have k1 : w2.heap[w.heap.size + 1]? = some (.cells #[.bool false, .slice none 0 0] 110 (0, 0)) := by
          rw [hg2.block (w.heap.size + 1) (by simp; omega) (fun e => by have := (hown.lt _ e.symm).2; omega), Below.heap_alloc _ _ _ (by omega)]
          exact hA.two
        have e0 : w2.cell? ⟨w.heap.size + 1, 0, none⟩ = some (.bool false) := by rw [Lib.cell_of_heap k1]; rfl
        have e1 : w2.cell? ⟨w.heap.size + 1, 1, none⟩ = some (.slice none 0 0) := by rw [Lib.cell_of_heap k1]; rfl
        have g0 : w2.frozen? ⟨w.heap.size + 1, 0, none⟩ = false := Lib.frozen_of_heap k1 0
        have g1 : w2.frozen? ⟨w.heap.size + 1, 1, none⟩ = false := Lib.frozen_of_heap k1 1
        go_wp2
        exact bodyPost_ret (v := .agg #[.bool r, .slice sv2 (pstep r l dots).length sc2]) (by simp [results, Tryz.results108, go_sem, e0, e1]) rfl ⟨_, rfl, stored_two hown2 k1, stored_two_only (only_trans ((hA.alloc _).grown _) hg2 (fun i hi => .inl hi)) (by omega)⟩
      · have HQ : Hid (Passed p 2) := ⟨hP, hp⟩
        have HN1 : Hid (¬ p = [46, 46]) := hp
        clear hp hP
        go_wp2_with (go_at_call 115; refine (up_no p _ HN1.out).mono ?_; rintro e w' ⟨rfl, rfl⟩)
        go_roundw
        case rel => exact ⟨2, by omega, rfl, hA.alloc _, ho.alloc _, HQ.out⟩
        case measure => simp [intOf]
    · have HP := Lib.hid (pstep_name (b := r) (acc := l) (fun h => hP.1 (.inl h)) (fun h => hP.1 (.inr h)) hP.2)
      clear hP q0 q1
      have q0 : wr.cell? ⟨w.heap.size, 0, none⟩ = some (.bool r) := by rw [Lib.cell_of_heap hA.one]; rfl
      have q1 : wr.cell? ⟨w.heap.size, 1, none⟩ = some (.slice sv l.length sc) := by rw [Lib.cell_of_heap hA.one]; rfl
      go_wp2_with (at_builtin; refine wpApp rfl _ _ rfl B (.slice sv l.length sc) l p rfl rfl ho _ rfl (by simp) (by omega) (by omega) ?_)
      intro v' w2 hown2 hb2 hg2
      have k0 : w2.heap[w.heap.size]? = some (.cells #[.bool r, .slice sv l.length sc] 110 (0, 0)) := by
        rw [hg2.block w.heap.size (by omega) (fun e => by have := (hown.lt _ e.symm).2; omega)]; exact hA.one
      have k1 : w2.heap[w.heap.size + 1]? = some (.cells #[.bool false, .slice none 0 0] 110 (0, 0)) := by
        rw [hg2.block (w.heap.size + 1) (by omega) (fun e => by have := (hown.lt _ e.symm).2; omega)]; exact hA.two
      obtain ⟨sv', sc', hsv'⟩ := own_slice hown2
      subst hsv'
      have d0 : w2.cell? ⟨w.heap.size, 0, none⟩ = some (.bool r) := by rw [Lib.cell_of_heap k0]; rfl
      have d1 : w2.cell? ⟨w.heap.size, 1, none⟩ = some (.slice sv l.length sc) := by rw [Lib.cell_of_heap k0]; rfl
      have e0 : w2.cell? ⟨w.heap.size + 1, 0, none⟩ = some (.bool false) := by rw [Lib.cell_of_heap k1]; rfl
      have e1 : w2.cell? ⟨w.heap.size + 1, 1, none⟩ = some (.slice none 0 0) := by rw [Lib.cell_of_heap k1]; rfl
      have f1 : w2.frozen? ⟨w.heap.size, 1, none⟩ = false := Lib.frozen_of_heap k0 1
      have g0 : w2.frozen? ⟨w.heap.size + 1, 0, none⟩ = false := Lib.frozen_of_heap k1 0
      have g1 : w2.frozen? ⟨w.heap.size + 1, 1, none⟩ = false := Lib.frozen_of_heap k1 1
      go_wp2
      exact bodyPost_ret (v := .agg #[.bool r, .slice sv' (l.length + 1) sc']) (by simp [results, Tryz.results108, go_sem, e0, e1]) rfl ⟨_, rfl, by rw [HP.out]; simpa using stored_own hown2 k0 k1, stored_only (only_trans (hA.grown _) hg2 (fun i hi => .inl hi))⟩
    · omega

end Go.Proofs.YtgcaplbeahjbmaaGreatDoor.D1

/- Walks: the program's route of a path. -/
namespace Go.Proofs.YtgcaplbeahjbmaaGreatDoor.D1
open Go.RowKit Pth

/-- c ahead of the first one. -/
def hang (c : List UInt8) : List (List UInt8) → List (List UInt8)
  | [] => [c]
  | h :: t => (c ++ h) :: t
theorem hang_nil (l : List (List UInt8)) (h : ¬ l = []) : hang [] l = l := by
  cases l with
  | nil => exact absurd rfl h
  | cons x t => rfl
theorem hang_hang (a b : List UInt8) (l : List (List UInt8)) : hang a (hang b l) = hang (a ++ b) l := by cases l <;> simp [hang]
theorem splitK_ne (k : Nat) (s : List UInt8) : ¬ Lib.splitK [47] 0 k s = [] := by
  cases k with
  | zero => simp [Lib.splitK]
  | succ k => unfold Lib.splitK; split <;> simp
theorem splitK_other (c : UInt8) (hc : ¬ c = 47) (k : Nat) (r : List UInt8) (hk : k = 0 ∨ ¬ Lib.index r [47] = -1) : Lib.splitK [47] 0 k (c :: r) = hang [c] (Lib.splitK [47] 0 k r) := by
  cases k with
  | zero => rfl
  | succ k =>
    have hi : ¬ Lib.index r [47] = -1 := hk.resolve_left (by omega)
    have hge := Lib.index_ge r [47]
    have hp : ([47] : List UInt8).isPrefixOf (c :: r) = false := by simp [List.isPrefixOf, Ne.symm hc]
    have hb : (Lib.index r [47] == -1) = false := by simpa using hi
    have hix : Lib.index (c :: r) [47] = Lib.index r [47] + 1 := by rw [Lib.index, hp, hb]; simp
    have hb2 : (Lib.index r [47] + 1 == -1) = false := by rw [beq_eq_false_iff_ne]; omega
    obtain ⟨j, hj⟩ : ∃ j : Nat, Lib.index r [47] = j := ⟨(Lib.index r [47]).toNat, by omega⟩
    unfold Lib.splitK
    rw [hix, hb, hb2, hj]
    have e1 : ((j : Int) + 1).toNat = j + 1 := by omega
    rw [e1]
    simp [hang]
theorem splitAux_eq (s : List UInt8) : ∀ cur, splitAux cur s = hang cur.reverse (Lib.splitK [47] 0 (Lib.count s [47]) s) := by
  induction s with
  | nil =>
    intro cur
    rw [Lib.count_miss (by simp [Lib.index])]
    simp [splitAux, Lib.splitK, hang]
  | cons c r ih =>
    intro cur
    rw [splitAux]
    by_cases hc : c = 47
    · subst hc
      have hix : Lib.index (47 :: r) [47] = 0 := by rw [Lib.index]; simp [List.isPrefixOf]
      rw [if_pos rfl, Lib.count_cons_eq, Nat.add_comm, Lib.splitK, hix, ih, List.reverse_nil, hang_nil _ (splitK_ne _ _)]
      simp [hang]
    · rw [if_neg hc, Lib.count_cons_ne c 47 r hc, ih, splitK_other c hc _ r, hang_hang]
      · simp
      · by_cases hi : Lib.index r [47] = -1
        · exact .inl (Lib.count_miss hi)
        · exact .inr hi
theorem split_eq (s : ByteArray) : (Lib.splitB ⟨#[47]⟩ 0 (Lib.countB s ⟨#[47]⟩) s).map (·.data.toList) = splitL s.data.toList := by
  rw [Lib.splitB_data]
  show Lib.splitK [47] 0 (Lib.count s.data.toList [47]) s.data.toList = _
  rw [splitL, splitAux_eq, List.reverse_nil, hang_nil _ (splitK_ne _ _)]
theorem split_cells (s : ByteArray) : (Lib.splitB ⟨#[47]⟩ 0 (Lib.countB s ⟨#[47]⟩) s).map Value.string = S (splitL s.data.toList) := by
  rw [← split_eq, S, List.map_map]
  rfl
theorem split_count (s : ByteArray) : Lib.countB s ⟨#[47]⟩ + 1 = (splitL s.data.toList).length := by
  rw [← split_eq, List.length_map, Lib.splitB_all ⟨#[47]⟩ (by decide) 0 _ s rfl]

theorem split_any (s : ByteArray) (m : Int) (w : World) (hs : s.size ≤ 1000) (hm : w.cell? ⟨0, 0, none⟩ = some (.int .i64 m)) :
    Calls Tryz.prog 107 #[.string s, .string ⟨#[47]⟩] w fun e w' =>
      e = .returned (.slice (some ⟨w.heap.size, 0, none⟩) (splitL s.data.toList).length (splitL s.data.toList).length) ∧ w' = w.alloc (.cells (S (splitL s.data.toList)).toArray 9) := by
  have h := Tryz.split_at s ⟨#[47]⟩ m w (by omega) hm (by decide)
  rw [split_cells, split_count] at h
  exact h

theorem prefix_eq (s : ByteArray) : Lib.hasPrefix s.data.toList [47] = rootedL s.data.toList := by
  unfold Lib.hasPrefix
  cases s.data.toList with
  | nil => rfl
  | cons c r =>
    show ((47 == c) && true) = (c == 47)
    rw [Bool.and_true, Bool.beq_comm]

theorem prefix_any (s : ByteArray) (w : World) : Calls Tryz.prog 105 #[.string s, .string ⟨#[47]⟩] w fun e w' => e = .returned (.bool (rootedL s.data.toList)) ∧ w = w' := by
  refine (Tryz.has_prefix s ⟨#[47]⟩ w).mono ?_
  rintro e w' ⟨rfl, rfl⟩
  exact ⟨ret_bool (prefix_eq s), rfl⟩

/-- The blocks that stand when the parts are taken. -/
def Base (w : World) (b : Bool) (cs : Array Value) : World :=
  (((w.alloc (.cells #[.bool false, .slice none 0 0] 110)).alloc (.cells #[.bool b, .slice none 0 0] 110)).alloc ruleObj).alloc (.cells cs 9)
theorem Base.size (w : World) (b : Bool) (cs : Array Value) : (Base w b cs).heap.size = w.heap.size + 4 := by simp [Base]
theorem Base.at0 (w : World) (b : Bool) (cs : Array Value) : (Base w b cs).heap[w.heap.size]? = some (.cells #[.bool false, .slice none 0 0] 110) := by
  unfold Base
  rw [Below.heap_alloc _ _ _ (by simp; omega), Below.heap_alloc _ _ _ (by simp; omega), Below.heap_alloc _ _ _ (by simp)]
  exact heap_alloc_new w _
theorem Base.at1 (w : World) (b : Bool) (cs : Array Value) : (Base w b cs).heap[w.heap.size + 1]? = some (.cells #[.bool b, .slice none 0 0] 110) := by
  unfold Base
  rw [Below.heap_alloc _ _ _ (by simp), Below.heap_alloc _ _ _ (by simp)]
  have := heap_alloc_new (w.alloc (.cells #[.bool false, .slice none 0 0] 110)) (.cells #[.bool b, .slice none 0 0] 110)
  simpa using this
theorem Base.at2 (w : World) (b : Bool) (cs : Array Value) : (Base w b cs).heap[w.heap.size + 2]? = some ruleObj := by
  unfold Base
  rw [Below.heap_alloc _ _ _ (by simp)]
  have := heap_alloc_new ((w.alloc (.cells #[.bool false, .slice none 0 0] 110)).alloc (.cells #[.bool b, .slice none 0 0] 110)) ruleObj
  simpa using this
theorem Base.at3 (w : World) (b : Bool) (cs : Array Value) : (Base w b cs).heap[w.heap.size + 3]? = some (.cells cs 9) := by
  unfold Base
  have := heap_alloc_new (((w.alloc (.cells #[.bool false, .slice none 0 0] 110)).alloc (.cells #[.bool b, .slice none 0 0] 110)).alloc ruleObj) (.cells cs 9)
  simpa using this
theorem Base.below (w : World) (b : Bool) (cs : Array Value) : Below w.heap.size w (Base w b cs) :=
  ((((Below.refl _ _).alloc (Nat.le_refl _) _).alloc (by simp) _).alloc (by simp; omega) _).alloc (by simp; omega) _

theorem only_row {a w : World} {g : Nat} (h : a.grownBy w (some g)) (o : Nat) (u : Value) : a.grownBy (w.setCell ⟨g, o, none⟩ u) (some g) :=
  ⟨h.os, h.tape, h.output, by simpa [World.setCell] using h.size, fun i hi hne => (Below.heap_setCell w ⟨g, o, none⟩ u i (fun e => hne (by rw [e]))).trans (h.block i hi hne)⟩

/-- A route that the call has made. -/
def NewRoute (b : Bool) (l : List (List UInt8)) (w : World) (e : Ending) (w' : World) : Prop :=
  ∃ v, e = .returned (.agg #[.bool b, v]) ∧ w'.ownsRow w.heap.size 9 1 v l.length (S l) ∧ Below w.heap.size w w'

set_option maxHeartbeats 2000000 in
theorem routeOf_any (s : ByteArray) (m : Int) (w : World) (hs : s.size ≤ 1000) (hm : w.cell? ⟨0, 0, none⟩ = some (.int .i64 m)) :
    Calls Tryz.prog 90 #[.string s] w (NewRoute (rootedL s.data.toList) (partsL s.data.toList) w) := by
  have h0 : 0 < w.heap.size := World.block_lt_of_cell? w ⟨0, 0, none⟩ hm
  have hls := split_len s
  go_enter Tryz.func90, Tryz.ntmps90
  go_wp2_with fail
  refine (prefix_any s _).mono ?_
  rintro e w' ⟨rfl, rfl⟩
  go_wp2_with fail
  refine (rules_any _).mono ?_
  rintro e w' ⟨rfl, rfl⟩
  go_wp2_with fail
  refine (split_any s m _ hs ?_).mono ?_
  · rw [World.cell?_alloc_lt _ _ _ (by simp), World.cell?_alloc_lt _ _ _ (by simp), World.cell?_alloc_lt _ _ _ h0]
    exact hm
  rintro e w' ⟨rfl, rfl⟩
  go_wp2_with fail
  have hBs := Base.size w (rootedL s.data.toList) (S (splitL s.data.toList)).toArray
  have hB1 := Base.at1 w (rootedL s.data.toList) (S (splitL s.data.toList)).toArray
  have hB2 := Base.at2 w (rootedL s.data.toList) (S (splitL s.data.toList)).toArray
  have hB3 := Base.at3 w (rootedL s.data.toList) (S (splitL s.data.toList)).toArray
  have hB0 := Base.at0 w (rootedL s.data.toList) (S (splitL s.data.toList)).toArray
  have hBb := Base.below w (rootedL s.data.toList) (S (splitL s.data.toList)).toArray
  go_loopw [14] (fun i wr => ∃ (acc : List (List UInt8)) (k : Nat) (v : Value), k ≤ (splitL s.data.toList).length ∧ acc.length ≤ k ∧ i = .int .i64 k ∧ wr.heap[w.heap.size + 1]? = some (.cells #[.bool (rootedL s.data.toList), v] 110) ∧
      wr.ownsRow (w.heap.size + 4) 9 1 v acc.length (S acc) ∧ (Base w (rootedL s.data.toList) (S (splitL s.data.toList)).toArray).grownBy wr (some (w.heap.size + 1)) ∧
      Hid (partsL s.data.toList = partsFrom (rootedL s.data.toList) acc ((splitL s.data.toList).drop k))) (fun i _ => (splitL s.data.toList).length - (intOf i).toNat)
  case atStart => exact ⟨[], 0, .slice none 0 0, Nat.zero_le _, by simp, rfl, hB1, World.ownsRow_nil _ _ _ _, only_refl _ _, rfl⟩
  case round =>
    obtain ⟨acc, k, v, hk, hal, rfl, hcr, hown, hg, HS⟩ := hrel
    have hsz := hg.size
    rw [hBs] at hsz
    obtain ⟨sv, sc, hsv⟩ := own_slice hown
    subst hsv
    have c0 : wr.cell? ⟨w.heap.size + 1, 0, none⟩ = some (.bool (rootedL s.data.toList)) := by rw [Lib.cell_of_heap hcr]; rfl
    have c1 : wr.cell? ⟨w.heap.size + 1, 1, none⟩ = some (.slice sv acc.length sc) := by rw [Lib.cell_of_heap hcr]; rfl
    by_cases hlt : k < (splitL s.data.toList).length
    · have h3 : wr.heap[w.heap.size + 1 + 1 + 1]? = some (.cells (S (splitL s.data.toList)).toArray 9) := by
        rw [hg.block (w.heap.size + 1 + 1 + 1) (by omega) (by simp; omega)]; exact hB3
      have h2 : wr.heap[w.heap.size + 1 + 1]? = some ruleObj := by
        rw [hg.block (w.heap.size + 1 + 1) (by omega) (by simp)]; exact hB2
      have hcell : wr.cell? ⟨w.heap.size + 1 + 1 + 1, k, none⟩ = some (.string ⟨((splitL s.data.toList)[k]).toArray⟩) := by
        rw [Lib.cell_of_heap h3, List.getElem?_toArray, S_at hlt]
      have HS2 : Hid (partsL s.data.toList = partsFrom (rootedL s.data.toList) (pstep (rootedL s.data.toList) acc ((splitL s.data.toList)[k])) ((splitL s.data.toList).drop (k + 1))) := parts_step hlt rfl HS.out
      have hpl : ∀ p, (pstep (rootedL s.data.toList) acc p).length ≤ acc.length + 1 := fun p => by
        unfold pstep
        repeat' split
        all_goals first | omega | (simp; done) | (simp; omega)
      generalize (splitL s.data.toList)[k] = p at hcell HS2
      have hpl' := hpl p
      clear HS hpl h3
      go_wp2_with fail
      refine (takePart_any acc p _ (w.heap.size + 4) _ _ _ hown (by omega) (by omega) h2).mono ?_
      rintro e w2 ⟨v2, rfl, hown2, hg2⟩
      obtain ⟨sv2, sc2, hsv2⟩ := own_slice hown2
      subst hsv2
      have k1 : w2.heap[w.heap.size + 1]? = some (.cells #[.bool (rootedL s.data.toList), .slice sv acc.length sc] 110) := by
        rw [hg2.block (w.heap.size + 1) (by omega) (fun e => by have := (hown.lt _ e.symm).1; omega)]; exact hcr
      have d0 : w2.cell? ⟨w.heap.size + 1, 0, none⟩ = some (.bool (rootedL s.data.toList)) := by rw [Lib.cell_of_heap k1]; rfl
      have d1 : w2.cell? ⟨w.heap.size + 1, 1, none⟩ = some (.slice sv acc.length sc) := by rw [Lib.cell_of_heap k1]; rfl
      have f0 : w2.frozen? ⟨w.heap.size + 1, 0, none⟩ = false := Lib.frozen_of_heap k1 0
      have f1 : w2.frozen? ⟨w.heap.size + 1, 1, none⟩ = false := Lib.frozen_of_heap k1 1
      go_wp2_with fail
      go_roundw
      case rel =>
        exact ⟨pstep (rootedL s.data.toList) acc p, k + 1, _, by omega, by omega, by go_num, (block_set (block_set k1)).trans rfl, stored_two hown2 k1,
          only_row (only_row (only_trans hg hg2 (fun i hi => .inr (by rw [hBs]; exact (hown.lt _ hi).1))) _ _) _ _, HS2⟩
      case measure => simp [intOf]; omega
    · have h0' : wr.heap[w.heap.size]? = some (.cells #[.bool false, .slice none 0 0] 110) := by
        rw [hg.block w.heap.size (by omega) (by simp)]; exact hB0
      have d0 : wr.cell? ⟨w.heap.size, 0, none⟩ = some (.bool false) := by rw [Lib.cell_of_heap h0']; rfl
      have d1 : wr.cell? ⟨w.heap.size, 1, none⟩ = some (.slice none 0 0) := by rw [Lib.cell_of_heap h0']; rfl
      have f0 : wr.frozen? ⟨w.heap.size, 0, none⟩ = false := Lib.frozen_of_heap h0' 0
      have f1 : wr.frozen? ⟨w.heap.size, 1, none⟩ = false := Lib.frozen_of_heap h0' 1
      have HE := Lib.hid (parts_end (k := k) (by omega) HS.out)
      have hbw : Below w.heap.size w wr := hBb.trans ⟨hg.os, hg.tape, hg.output, hg.size, fun i hi => hg.block i (by omega) (by simp; omega)⟩
      clear HS
      go_wp2_with fail
      exact bodyPost_ret (v := .agg #[.bool (rootedL s.data.toList), .slice sv acc.length sc]) (by simp [results, Tryz.results90, go_sem, d0, d1]) rfl
        ⟨_, rfl, by rw [HE.out]; exact own_base (stored_two hown h0') (by omega), (hbw.setCell (p := ⟨w.heap.size, 0, none⟩) (Nat.le_refl _) _).setCell (p := ⟨w.heap.size, 1, none⟩) (Nat.le_refl _) _⟩

end Go.Proofs.YtgcaplbeahjbmaaGreatDoor.D1

/- Walks: the program's clean path; the law that both programs clean alike. -/
namespace Go.Proofs.YtgcaplbeahjbmaaGreatDoor.D1
open Go.RowKit Pth

/-- No part is empty. -/
def Full (l : List (List UInt8)) : Prop := ∀ p ∈ l, ¬ p = []
theorem full_pstep {b : Bool} {acc : List (List UInt8)} {p : List UInt8} (h : Full acc) : Full (pstep b acc p) := by
  unfold pstep
  by_cases h0 : p = [] ∨ p = [46]
  · rw [if_pos h0]; exact h
  · have hp : ¬ p = [] := fun e => h0 (.inl e)
    have ha : Full (acc ++ [p]) := fun q hq => by
      rcases List.mem_append.1 hq with h1 | h1
      · exact h q h1
      · rw [List.mem_singleton.1 h1]; exact hp
    rw [if_neg h0]
    split
    · split
      · exact fun q hq => h q ((List.dropLast_sublist acc).subset hq)
      · split
        · exact h
        · exact ha
    · exact ha
theorem full_from {b : Bool} (r : List (List UInt8)) : ∀ acc, Full acc → Full (partsFrom b acc r) := by
  induction r with
  | nil => intro acc h; exact h
  | cons p t ih => intro acc h; exact ih _ (full_pstep h)
theorem full_parts (l : List UInt8) : Full (partsL l) := full_from _ [] (fun _ h => by simp at h)
theorem glue_nil {l : List (List UInt8)} (h : Full l) : glue l = [] ↔ l = [] := by
  cases l with
  | nil => simp [glue]
  | cons p t =>
    have hp := h p (by simp)
    cases t with
    | nil => simp [glue, hp]
    | cons q r => simp [glue]
theorem text_join {l : List (List UInt8)} (b : Bool) (h : Full l) : textL l b = joinL l b := by
  unfold textL joinL
  simp only [glue_nil h]

theorem isPath_eq {b : Bool} (s : ByteArray) (w : World) (hs : s.size ≤ maxLen) (hb : Hid (pathL s.data.toList = b)) :
    Calls Tryz.prog 88 #[.string s] w (BoolPost b w) := by
  have h := isPath_any s w hs
  rw [hb.out] at h
  exact h

/-- The library's variable lies where it lay. -/
theorem keep_max {w w' : World} {m : Int} (hm : w.cell? ⟨0, 0, none⟩ = some (.int .i64 m)) (hb : Below w.heap.size w w') : w'.cell? ⟨0, 0, none⟩ = some (.int .i64 m) := by
  rw [hb.cell (p := ⟨0, 0, none⟩) (World.block_lt_of_cell? w ⟨0, 0, none⟩ hm)]; exact hm
theorem bthen {w w1 w2 : World} (h : Below w.heap.size w w1) (k : Below w1.heap.size w1 w2) : Below w.heap.size w w2 := h.trans (k.mono h.size)

theorem cleanText_any (s : ByteArray) (v : Value) (B : Nat) (w : World) (hs : s.size ≤ 1000) (hown : w.ownsRow B 9 1 v (partsL s.data.toList).length (S (partsL s.data.toList))) :
    Calls Tryz.prog 89 #[.agg #[.bool (rootedL s.data.toList), v]] w (TextPost w.heap.size (cleanL s.data.toList) w) := by
  have h := routeText_any (partsL s.data.toList) (rootedL s.data.toList) B v w hown (by have := weigh_parts s; omega)
  rw [text_join _ (full_parts _)] at h
  exact h

set_option maxHeartbeats 1000000 in
theorem implClean_any (s : ByteArray) (m : Int) (w : World) (hs : s.size ≤ maxLen) (hm : w.cell? ⟨0, 0, none⟩ = some (.int .i64 m)) :
    Calls Tryz.prog 67 #[.string s] w (TwoPost (cleanT s.data.toList) (pathL s.data.toList) w) := by
  rcases hp : pathL s.data.toList with _ | _
  · have HT : Hid (cleanT s.data.toList = []) := by show cleanT _ = _; simp [cleanT, hp]
    have HP := Lib.hid hp
    clear hp
    go_enter Tryz.func67, Tryz.ntmps67
    go_wp2_with fail
    refine (isPath_eq s _ hs HP).mono ?_
    rintro e w1 ⟨rfl, hb1⟩
    go_wp2_with fail
    go_ret2
    exact ⟨by rw [HT.out] <;> rfl, hb1⟩
  · have HT : Hid (cleanT s.data.toList = cleanL s.data.toList) := by show cleanT _ = _; simp [cleanT, hp]
    have hsz := path_size hp
    have HP := Lib.hid hp
    clear hp
    go_enter Tryz.func67, Tryz.ntmps67
    go_wp2_with fail
    refine (isPath_eq s _ hs HP).mono ?_
    rintro e w1 ⟨rfl, hb1⟩
    go_wp2_with fail
    refine (routeOf_any s m _ (by omega) (keep_max hm hb1)).mono ?_
    rintro e w2 ⟨v2, rfl, hown2, hb2⟩
    go_wp2_with fail
    refine (cleanText_any s v2 _ _ (by omega) hown2).mono ?_
    rintro e w3 ⟨rfl, hb3⟩
    go_wp2_with fail
    go_ret2
    exact ⟨by rw [HT.out] <;> rfl, bthen (bthen hb1 hb2) hb3⟩

/-- The law says yes, and nothing that lay there has turned. -/
def YesPost (w : World) (e : Ending) (w' : World) : Prop := e = .returned (.bool true) ∧ Below w.heap.size w w'

end Go.Proofs.YtgcaplbeahjbmaaGreatDoor.D1

/- Walks: whether a path is clean; the place a path lies in, and its last part; both programs'. -/
namespace Go.Proofs.YtgcaplbeahjbmaaGreatDoor.D1
open Go.RowKit Pth

/-- What IsClean answers. -/
def isT (l : List UInt8) : Bool := pathL l && (cleanL l == l)
theorem isT_no {l : List UInt8} (h : pathL l = false) : isT l = false := by simp [isT, h]
theorem isT_yes {l : List UInt8} (h : pathL l = true) : isT l = (cleanL l == l) := by simp [isT, h]
theorem cleanT_no {l : List UInt8} (h : pathL l = false) : cleanT l = [] := by simp [cleanT, h]
theorem cleanT_yes {l : List UInt8} (h : pathL l = true) : cleanT l = cleanL l := by simp [cleanT, h]

/-- The contracts over a text as a list of bytes. -/
theorem l1Path_l {b : Bool} (l : List UInt8) (w : World) (hs : l.length ≤ maxLen) (hb : Hid (pathL l = b)) :
    Calls Tryz.prog 49 #[.string ⟨l.toArray⟩] w fun e w' => e = .returned (.bool b) ∧ w = w' := l1Path_eq ⟨l.toArray⟩ w hs hb
theorem l1Clean_l (l : List UInt8) (w : World) (hs : l.length ≤ 1000) :
    Calls Tryz.prog 50 #[.string ⟨l.toArray⟩] w (TextPost w.heap.size (cleanL l) w) := l1Clean_any ⟨l.toArray⟩ w hs
theorem l1Parts_l (l : List UInt8) (w : World) (hs : l.length ≤ 1000) :
    Calls Tryz.prog 58 #[.string ⟨l.toArray⟩] w (RowPost w.heap.size (partsL l) w) := l1Parts_any ⟨l.toArray⟩ w hs
theorem l1Rooted_l (l : List UInt8) (w : World) (hs : l.length ≤ maxLen) :
    Calls Tryz.prog 59 #[.string ⟨l.toArray⟩] w fun e w' => e = .returned (.bool (rootedL l)) ∧ w = w' := l1Rooted_any ⟨l.toArray⟩ w hs
theorem isPath_l {b : Bool} (l : List UInt8) (w : World) (hs : l.length ≤ maxLen) (hb : Hid (pathL l = b)) :
    Calls Tryz.prog 88 #[.string ⟨l.toArray⟩] w (BoolPost b w) := isPath_eq ⟨l.toArray⟩ w hs hb
theorem routeOf_l (l : List UInt8) (m : Int) (w : World) (hs : l.length ≤ 1000) (hm : w.cell? ⟨0, 0, none⟩ = some (.int .i64 m)) :
    Calls Tryz.prog 90 #[.string ⟨l.toArray⟩] w (NewRoute (rootedL l) (partsL l) w) := routeOf_any ⟨l.toArray⟩ m w hs hm
theorem weigh_l (l : List UInt8) : weigh (partsL l) ≤ l.length + 1 := weigh_parts ⟨l.toArray⟩
theorem path_len {l : List UInt8} (h : pathL l = true) : l.length ≤ 60 := path_size (s := ⟨l.toArray⟩) h

theorem implClean_l (l : List UInt8) (m : Int) (w : World) (hs : l.length ≤ maxLen) (hm : w.cell? ⟨0, 0, none⟩ = some (.int .i64 m)) :
    Calls Tryz.prog 67 #[.string ⟨l.toArray⟩] w (TwoPost (cleanT l) (pathL l) w) := implClean_any ⟨l.toArray⟩ m w hs hm

set_option maxHeartbeats 1000000 in
theorem implIs_l (l : List UInt8) (m : Int) (w : World) (hs : l.length ≤ maxLen) (hm : w.cell? ⟨0, 0, none⟩ = some (.int .i64 m)) :
    Calls Tryz.prog 60 #[.string ⟨l.toArray⟩] w (BothPost (isT l) (pathL l) w) := by
  have c := implClean_l l m w hs hm
  rcases hp : pathL l with _ | _
  · have HT := Lib.hid (isT_no hp)
    rw [hp, cleanT_no hp] at c
    have C := Lib.hid c
    clear hp c
    go_enter Tryz.func60, Tryz.ntmps60
    go_wp2_with fail
    refine C.out.mono ?_
    rintro e w1 ⟨rfl, hb1⟩
    go_wp2_with fail
    go_ret2
    exact ⟨by rw [HT.out] <;> rfl, hb1⟩
  · have HT := Lib.hid (isT_yes hp)
    rw [hp, cleanT_yes hp] at c
    have C := Lib.hid c
    clear hp c
    go_enter Tryz.func60, Tryz.ntmps60
    go_wp2_with fail
    refine C.out.mono ?_
    rintro e w1 ⟨rfl, hb1⟩
    go_wp2_with fail
    go_ret2
    exact ⟨by rw [HT.out] <;> rfl, hb1⟩

end Go.Proofs.YtgcaplbeahjbmaaGreatDoor.D1

/- Walks: the program's names of files, and whether files are good. -/
namespace Go.Proofs.YtgcaplbeahjbmaaGreatDoor
open Go.RowKit Pth

/-- The library's variable has some value. -/
def MaxAt (w : World) : Prop := ∃ m, w.cell? ⟨0, 0, none⟩ = some (.int .i64 m)
theorem MaxAt.below {w w' : World} (h : MaxAt w) (hb : Below w.heap.size w w') : MaxAt w' := by
  obtain ⟨m, hm⟩ := h
  exact ⟨m, D1.keep_max hm hb⟩
theorem nameOk_no {n : List UInt8} (h : D1.isT n = false) : nameOk n = false := by
  unfold nameOk
  unfold D1.isT at h
  rcases hp : pathL n with _ | _
  · rfl
  · rw [hp, Bool.true_and] at h
    rw [h]; simp
theorem nameOk_yes {n : List UInt8} (h : D1.isT n = true) : nameOk n = decide (n.length ≤ 20) := by
  unfold nameOk
  unfold D1.isT at h
  rw [Bool.and_eq_true] at h
  rw [h.1, h.2]; simp

set_option maxHeartbeats 1000000 in
theorem isFileName_any (n : List UInt8) (w : World) (hn : n.length ≤ maxLen) (hm : MaxAt w) :
    Calls Tryz.prog 52 #[.string ⟨n.toArray⟩] w (BoolPost (nameOk n) w) := by
  obtain ⟨m, hm⟩ := hm
  have D := D1.implIs_l n m w hn hm
  unfold maxLen at hn
  rcases h1 : D1.isT n with _ | _
  · have HT := Lib.hid (nameOk_no h1)
    rw [h1] at D
    have HD := Lib.hid D
    clear h1 D
    generalize pathL n = p at HD
    go_enter Tryz.func52, Tryz.ntmps52
    go_wp2_with fail
    refine HD.out.mono ?_
    rintro e w1 ⟨rfl, hb⟩
    go_wp2_with fail
    go_ret
    exact ⟨ret_bool HT.out.symm, hb⟩
  · have HT := Lib.hid (nameOk_yes h1)
    rw [h1] at D
    have HD := Lib.hid D
    clear h1 D
    generalize pathL n = p at HD
    go_enter Tryz.func52, Tryz.ntmps52
    go_wp2_with fail
    refine HD.out.mono ?_
    rintro e w1 ⟨rfl, hb⟩
    go_wp2_with fail
    go_ret
    exact ⟨ret_bool (by rw [HT.out]; go_num), hb⟩

end Go.Proofs.YtgcaplbeahjbmaaGreatDoor

/- What the rows of chapter 3 share: how files and stores that came in read; a world in which the listed tables lie, for the witness. -/
namespace Go.Proofs.YtgcaplbeahjbmaaGreatDoor
open Go.ChangeShapes Go.WideShapes Go.ChangeAt Go.RowKit Pth

theorem own : ownKnob Tryz.prog.godebug = none := by kernel_rfl
theorem laidOut : laidOutB Tryz.prog = true := by kernel_rfl

/-- The cells of the two tables. -/
def firstCells : Array Value := (Go.Pinned.utf8FirstZ.map fun (n : Nat) => Value.int .u8 (n : Int)).toArray
def acceptCells : Array Value := ([128, 191, 160, 191, 128, 159, 144, 191, 128, 143, 0, 0, 0, 0, 0, 0, 0, 0, 0, 0, 0, 0, 0, 0, 0, 0, 0, 0, 0, 0, 0, 0].map fun n => Value.int .u8 n).toArray
def refill (cs : Array Value) : Obj → Obj
  | .cells _ t fr => .cells cs t fr
  | o => o
/-- The settled world with both tables laid. -/
noncomputable def laidWorld (os : Os) : World :=
  { World.holding Tryz.prog os ⟨#[], #[], []⟩ with heap := ((World.holding Tryz.prog os ⟨#[], #[], []⟩).heap.modify 1 (refill firstCells)).modify 2 (refill acceptCells) }

/-- A slice of texts that came in. -/
theorem texts_cells {H : Type} {enc : TypeId × Value → H} {W : World} {fuel : Nat} {v : Value} {x : DataW H × List MemPlace}
    (h : DataW.trod enc Tryz.prog W 0 (fun _ => true) true fuel 23 [v] = some x) : ∃ l : List (List UInt8), RowV W v (S l) ∧ ∀ x ∈ l, x.length ≤ maxLen := by
  rcases open_strings Tryz.underlying23 Tryz.underlying9 (by kernel_rfl) h with ⟨hcs, _⟩ | ⟨x, len, cap, ss, hcs, _, hl, hm, hz, hx, hcell, hws⟩
  · simp at hcs
    subst hcs
    exact ⟨[], ⟨none, 0, rfl, Nat.le_refl _, by unfold maxLen; omega, fun k hk => absurd hk (by simp [S])⟩, fun x hx => by simp at hx⟩
  · simp at hcs
    subst hcs
    simp only [if_true] at hz
    have hlen : ((ss.take len).map (·.data.toList)).length = len := by rw [List.length_map, List.length_take]; omega
    refine ⟨(ss.take len).map (·.data.toList), ⟨some x, cap, by rw [S_len, hlen], by rw [S_len, hlen]; omega, by omega, fun k hk => ?_⟩, fun y hy => ?_⟩
    · rw [S_len, hlen] at hk
      have hc := hcell k (by omega)
      have h0 := hcell 0 (by omega)
      obtain ⟨b, off, spot⟩ := x
      have hspot : spot = none := by simpa [Addr.add] using World.cell?_spot h0
      subst hspot
      rw [add_addr] at hc
      refine ⟨b, off, rfl, World.block_lt_of_cell? _ _ hc, ?_⟩
      rw [hc]
      simp only [S, List.getElem_map, List.getElem_take]
      rw [List.getD_eq_getElem?_getD, List.getElem?_eq_getElem (by omega)]
      rfl
    · simp only [List.mem_map] at hy
      obtain ⟨z, hz1, rfl⟩ := hy
      have := hws z (List.mem_of_mem_take hz1)
      show z.data.toList.length ≤ maxLen
      rw [Array.length_toList]
      exact this

/-- A slice of files that came in. -/
theorem files_cells {H : Type} {enc : TypeId × Value → H} {W : World} {fuel : Nat} {v : Value} {x : DataW H × List MemPlace}
    (h : DataW.trod enc Tryz.prog W 0 (fun _ => true) true fuel 22 [v] = some x) : ∃ l : List FileT, RowF W v l ∧ ∀ f ∈ l, f.1.length ≤ maxLen ∧ f.2.length ≤ maxLen := by
  rcases Deep.open_slice_pairs Tryz.underlying22 Tryz.underlying58 (by kernel_rfl) rfl rfl (by kernel_rfl) (by kernel_rfl) h with ⟨hcs, _⟩ | ⟨a, len, cap, m, n, V0, V1, D0, D1, P0, P1, hcs, _, hl, hm, hmm, _, hc⟩
  · simp at hcs
    subst hcs
    exact ⟨[], ⟨none, 0, rfl, rfl, Nat.le_refl _, by unfold maxLen; omega, fun k hk => absurd hk (by simp [FC])⟩, fun f hf => by simp at hf⟩
  · simp at hcs
    subst hcs
    simp only [if_true] at hmm
    have each : ∀ i, i < m → ∃ q : FileT, W.cell? (a.add (i * 2)) = some (.string ⟨q.1.toArray⟩) ∧ W.cell? (a.add (i * 2 + 1)) = some (.string ⟨q.2.toArray⟩) ∧ q.1.length ≤ maxLen ∧ q.2.length ≤ maxLen := by
      intro i hi
      obtain ⟨c0, c1, t0, t1⟩ := hc i hi
      obtain ⟨s0, e0, _, z0⟩ := DataW.trod_string Tryz.underlying9 t0
      obtain ⟨s1, e1, _, z1⟩ := DataW.trod_string Tryz.underlying9 t1
      simp at e0 e1
      rw [e0] at c0
      rw [e1] at c1
      exact ⟨(s0.data.toList, s1.data.toList), by simpa using c0, by simpa using c1, by show s0.data.toList.length ≤ _; rw [Array.length_toList]; exact z0, by show s1.data.toList.length ≤ _; rw [Array.length_toList]; exact z1⟩
    obtain ⟨q, hq⟩ := Deep.choose_lt each
    have hlen : ((List.range len).map q).length = len := by simp
    refine ⟨(List.range len).map q, ⟨some a, cap, by rw [hlen], by rw [FC_len], by rw [hlen]; exact hl, hm, fun k hk => ?_⟩, fun f hf => ?_⟩
    · rw [FC_len, hlen] at hk
      obtain ⟨b, off, spot⟩ := a
      have h0 := (hq 0 (by omega)).1
      have hspot : spot = none := by simpa [Addr.add] using World.cell?_spot h0
      subst hspot
      have hi : k / 2 < len := by omega
      have hqi := hq (k / 2) (by omega)
      have hget : ((List.range len).map q)[k / 2]'(by rw [hlen]; exact hi) = q (k / 2) := by simp
      rw [add_addr, add_addr] at hqi
      refine ⟨b, off, rfl, World.block_lt_of_cell? _ _ hqi.1, ?_⟩
      rcases Nat.mod_two_eq_zero_or_one k with e | e
      · have ek : k = k / 2 * 2 := by omega
        have := FC_name (l := (List.range len).map q) (k := k / 2) (by rw [hlen]; exact hi)
        rw [hget] at this
        have h2 : (FC ((List.range len).map q))[k] = (FC ((List.range len).map q))[k / 2 * 2]'(by rw [FC_len, hlen]; omega) := by congr 1
        rw [h2, this, ← hqi.1]
        congr 2
        omega
      · have ek : k = k / 2 * 2 + 1 := by omega
        have := FC_body (l := (List.range len).map q) (k := k / 2) (by rw [hlen]; exact hi)
        rw [hget] at this
        have h2 : (FC ((List.range len).map q))[k] = (FC ((List.range len).map q))[k / 2 * 2 + 1]'(by rw [FC_len, hlen]; omega) := by congr 1
        rw [h2, this, ← hqi.2.1]
        congr 2
        omega
    · obtain ⟨i, hi, rfl⟩ := List.mem_map.1 hf
      have := hq i (by have := List.mem_range.1 hi; omega)
      exact ⟨this.2.2.1, this.2.2.2⟩
theorem files_in {H : Type} {enc : TypeId × Value → H} {W : World} {a : Option Addr} {len cap : Nat} {d : DataW H} {p : List MemPlace}
    (h : DataW.Trod enc Tryz.prog W 0 (fun _ => true) true 22 (.slice a len cap) d p) : ∃ l : List FileT, RowF W (.slice a len cap) l ∧ ∀ f ∈ l, f.1.length ≤ maxLen ∧ f.2.length ≤ maxLen := by
  obtain ⟨fuel, hf⟩ := h
  exact files_cells (by simpa [Value.cells] using hf)
set_option maxRecDepth 100000 in
/-- A store that came in. -/
theorem store_in {H : Type} {enc : TypeId × Value → H} {W : World} {base : Nat} {v : Value} {d : DataW H} {p : List MemPlace} (hv : Value.okWide Tryz.prog W .any base 25 v)
    (h : DataW.Trod enc Tryz.prog W 0 (fun _ => true) true 25 v d p) : ∃ s : StoreT, StoreV W v s ∧ Fits s := by
  obtain ⟨v0, v1, v2, y0, y1, y2, n, rfl, _, _, h0, h1, h2⟩ := Joins.open_agg3 Tryz.underlying25 (by kernel_rfl) (by kernel_rfl) hv h
  obtain ⟨l0, r0, x0⟩ := files_cells h0
  obtain ⟨l1, r1, x1⟩ := files_cells h1
  obtain ⟨l2, r2, x2⟩ := texts_cells h2
  exact ⟨⟨l0, l1, l2⟩, ⟨v0, v1, v2, rfl, r0, r1, r2⟩, x0, x1, x2⟩

end Go.Proofs.YtgcaplbeahjbmaaGreatDoor

/- Walks: the laws' helpers on one file. -/
namespace Go.Proofs.YtgcaplbeahjbmaaGreatDoor
open Go.RowKit Pth

def fileV (f : FileT) : Value := .agg #[.string ⟨f.1.toArray⟩, .string ⟨f.2.toArray⟩]

set_option maxHeartbeats 1000000 in
theorem szFile_any (x y : List UInt8) (left : Nat) (w : World) (hx : x.length ≤ maxLen) (hy : y.length ≤ maxLen) (hl : left ≤ 2000000) :
    Calls Tryz.prog 34 #[fileV (x, y), .int .i64 (left : Int)] w fun e w' => ∃ r : Int, e = .returned (.int .i64 r) ∧ r ≤ left ∧ (0 ≤ r → x.length ≤ left ∧ y.length ≤ left) ∧ Below w.heap.size w w' := by
  unfold maxLen at hx hy
  unfold fileV
  have HB := Lib.hid ((Below.refl w.heap.size w).alloc (Nat.le_refl _) (.cells #[.string ⟨x.toArray⟩, .string ⟨y.toArray⟩] 58))
  by_cases h1 : x.length ≤ left
  · have d1 : decide ((left : Int) - (x.length : Int) < 0) = false := by simp; omega
    by_cases h2 : (y.length : Int) ≤ (left : Int) - (x.length : Int)
    · have d2 : decide ((left : Int) - (x.length : Int) - (y.length : Int) < 0) = false := by simp; omega
      go_enter Tryz.func34, Tryz.ntmps34
      go_wp2_with fail
      go_ret
      exact ⟨_, rfl, by omega, fun _ => by omega, HB.out⟩
    · have d2 : decide ((left : Int) - (x.length : Int) - (y.length : Int) < 0) = true := by simp; omega
      go_enter Tryz.func34, Tryz.ntmps34
      go_wp2_with fail
      go_ret
      exact ⟨-1, rfl, by omega, fun h => by omega, HB.out⟩
  · have d1 : decide ((left : Int) - (x.length : Int) < 0) = true := by simp; omega
    go_enter Tryz.func34, Tryz.ntmps34
    go_wp2_with fail
    go_ret
    exact ⟨-1, rfl, by omega, fun h => by omega, HB.out⟩

/-- Results that lie in a block. -/
theorem results_cell {fn : Func} {p : Tmp} {ty : TypeId} (h : fn.results = #[.cell p ty]) {tmps : Array Value} {w : World} {ad : Addr} {v : Value} (hp : tmps.getD p undef = .pointer (some ad)) (hl : (loadVar ty ad).run Tryz.prog w = .ok v w) :
    (results fn tmps).run Tryz.prog w = .ok v w := by
  have hp' : tmps[p]?.getD undef = .pointer (some ad) := by simpa using hp
  simp only [results, h]
  simp [Sem.run_bind, Result.andThen, hp', asAddr, hl]
theorem results_cell2 {fn : Func} {p u : Tmp} {ty : TypeId} (h : fn.results = #[.cell p ty, .tmp u]) {tmps : Array Value} {w : World} {ad : Addr} {v : Value} (hp : tmps.getD p undef = .pointer (some ad)) (hl : (loadVar ty ad).run Tryz.prog w = .ok v w) :
    (results fn tmps).run Tryz.prog w = .ok (.tuple #[v, tmps.getD u undef]) w := by
  have hp' : tmps[p]?.getD undef = .pointer (some ad) := by simpa using hp
  simp only [results, h]
  simp [Sem.run_bind, Result.andThen, hp', asAddr, hl]
theorem results_cell3 {fn : Func} {p u t : Tmp} {ty : TypeId} (h : fn.results = #[.cell p ty, .tmp u, .tmp t]) {tmps : Array Value} {w : World} {ad : Addr} {v : Value} (hp : tmps.getD p undef = .pointer (some ad)) (hl : (loadVar ty ad).run Tryz.prog w = .ok v w) :
    (results fn tmps).run Tryz.prog w = .ok (.tuple #[v, tmps.getD u undef, tmps.getD t undef]) w := by
  have hp' : tmps[p]?.getD undef = .pointer (some ad) := by simpa using hp
  simp only [results, h]
  simp [Sem.run_bind, Result.andThen, hp', asAddr, hl]
theorem load_file {w : World} {b : Nat} {x y : Value} (h0 : w.cell? ⟨b, 0, none⟩ = some x) (h1 : w.cell? ⟨b, 1, none⟩ = some y) : (loadVar 44 ⟨b, 0, none⟩).run Tryz.prog w = .ok (.agg #[x, y]) w := by
  go_simp
theorem load_store {w : World} {b : Nat} {x y z : Value} (h0 : w.cell? ⟨b, 0, none⟩ = some x) (h1 : w.cell? ⟨b, 1, none⟩ = some y) (h2 : w.cell? ⟨b, 2, none⟩ = some z) : (loadVar 29 ⟨b, 0, none⟩).run Tryz.prog w = .ok (.agg #[x, y, z]) w := by
  go_simp

set_option maxHeartbeats 1000000 in
theorem toFile_any (x y : List UInt8) (w : World) :
    Calls Tryz.prog 39 #[fileV (x, y)] w fun e w' => e = .returned (fileV (x, y)) ∧ Below w.heap.size w w' := by
  unfold fileV
  go_enter Tryz.func39, Tryz.ntmps39
  go_wp2_with fail
  refine bodyPost_ret (results_cell rfl rfl (load_file (x := .string ⟨x.toArray⟩) (y := .string ⟨y.toArray⟩) (by go_simp) (by go_simp))) rfl ?_
  exact ⟨rfl, (((Below.refl w.heap.size w).alloc (Nat.le_refl _) _).alloc (by simp) _).alloc (by simp; omega) _⟩

theorem ret_dec {p : Prop} [Decidable p] {b : Bool} (h : decide p = b) : Ending.returned (.bool b) = Ending.returned (.bool (decide p)) := by rw [h]

set_option maxHeartbeats 1000000 in
theorem eqFile_any (x y x' y' : List UInt8) (w : World) :
    Calls Tryz.prog 47 #[fileV (x, y), fileV (x', y')] w fun e w' => e = .returned (.bool (decide ((x, y) = (x', y')))) ∧ Below w.heap.size w w' := by
  unfold fileV
  have HB := Lib.hid (((Below.refl w.heap.size w).alloc (Nat.le_refl _) (.cells #[.string ⟨x.toArray⟩, .string ⟨y.toArray⟩] 44)).alloc (by simp) (.cells #[.string ⟨x'.toArray⟩, .string ⟨y'.toArray⟩] 44))
  by_cases h1 : x = x'
  · have d1 : (!(x == x')) = false := by simp [h1]
    by_cases h2 : y = y'
    · have d2 : (!(y == y')) = false := by simp [h2]
      have HT : Hid (decide ((x, y) = (x', y')) = true) := decide_eq_true (by rw [h1, h2])
      clear h1 h2
      go_enter Tryz.func47, Tryz.ntmps47
      go_wp2_with fail
      go_ret
      exact ⟨ret_dec HT.out, HB.out⟩
    · have d2 : (!(y == y')) = true := by simp [h2]
      have HT : Hid (decide ((x, y) = (x', y')) = false) := decide_eq_false (fun h => h2 (Prod.mk.inj h).2)
      clear h1 h2
      go_enter Tryz.func47, Tryz.ntmps47
      go_wp2_with fail
      go_ret
      exact ⟨ret_dec HT.out, HB.out⟩
  · have d1 : (!(x == x')) = true := by simp [h1]
    have HT : Hid (decide ((x, y) = (x', y')) = false) := decide_eq_false (fun h => h1 (Prod.mk.inj h).1)
    clear h1
    go_enter Tryz.func47, Tryz.ntmps47
    go_wp2_with fail
    go_ret
    exact ⟨ret_dec HT.out, HB.out⟩

end Go.Proofs.YtgcaplbeahjbmaaGreatDoor
