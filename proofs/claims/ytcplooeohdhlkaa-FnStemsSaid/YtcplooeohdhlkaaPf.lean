/- Walks: the reference's places. -/
import Derived.Test.YtcplooeohdhlkaaPe
namespace Go.Proofs.Ytcplooeohdhlkaa
open Go.RowKit Pth

theorem close_next {p : ByteArray} {k : Nat} (hk : k < p.size) (cur : List Int) :
    closeFrom (p.data.toList.drop k) k cur = closeFrom (p.data.toList.drop (k + 1)) (k + 1) (if p[k] = 42 ∧ (k : Int) ∈ cur then putL cur ((k : Int) + 1) else cur) := by
  rw [List.drop_eq_getElem_cons (by simpa using hk), closeFrom]
  rfl
theorem close_done {p : ByteArray} {k : Nat} (hk : p.size ≤ k) (cur : List Int) : closeFrom (p.data.toList.drop k) k cur = cur := by
  rw [List.drop_of_length_le (by rw [len_eq]; exact hk)]; rfl

set_option maxHeartbeats 1000000 in
theorem l2Close_any (p : ByteArray) (l : List Int) (B : Nat) (v : Value) (w : World) (hown : w.ownsRow B 3 1 v l.length (I l)) (hB : B ≤ w.heap.size) (hs : p.size ≤ 100) (hl : l.length ≤ 500) :
    Calls Try.prog 64 #[.string p, v] w (IntsPost B (closeL p.data.toList l) w) := by
  have HW := Lib.hid hown
  clear hown
  go_enter Try.func64, Try.ntmps64
  go_wp2_with fail
  go_loopw [1, 5] (fun u i wr => ∃ (cur : List Int) (k : Nat), k ≤ p.size ∧ i = .int .i64 k ∧ wr.ownsRow B 3 1 u cur.length (I cur) ∧ Below w.heap.size w wr ∧ cur.length ≤ l.length + k ∧
     Hid (closeL p.data.toList l = closeFrom (p.data.toList.drop k) k cur)) (fun _ i _ => p.size - (intOf i).toNat)
  case atStart => exact ⟨l, 0, Nat.zero_le _, rfl, HW.out, Below.refl _ _, by omega, rfl⟩
  case round =>
    clear HW
    obtain ⟨cur, k, hk, rfl, hown, hb, hcl, HS⟩ := hrel
    have hbs := hb.size
    have HN := Lib.hid hown
    have HB := Lib.hid hb
    clear hown hb
    by_cases hlt : k < p.size
    · have HS2 := HS.out.trans (close_next hlt cur)
      clear HS
      by_cases hc : p[k].toNat = 42
      · have c1 : ((p[k].toNat : Int) == 42) = true := by simp [hc]
        by_cases hm : (k : Int) ∈ cur
        · have HS := Lib.hid (HS2.trans (by rw [if_pos ⟨UInt8.toNat_inj.1 hc, hm⟩]))
          have HH : Hid (hasL cur k = true) := by simpa [hasL, Hid] using hm
          clear HS2 hc hm
          go_wp2_with (first
            | (go_at_call 76; refine (l1Has_any cur k _ _ (RowV.of_own HN.out)).mono ?_; rw [HH.out]; rintro e w1 ⟨rfl, rfl⟩)
            | (go_at_call 81; refine (l1Put_any cur _ B _ _ HN.out (by omega) (by omega)).mono ?_; rintro e w1 ⟨v1, rfl, hown1, hb1⟩))
          go_roundw
          case rel => exact ⟨_, k + 1, by omega, by go_num, hown1, HB.out.trans (hb1.mono HB.out.size), by have := put_len cur ((k : Int) + 1); omega, HS⟩
          case measure => simp [intOf]; omega
        · have HS := Lib.hid (HS2.trans (by rw [if_neg (fun h => hm h.2)]))
          have HH : Hid (hasL cur k = false) := by simpa [hasL, Hid] using hm
          clear HS2 hc hm
          go_wp2_with (go_at_call 76; refine (l1Has_any cur k _ _ (RowV.of_own HN.out)).mono ?_; rw [HH.out]; rintro e w1 ⟨rfl, rfl⟩)
          go_roundw
          case rel => exact ⟨cur, k + 1, by omega, by go_num, HN.out, HB.out, by omega, HS⟩
          case measure => simp [intOf]; omega
      · have c1 : ((p[k].toNat : Int) == 42) = false := by simp; omega
        have HS := Lib.hid (HS2.trans (by rw [if_neg (fun h => hc (by rw [h.1]; rfl))]))
        clear HS2 hc
        go_wp2_with fail
        go_roundw
        case rel => exact ⟨cur, k + 1, by omega, by go_num, HN.out, HB.out, by omega, HS⟩
        case measure => simp [intOf]; omega
    · have HS2 := Lib.hid (HS.out.trans (close_done (by omega) cur))
      clear HS
      go_wp2_with fail
      go_ret
      exact ⟨_, rfl, by rw [HS2.out]; exact HN.out, HB.out⟩

theorem step1_byte {p : ByteArray} {m : Nat} (hm : m < p.size) (b : UInt8) (out : List Int) : step1 p.data.toList b out (m : Int) =
    if p[m] = 42 then (if b = 47 then out else putL out m) else if p[m] = 37 then putL (putL out m) ((m : Int) + 1) else if p[m] = 63 then (if b = 47 then out else putL out ((m : Int) + 1)) else if p[m] = b then putL out ((m : Int) + 1) else out := by
  have h : p.data.toList[(m : Int).toNat]? = some p[m] := by
    have e : (m : Int).toNat = m := by omega
    rw [e, List.getElem?_eq_getElem (by simpa using hm)]; rfl
  unfold step1
  rw [h]
theorem step1_end (p : ByteArray) (b : UInt8) (out : List Int) : step1 p.data.toList b out (p.size : Int) = out := by
  have h : p.data.toList[(p.size : Int).toNat]? = none := by
    have e : (p.size : Int).toNat = p.size := by omega
    rw [e, List.getElem?_eq_none (by rw [len_eq]; omega)]
  unfold step1
  rw [h]
theorem out_next {p : List UInt8} {b : UInt8} {l out : List Int} {k : Nat} (hk : k < l.length) (h : outL p l b = (l.drop k).foldl (step1 p b) out) : outL p l b = (l.drop (k + 1)).foldl (step1 p b) (step1 p b out l[k]) := by
  rw [h, List.drop_eq_getElem_cons hk, List.foldl_cons]
theorem out_done {p : List UInt8} {b : UInt8} {l out : List Int} {k : Nat} (hk : l.length ≤ k) (h : outL p l b = (l.drop k).foldl (step1 p b) out) : outL p l b = out := by
  rw [h, List.drop_of_length_le hk]; rfl

set_option maxHeartbeats 2000000 in
theorem l2Step_any (p : ByteArray) (l : List Int) (b : UInt8) (v : Value) (w : World) (hrow : RowV w v (I l)) (hw : Within 0 p.data.toList.length l) (hs : p.size ≤ 100) (hl : l.length ≤ 200) :
    Calls Try.prog 68 #[.string p, v, .int .u8 (b.toNat : Int)] w (IntsPost w.heap.size (stepL p.data.toList l b) w) := by
  obtain ⟨a, cap, rfl, hc1, hc2, hat⟩ := hrow.ints
  clear hrow
  unfold maxLen at hc2
  rw [len_eq] at hw
  have HZ : Hid (stepL p.data.toList l b = closeL p.data.toList (outL p.data.toList l b)) := rfl
  go_enter Try.func68, Try.ntmps68
  go_wp2_with fail
  go_loopw [7, 12] (fun q i wr => ∃ (out : List Int) (u : Value) (k : Nat), k ≤ l.length ∧ q = u ∧ i = .int .i64 k ∧ wr.ownsRow w.heap.size 3 1 u out.length (I out) ∧ Below w.heap.size w wr ∧ out.length ≤ 2 * k ∧
     Hid (outL p.data.toList l b = (l.drop k).foldl (step1 p.data.toList b) out)) (fun _ i _ => l.length - (intOf i).toNat)
  case atStart => exact ⟨[], _, 0, Nat.zero_le _, rfl, rfl, World.ownsRow_nil _ _ _ _, Below.refl _ _, by simp, rfl⟩
  case round =>
    obtain ⟨out, u, k, hk, rfl, rfl, hown, hb, hol, HO⟩ := hrel
    have hbs := hb.size
    have HN := Lib.hid hown
    by_cases hlt : k < l.length
    · obtain ⟨g, o, rfl, hg, hcell0⟩ := hat k hlt
      have hcell : wr.cell? ⟨g, o + k, none⟩ = some (.int .i64 l[k]) := by rw [hb.cell (p := ⟨g, o + k, none⟩) hg]; exact hcell0
      have HB := Lib.hid hb
      have HS1 := out_next hlt HO.out
      obtain ⟨hx0, hx1⟩ := hw l[k] (List.getElem_mem hlt)
      clear hcell0 hat hw HO hb hown
      generalize l[k] = x at hcell HS1 hx0 hx1
      obtain ⟨m, rfl⟩ : ∃ m : Nat, x = m := ⟨x.toNat, by omega⟩
      by_cases hm : m < p.size
      · rw [step1_byte hm] at HS1
        have e1 : ((m : Int) == (p.size : Int)) = false := by simp; omega
        by_cases h42 : p[m].toNat = 42
        · have c1 : ((p[m].toNat : Int) == 42) = true := by simp [h42]
          rw [if_pos (UInt8.toNat_inj.1 h42 : p[m] = 42)] at HS1
          by_cases h47 : b.toNat = 47
          · have d1 : ((b.toNat : Int) != 47) = false := by simp [h47]
            rw [if_pos (UInt8.toNat_inj.1 h47 : b = 47)] at HS1
            have HS := Lib.hid HS1
            clear HS1 h42 h47
            go_wp2_with fail
            go_roundw
            case rel => exact ⟨out, _, k + 1, by omega, rfl, by go_num, HN.out, HB.out, by omega, HS⟩
            case measure => simp [intOf]; omega
          · have d1 : ((b.toNat : Int) != 47) = true := by simp; omega
            rw [if_neg (fun h : b = 47 => h47 (by rw [h]; rfl))] at HS1
            have HS := Lib.hid HS1
            clear HS1 h42 h47
            go_wp2_with fail
            refine (l1Put_any out m w.heap.size _ wr HN.out HB.out.size (by omega)).mono ?_
            rintro e w1 ⟨v1, rfl, hown1, hb1⟩
            have hp1 := put_len out m
            have HN1 := Lib.hid hown1
            have HB1 := Lib.hid (HB.out.trans (hb1.mono HB.out.size))
            clear hown1 hb1
            go_wp2_with fail
            go_roundw
            case rel => exact ⟨_, v1, k + 1, by omega, rfl, by go_num, HN1.out, HB1.out, by omega, HS⟩
            case measure => simp [intOf]; omega
        · have c1 : ((p[m].toNat : Int) == 42) = false := by simp; omega
          rw [if_neg (fun h : p[m] = 42 => h42 (by rw [h]; rfl))] at HS1
          by_cases h37 : p[m].toNat = 37
          · have c2 : ((p[m].toNat : Int) == 37) = true := by simp [h37]
            rw [if_pos (UInt8.toNat_inj.1 h37 : p[m] = 37)] at HS1
            have HS := Lib.hid HS1
            clear HS1 h42 h37
            go_wp2_with fail
            refine (l1Put_any out m w.heap.size _ wr HN.out HB.out.size (by omega)).mono ?_
            rintro e w1 ⟨v1, rfl, hown1, hb1⟩
            have hp1 := put_len out m
            have HN1 := Lib.hid hown1
            have HB1 := Lib.hid (HB.out.trans (hb1.mono HB.out.size))
            clear hown1 hb1
            go_wp2_with fail
            refine (l1Put_any (putL out m) ((m : Int) + 1) w.heap.size _ w1 HN1.out HB1.out.size (by omega)).mono ?_
            rintro e w2 ⟨v2, rfl, hown2, hb2⟩
            have HN2 := Lib.hid hown2
            have HB2 := Lib.hid (HB1.out.trans (hb2.mono HB1.out.size))
            clear hown2 hb2
            go_wp2_with fail
            go_roundw
            case rel => exact ⟨_, v2, k + 1, by omega, rfl, by go_num, HN2.out, HB2.out, by have := put_len (putL out m) ((m : Int) + 1); omega, HS⟩
            case measure => simp [intOf]; omega
          · have c2 : ((p[m].toNat : Int) == 37) = false := by simp; omega
            rw [if_neg (fun h : p[m] = 37 => h37 (by rw [h]; rfl))] at HS1
            by_cases h63 : p[m].toNat = 63
            · have c3 : ((p[m].toNat : Int) == 63) = true := by simp [h63]
              rw [if_pos (UInt8.toNat_inj.1 h63 : p[m] = 63)] at HS1
              by_cases h47 : b.toNat = 47
              · have d1 : ((b.toNat : Int) != 47) = false := by simp [h47]
                rw [if_pos (UInt8.toNat_inj.1 h47 : b = 47)] at HS1
                have HS := Lib.hid HS1
                clear HS1 h42 h37 h63 h47
                go_wp2_with fail
                go_roundw
                case rel => exact ⟨out, _, k + 1, by omega, rfl, by go_num, HN.out, HB.out, by omega, HS⟩
                case measure => simp [intOf]; omega
              · have d1 : ((b.toNat : Int) != 47) = true := by simp; omega
                rw [if_neg (fun h : b = 47 => h47 (by rw [h]; rfl))] at HS1
                have HS := Lib.hid HS1
                clear HS1 h42 h37 h63 h47
                go_wp2_with fail
                refine (l1Put_any out ((m : Int) + 1) w.heap.size _ wr HN.out HB.out.size (by omega)).mono ?_
                rintro e w1 ⟨v1, rfl, hown1, hb1⟩
                have hp1 := put_len out ((m : Int) + 1)
                have HN1 := Lib.hid hown1
                have HB1 := Lib.hid (HB.out.trans (hb1.mono HB.out.size))
                clear hown1 hb1
                go_wp2_with fail
                go_roundw
                case rel => exact ⟨_, v1, k + 1, by omega, rfl, by go_num, HN1.out, HB1.out, by omega, HS⟩
                case measure => simp [intOf]; omega
            · have c3 : ((p[m].toNat : Int) == 63) = false := by simp; omega
              rw [if_neg (fun h : p[m] = 63 => h63 (by rw [h]; rfl))] at HS1
              by_cases hbb : p[m].toNat = b.toNat
              · have d1 : ((p[m].toNat : Int) == (b.toNat : Int)) = true := by simp [hbb]
                rw [if_pos (UInt8.toNat_inj.1 hbb)] at HS1
                have HS := Lib.hid HS1
                clear HS1 h42 h37 h63 hbb
                go_wp2_with fail
                refine (l1Put_any out ((m : Int) + 1) w.heap.size _ wr HN.out HB.out.size (by omega)).mono ?_
                rintro e w1 ⟨v1, rfl, hown1, hb1⟩
                have hp1 := put_len out ((m : Int) + 1)
                have HN1 := Lib.hid hown1
                have HB1 := Lib.hid (HB.out.trans (hb1.mono HB.out.size))
                clear hown1 hb1
                go_wp2_with fail
                go_roundw
                case rel => exact ⟨_, v1, k + 1, by omega, rfl, by go_num, HN1.out, HB1.out, by omega, HS⟩
                case measure => simp [intOf]; omega
              · have d1 : ((p[m].toNat : Int) == (b.toNat : Int)) = false := by simp; omega
                rw [if_neg (fun h : p[m] = b => hbb (by rw [h]))] at HS1
                have HS := Lib.hid HS1
                clear HS1 h42 h37 h63 hbb
                go_wp2_with fail
                go_roundw
                case rel => exact ⟨out, _, k + 1, by omega, rfl, by go_num, HN.out, HB.out, by omega, HS⟩
                case measure => simp [intOf]; omega
      · obtain rfl : m = p.size := by omega
        have e1 : ((p.size : Int) == (p.size : Int)) = true := by simp
        rw [step1_end] at HS1
        have HS := Lib.hid HS1
        clear HS1 hm
        go_wp2_with fail
        go_roundw
        case rel => exact ⟨out, _, k + 1, by omega, rfl, by go_num, HN.out, HB.out, by omega, HS⟩
        case measure => simp [intOf]; omega
    · have HS := Lib.hid (out_done (by omega) HO.out)
      have HB := Lib.hid hb
      clear HO hat hw hb hown
      go_wp2_with fail
      refine (l2Close_any p out w.heap.size _ wr HN.out HB.out.size hs (by omega)).mono ?_
      rintro e w1 ⟨v1, rfl, hown1, hb1⟩
      have HN1 := Lib.hid hown1
      have HB1 := Lib.hid (HB.out.trans (hb1.mono HB.out.size))
      clear hown1 hb1
      go_wp2_with fail
      go_ret
      exact ⟨_, rfl, by rw [HZ.out, HS.out]; exact HN1.out, HB1.out⟩

end Go.Proofs.Ytcplooeohdhlkaa
