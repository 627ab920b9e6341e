/- The program's lists that fit. -/
import Derived.Test.YtcplooeohdhlkaaTi
namespace Go.Proofs.Ytcplooeohdhlkaa
open Go.RowKit Pth

theorem fitsWhole_l (p : ByteArray) (x : List UInt8) (w : World) (hp : p.size ≤ 20) (hx : x.length ≤ 2000000) : Calls Try.prog 50 #[.string p, .string ⟨x.toArray⟩] w (BoolPost (fitsL p.data.toList x) w) :=
  fitsWhole_any p ⟨x.toArray⟩ w hp (by simpa [ByteArray.size] using hx)
theorem clone_l (x : List UInt8) (w : World) (hx : x.length ≤ 2000000) : Calls Try.prog 63 #[.string ⟨x.toArray⟩] w fun e w' => e = .returned (.string ⟨x.toArray⟩) ∧ Below w.heap.size w w' :=
  clone_any ⟨x.toArray⟩ w (by simpa [ByteArray.size] using hx)

set_option maxHeartbeats 4000000 in
theorem implAll_any (p : ByteArray) (l : List (List UInt8)) (v : Value) (w : World) (hp : p.size ≤ maxLen) (hrow : RowV w v (S l)) (hx : ∀ x ∈ l, x.length ≤ 2000000) :
    Calls Try.prog 21 #[.string p, v] w (TextsOk (allT p.data.toList l) (allOk p.data.toList l) w) := by
  have HROW := Lib.hid hrow
  obtain ⟨a, cap, rfl, hc1, hc2, hat⟩ := hrow.texts
  clear hrow
  have C := Lib.hid (isPattern_any p w hp)
  unfold maxLen at hc2
  rcases h1 : patL p.data.toList with _ | _
  · have HT : Hid (allOk p.data.toList l = false) := by rw [allOk, h1]; rfl
    have HT2 : Hid (allT p.data.toList l = []) := by rw [allT, HT.out]; rfl
    rw [HT.out, HT2.out]
    rw [h1] at C
    clear h1 hat HT HT2
    go_enter Try.func21, Try.ntmps21
    go_wp2_with fail
    refine C.out.mono ?_
    rintro e w1 ⟨rfl, hb1⟩
    have HB1 := Lib.hid hb1
    clear hb1 C
    go_wp2_with fail
    go_ret2
    exact ⟨_, rfl, World.ownsRow_nil _ _ _ _, HB1.out⟩
  · have hl := (patL_len h1).2
    rw [h1] at C
    by_cases hlen : 40 < l.length
    · have HT : Hid (allOk p.data.toList l = false) := by rw [allOk, decide_eq_false (by omega : ¬ l.length ≤ 40)]; simp [Hid]
      have HT2 : Hid (allT p.data.toList l = []) := by rw [allT, HT.out]; rfl
      rw [HT.out, HT2.out]
      have hd : decide ((40 : Int) < (l.length : Int)) = true := by simp; omega
      clear h1 hat HT HT2
      go_enter Try.func21, Try.ntmps21
      go_wp2_with fail
      refine C.out.mono ?_
      rintro e w1 ⟨rfl, hb1⟩
      have HB1 := Lib.hid hb1
      clear hb1 C
      go_wp2_with fail
      go_ret2
      exact ⟨_, rfl, World.ownsRow_nil _ _ _ _, HB1.out⟩
    · have HA : Hid (allOk p.data.toList l = l.all pathL) := by rw [allOk, h1, decide_eq_true (by omega : l.length ≤ 40)]; rfl
      have hd : decide ((40 : Int) < (l.length : Int)) = false := by simp; omega
      have P := fun W h => arePaths_any l (.slice a l.length cap) W h hx
      rcases h2 : l.all pathL with _ | _
      · have HT : Hid (allOk p.data.toList l = false) := HA.out.trans h2
        have HT2 : Hid (allT p.data.toList l = []) := by rw [allT, HT.out]; rfl
        rw [HT.out, HT2.out]
        rw [h2] at P
        have HP := Lib.hid P
        clear h1 h2 hat HT HT2 P HA hx
        go_enter Try.func21, Try.ntmps21
        go_wp2_with fail
        refine C.out.mono ?_
        rintro e w1 ⟨rfl, hb1⟩
        have HB1 := Lib.hid hb1
        clear hb1 C
        go_wp2_with fail
        refine (HP.out w1 (HROW.out.below HB1.out)).mono ?_
        rintro e w2 ⟨rfl, hb2⟩
        have HB2 := Lib.hid (HB1.out.trans (hb2.mono HB1.out.size))
        clear hb2
        go_wp2_with fail
        go_ret2
        exact ⟨_, rfl, World.ownsRow_nil _ _ _ _, HB2.out⟩
      · have HT : Hid (allOk p.data.toList l = true) := HA.out.trans h2
        have HT2 : Hid (allT p.data.toList l = l.filter (fitsL p.data.toList)) := by rw [allT, HT.out]; rfl
        rw [HT.out, HT2.out]
        rw [h2] at P
        have HP := Lib.hid P
        clear h1 h2 HT HT2 P HA
        go_enter Try.func21, Try.ntmps21
        go_wp2_with fail
        refine C.out.mono ?_
        rintro e w1 ⟨rfl, hb1⟩
        have HB1 := Lib.hid hb1
        clear hb1 C
        go_wp2_with fail
        refine (HP.out w1 (HROW.out.below HB1.out)).mono ?_
        rintro e w2 ⟨rfl, hb2⟩
        have HB2 := Lib.hid (HB1.out.trans (hb2.mono HB1.out.size))
        clear hb2 HB1 HP HROW
        go_wp2_with fail
        go_loopw [6, 24] (fun u i wr => ∃ (acc : List (List UInt8)) (k : Nat), k ≤ l.length ∧ i = .int .i64 k ∧ Hid (wr.ownsRow w.heap.size 9 1 u acc.length (S acc)) ∧ Hid (Below w.heap.size w wr) ∧ acc.length ≤ k ∧
           Hid (acc = (l.take k).filter (fitsL p.data.toList))) (fun _ i _ => l.length - (intOf i).toNat)
        case atStart => exact ⟨[], 0, Nat.zero_le _, rfl, World.ownsRow_nil _ _ _ _, HB2, by simp, by simp [Hid]⟩
        case round =>
          clear HB2
          obtain ⟨acc, k, hk, rfl, HN, HB, hal, HS⟩ := hrel
          by_cases hlt : k < l.length
          · obtain ⟨g, o, rfl, hg, hcell0⟩ := hat k hlt
            have hcell : wr.cell? ⟨g, o + k, none⟩ = some (.string ⟨(l[k]).toArray⟩) := by rw [HB.out.cell (p := ⟨g, o + k, none⟩) hg]; exact hcell0
            have hxl := hx l[k] (List.getElem_mem hlt)
            clear hcell0 hat hx
            have D2 := fitsWhole_l p l[k] wr hl hxl
            rcases h3 : fitsL p.data.toList l[k] with _ | _
            · have HS2 := Lib.hid (take_not hlt HS.out h3)
              rw [h3] at D2
              have HD2 := Lib.hid D2
              generalize l[k] = x at hcell hxl HD2
              clear HS h3 D2
              go_wp2_with fail
              refine HD2.out.mono ?_
              rintro e w3 ⟨rfl, hb3⟩
              have HB3 := Lib.hid (HB.out.trans (hb3.mono HB.out.size))
              have HN3 := Lib.hid (own_below HN.out hb3)
              clear hb3
              go_wp2_with fail
              go_roundw
              case rel => exact ⟨acc, k + 1, by omega, by go_num, HN3, HB3, by omega, HS2⟩
              case measure => simp [intOf]; omega
            · have HS2 := Lib.hid (take_fit hlt HS.out h3)
              rw [h3] at D2
              have HD2 := Lib.hid D2
              generalize l[k] = x at hcell hxl HD2 HS2
              clear HS h3 D2
              go_wp2_with fail
              refine HD2.out.mono ?_
              rintro e w3 ⟨rfl, hb3⟩
              have HB3 := Lib.hid (HB.out.trans (hb3.mono HB.out.size))
              have HN3 := Lib.hid (own_below HN.out hb3)
              clear hb3
              go_wp2_with fail
              refine (clone_l x w3 hxl).mono ?_
              rintro e w4 ⟨rfl, hb4⟩
              have HB4 := Lib.hid (HB3.out.trans (hb4.mono HB3.out.size))
              have HN4 := Lib.hid (own_below HN3.out hb4)
              clear hb4
              go_wp2_with (at_builtin; refine wpAppOne elemS rfl _ _ rfl w.heap.size _ (S acc) rfl (by rw [S_len]; exact HN4.out) _ rfl rfl rfl (by rw [S_len]; omega) HB4.out.size ?_; intro v5 w5 hown5 hg5; have HN5 := Lib.hid (text_snoc hown5); have HB5 := Lib.hid (HB4.out.trans (below_own HN4.out hg5 HB4.out.size)); clear hown5 hg5)
              go_roundw
              case rel => exact ⟨acc ++ [x], k + 1, by omega, by go_num, HN5, HB5, by simp; omega, HS2⟩
              case measure => simp [intOf]; omega
          · have HE2 : Hid (l.filter (fitsL p.data.toList) = acc) := by have := HS.out; rw [List.take_of_length_le (by omega)] at this; exact this.symm
            clear HS hat hx
            go_wp2_with fail
            go_ret2
            exact ⟨_, rfl, by rw [HE2.out]; exact HN.out, HB.out⟩

end Go.Proofs.Ytcplooeohdhlkaa
