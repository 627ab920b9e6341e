/- Marks: all steps; places read off and set. -/
import Derived.Test.YtcplooeohdhlkaaTb
namespace Go.Proofs.Ytcplooeohdhlkaa
open Go.RowKit Pth

theorem MarksAt.kept {w w' : World} {b c : Nat} {l : List Int} (h : MarksAt w b l) (hg : w.grownBy w' (some c)) (hne : b ≠ c) : MarksAt w' b l :=
  (hg.block b (lt_of_block h) (fun e => hne (Option.some.inj e))).trans h

/-- What the places below k give. -/
def Gives (p : List UInt8) (l : List Int) (b : UInt8) (k : Nat) (out : List Int) : Prop := ∀ x : Int, x ∈ out ↔ ∃ j ∈ l, j < (k : Int) ∧ x ∈ step1 p b [] j
theorem gives_none {p : List UInt8} {l : List Int} {b : UInt8} (h : Within 0 p.length l) : Gives p l b 0 [] := by
  intro x
  constructor
  · intro h; simp at h
  · rintro ⟨j, hj, h1, _⟩; have := (h j hj).1; omega
theorem gives_yes {p : List UInt8} {l : List Int} {b : UInt8} {k : Nat} {out : List Int} (h : Gives p l b k out) (hk : hasL l (k : Int) = true) : Gives p l b (k + 1) (step1 p b out k) := by
  intro x
  rw [mem_step1, h x]
  have hk' : (k : Int) ∈ l := by simpa [hasL] using hk
  constructor
  · rintro (⟨j, hj, h1, h2⟩ | h2)
    · exact ⟨j, hj, by omega, h2⟩
    · exact ⟨k, hk', by omega, h2⟩
  · rintro ⟨j, hj, h1, h2⟩
    by_cases e : j = k
    · subst e; exact .inr h2
    · exact .inl ⟨j, hj, by omega, h2⟩
theorem gives_no {p : List UInt8} {l : List Int} {b : UInt8} {k : Nat} {out : List Int} (h : Gives p l b k out) (hk : hasL l (k : Int) = false) : Gives p l b (k + 1) out := by
  intro x
  rw [h x]
  have hk' : ¬ (k : Int) ∈ l := by simpa [hasL] using hk
  constructor
  · rintro ⟨j, hj, h1, h2⟩; exact ⟨j, hj, by omega, h2⟩
  · rintro ⟨j, hj, h1, h2⟩
    have : j ≠ k := fun e => hk' (e ▸ hj)
    exact ⟨j, hj, by omega, h2⟩
theorem gives_all {p : List UInt8} {l : List Int} {b : UInt8} {k : Nat} {out : List Int} (h : Gives p l b k out) (hk : p.length ≤ k) (hw : Within 0 p.length l) : mkA out = mkA (outL p l b) := by
  apply mkA_ext
  intro n _
  rw [h n, mem_out]
  constructor
  · rintro ⟨j, hj, _, h2⟩; exact ⟨j, hj, h2⟩
  · rintro ⟨j, hj, h2⟩
    refine ⟨j, hj, ?_, h2⟩
    by_cases h3 : j < (k : Int)
    · exact h3
    · have h4 := hw j hj
      have h5 : j.toNat = p.length := by omega
      unfold step1 at h2
      rw [List.getElem?_eq_none (by omega)] at h2
      simp at h2

set_option maxHeartbeats 2000000 in
theorem stepMarks_any (p : ByteArray) (l : List Int) (b : UInt8) (w : World) (hp : p.size ≤ 20) (hw : Within 0 p.data.toList.length l) :
    Calls Try.prog 58 #[.string p, .agg (mkA l), .int .u8 (b.toNat : Int)] w (MarksPost (stepL p.data.toList l b) w) := by
  have HW := Lib.hid hw
  clear hw
  go_enter Try.func58, Try.ntmps58
  go_wp2_with (first
    | (refine wpBoxM rfl _ rfl rfl ?_; intro g w1 He1 HM1 HB1 HZ1)
    | (refine wpAllocM rfl rfl ?_; have hh := HM2; intro g3 w3 He3 HM3 HB3 HZ3; clear hh)
    | (refine wpAllocM rfl rfl ?_; intro g2 w2 He2 HM2 HB2 HZ2))
  have hg1 : w.heap.size ≤ g := by have := He1.out; omega
  have h12 : g ≠ g2 := by have := He2.out; have := HZ1.out; omega
  have h13 : g ≠ g3 := by have := He2.out; have := HZ1.out; have := He3.out; have := HZ2.out; omega
  have h23 : g2 ≠ g3 := by have := He3.out; have := HZ2.out; omega
  have hg2 : w.heap.size ≤ g2 := by have := He1.out; have := He2.out; have := HZ1.out; omega
  have hg3 : w.heap.size ≤ g3 := by have := He1.out; have := He2.out; have := HZ1.out; have := He3.out; have := HZ2.out; omega
  replace HM1 := Lib.hid ((HM1.out.below HB2.out).below HB3.out)
  replace HM2 := Lib.hid (HM2.out.below HB3.out)
  replace HB1 := Lib.hid ((HB1.out.trans (HB2.out.mono HB1.out.size)))
  replace HB1 := Lib.hid ((HB1.out.trans (HB3.out.mono HB1.out.size)))
  clear He1 He2 He3 HZ1 HZ2 HZ3 HB2 HB3
  go_loopw [11] (fun i wr => ∃ (out : List Int) (k : Nat), k ≤ p.size ∧ i = .int .i64 k ∧ Hid (MarksAt wr g l) ∧ Hid (MarksAt wr g2 []) ∧ Hid (MarksAt wr g3 out) ∧ Hid (Below w.heap.size w wr) ∧
     Hid (Gives p.data.toList l b k out)) (fun i _ => p.size - (intOf i).toNat)
  case atStart => exact ⟨[], 0, Nat.zero_le _, rfl, HM1, HM2, HM3, HB1, gives_none HW.out⟩
  case round =>
    clear HM1 HM2 HM3 HB1
    obtain ⟨out, k, hk, rfl, HM1, HM2, HM3, HB, HO⟩ := hrel
    by_cases hlt : k < p.size
    · have hcell := HM1.out.cell k (by omega)
      rcases h1 : hasL l (k : Int) with _ | _
      · rw [h1] at hcell
        have HN := Lib.hid (gives_no HO.out h1)
        clear HO h1
        go_wp2_with fail
        go_roundw
        case rel => exact ⟨out, k + 1, by omega, by go_num, HM1, HM2, HM3, HB, HN⟩
        case measure => simp [intOf]; omega
      · rw [h1] at hcell
        have HN := Lib.hid (gives_yes HO.out h1)
        clear HO h1
        go_wp2_with (refine wpLoadM rfl _ rfl rfl HM3.out ?_)
        refine (stepFrom_any p k b out wr hp hlt).mono ?_
        rintro e w4 ⟨rfl, hb4⟩
        have HM1' := Lib.hid (HM1.out.below hb4)
        have HM2' := Lib.hid (HM2.out.below hb4)
        have HM3' := Lib.hid (HM3.out.below hb4)
        have HB' := Lib.hid (HB.out.trans (hb4.mono HB.out.size))
        clear hb4 HM1 HM2 HM3 HB hcell
        go_wp2_with (refine wpStoreM rfl _ _ rfl rfl rfl HM3'.out ?_; intro w5 h5 hg5; have HM3 := Lib.hid h5; have HG := Lib.hid hg5; clear h5 hg5)
        go_roundw
        case rel => exact ⟨_, k + 1, by omega, by go_num, HM1'.out.kept HG.out h13, HM2'.out.kept HG.out h23, HM3, HB'.out.grown HG.out HB'.out.size (fun j hj => by injection hj with hj; omega), HN⟩
        case measure => simp [intOf]; omega
    · have HE := Lib.hid (gives_all HO.out (by rw [len_eq]; omega) HW.out)
      clear HO
      go_wp2_with (refine wpLoadM rfl _ rfl rfl HM3.out ?_)
      rw [HE.out]
      refine (passStars_any p _ wr hp).mono ?_
      rintro e w4 ⟨rfl, hb4⟩
      have HM2' := Lib.hid (HM2.out.below hb4)
      have HB' := Lib.hid (HB.out.trans (hb4.mono HB.out.size))
      clear hb4 HM1 HM2 HM3 HB
      go_wp2_with (refine wpStoreM rfl _ _ rfl rfl rfl HM2'.out ?_; intro w5 h5 hg5; have HM3 := Lib.hid h5; have HG := Lib.hid hg5; clear h5 hg5)
      refine bodyPost_ret (results_marks rfl rfl HM3.out) rfl ?_
      exact ⟨rfl, HB'.out.grown HG.out HB'.out.size (fun j hj => by injection hj with hj; omega)⟩

end Go.Proofs.Ytcplooeohdhlkaa
