/- Marks: one step from one place, all steps, the start. -/
import Derived.Test.YtcplooeohdhlkaaTa
namespace Go.Proofs.Ytcplooeohdhlkaa
open Go.RowKit Pth

/-- Marks are handed back. -/
def MarksPost (l : List Int) (w : World) (e : Ending) (w' : World) : Prop := e = .returned (.agg (mkA l)) ∧ Below w.heap.size w w'

theorem mkA_one_at : #[Value.bool true, .bool false, .bool false, .bool false, .bool false, .bool false, .bool false, .bool false, .bool false, .bool false, .bool false, .bool false, .bool false, .bool false, .bool false, .bool false, .bool false, .bool false, .bool false, .bool false, .bool false] = mkA [0] := by rfl

set_option maxHeartbeats 1000000 in
theorem startMarks_any (p : ByteArray) (w : World) (hp : p.size ≤ 20) :
    Calls Try.prog 55 #[.string p] w (MarksPost (startL p.data.toList) w) := by
  have HZ := Lib.hid mkA_zero
  have HO := Lib.hid mkA_one_at
  go_enter Try.func55, Try.ntmps55
  go_wp2_with fail
  have C := passStars_any p [0] (w.alloc (.cells (mkA []) 61)) hp
  rw [← mkA_one_at, ← mkA_zero] at C
  refine C.mono ?_
  clear C
  rintro e w1 ⟨rfl, hb⟩
  rw [mkA_zero] at hb
  have HM := Lib.hid ((marks_last w []).below hb)
  have HB := Lib.hid (((Below.refl _ w).alloc (Nat.le_refl _) _).trans (hb.mono (by simp)))
  clear hb
  go_wp2_with (refine wpStoreM rfl _ _ rfl rfl rfl HM.out ?_; intro w2 h2 hg2; have HM2 := Lib.hid h2; have HG := Lib.hid hg2; clear h2 hg2)
  refine bodyPost_ret (results_marks rfl rfl HM2.out) rfl ?_
  exact ⟨rfl, HB.out.grown HG.out HB.out.size (fun k hk => by injection hk with hk; omega)⟩

theorem step1_at {p : ByteArray} {k : Nat} (hk : k < p.size) (b : UInt8) (l : List Int) : step1 p.data.toList b l k =
    if p[k] = 42 then (if b = 47 then l else putL l k) else if p[k] = 37 then putL (putL l k) ((k + 1 : Nat) : Int) else if p[k] = 63 then (if b = 47 then l else putL l ((k + 1 : Nat) : Int)) else if p[k] = b then putL l ((k + 1 : Nat) : Int) else l := by
  have h : p.data.toList[(k : Int).toNat]? = some p[k] := by
    have e : (k : Int).toNat = k := by omega
    rw [e, List.getElem?_eq_getElem (by rw [len_eq]; exact hk)]
    rfl
  unfold step1
  rw [h]
  rfl

/-- Two blocks of marks of the call's own: the ones at work and the ones that go out. -/
structure Two (w : World) (g g2 : Nat) (l : List Int) (wr : World) : Prop where
  one : MarksAt wr g l
  two : MarksAt wr g2 []
  ne : g2 ≠ g
  low : w.heap.size ≤ g
  low2 : w.heap.size ≤ g2
  below : Below w.heap.size w wr
theorem Two.put {w wr : World} {g g2 : Nat} {l : List Int} (h : Two w g g2 l wr) (n : Nat) : Two w g g2 (putL l n) (wr.setCell ⟨g, n, none⟩ (.bool true)) :=
  ⟨h.one.put n, h.two.beside h.ne n _, h.ne, h.low, h.low2, h.below.setCell (p := ⟨g, n, none⟩) h.low _⟩
theorem Two.same {w wr : World} {g g2 : Nat} {l : List Int} (h : Two w g g2 l wr) (n : Nat) {x : Bool} (hx : hasL l (n : Int) = x) : Two w g g2 l (wr.setCell ⟨g, n, none⟩ (.bool x)) := by
  subst hx
  exact ⟨h.one.same n, h.two.beside h.ne n _, h.ne, h.low, h.low2, h.below.setCell (p := ⟨g, n, none⟩) h.low _⟩
theorem two_new {w w1 w2 : World} {g g2 : Nat} {l : List Int} (e1 : g = w.heap.size) (m1 : MarksAt w1 g l) (b1 : Below w.heap.size w w1) (z1 : w1.heap.size = g + 1) (e2 : g2 = w1.heap.size) (m2 : MarksAt w2 g2 []) (b2 : Below w1.heap.size w1 w2) : Two w g g2 l w2 :=
  ⟨m1.below b2, m2, by omega, by omega, by omega, b1.trans (b2.mono b1.size)⟩
theorem Two.out {w wr w' : World} {g g2 : Nat} {l : List Int} (h : Two w g g2 l wr) (hg : wr.grownBy w' (some g2)) : Below w.heap.size w w' :=
  h.below.grown hg h.below.size (fun k hk => by injection hk with hk; have := h.low2; omega)

set_option maxHeartbeats 4000000 in
theorem stepFrom_any (p : ByteArray) (k : Nat) (b : UInt8) (l : List Int) (w : World) (hp : p.size ≤ 20) (hk : k < p.size) :
    Calls Try.prog 78 #[.string p, .int .i64 k, .int .u8 (b.toNat : Int), .agg (mkA l)] w (MarksPost (step1 p.data.toList b l k) w) := by
  have HS := Lib.hid (step1_at hk b l)
  by_cases h42 : p[k].toNat = 42
  · have c1 : ((p[k].toNat : Int) == 42) = true := by simp [h42]
    replace HS := Lib.hid (HS.out.trans (if_pos (UInt8.toNat_inj.1 h42)))
    by_cases h47 : b.toNat = 47
    · have d1 : ((b.toNat : Int) != 47) = false := by simp [h47]
      replace HS := Lib.hid (HS.out.trans (if_pos (UInt8.toNat_inj.1 h47)))
      clear h42 h47
      rcases hx : hasL l (k : Int) with _ | _
      · skip
        go_enter Try.func78, Try.ntmps78
        go_wp2_with (first
          | (refine wpBoxM rfl _ rfl rfl ?_; intro g wb He HM HB HZ)
          | (refine wpAllocM rfl rfl ?_; intro g2 w2 He2 HM2 HB2 HZ2; have HT0 := Lib.hid (two_new He.out HM.out HB.out HZ.out He2.out HM2.out HB2.out); clear He HM HB HZ He2 HM2 HB2 HZ2; have hc0 := HT0.out.one.cell (k) (by omega); have hz0 := HT0.out.one.frozen (k); have HT1 := Lib.hid (HT0.out.same (k) hx); (try rw [hx] at hc0))
          | refine wpLoadM rfl _ rfl rfl HT1.out.one ?_
          | (refine wpStoreM rfl _ _ rfl rfl rfl HT1.out.two ?_; intro w3 h3 hg3; have HR := Lib.hid h3; have HG := Lib.hid hg3; clear h3 hg3))
        refine bodyPost_ret (results_marks rfl rfl HR.out) rfl ?_
        exact ⟨by rw [HS.out] <;> rfl, HT1.out.out HG.out⟩
      · skip
        go_enter Try.func78, Try.ntmps78
        go_wp2_with (first
          | (refine wpBoxM rfl _ rfl rfl ?_; intro g wb He HM HB HZ)
          | (refine wpAllocM rfl rfl ?_; intro g2 w2 He2 HM2 HB2 HZ2; have HT0 := Lib.hid (two_new He.out HM.out HB.out HZ.out He2.out HM2.out HB2.out); clear He HM HB HZ He2 HM2 HB2 HZ2; have hc0 := HT0.out.one.cell (k) (by omega); have hz0 := HT0.out.one.frozen (k); have HT1 := Lib.hid (HT0.out.same (k) hx); (try rw [hx] at hc0))
          | refine wpLoadM rfl _ rfl rfl HT1.out.one ?_
          | (refine wpStoreM rfl _ _ rfl rfl rfl HT1.out.two ?_; intro w3 h3 hg3; have HR := Lib.hid h3; have HG := Lib.hid hg3; clear h3 hg3))
        refine bodyPost_ret (results_marks rfl rfl HR.out) rfl ?_
        exact ⟨by rw [HS.out] <;> rfl, HT1.out.out HG.out⟩
    · have d1 : ((b.toNat : Int) != 47) = true := by simp; omega
      replace HS := Lib.hid (HS.out.trans (if_neg (fun h : b = 47 => h47 (by rw [h]; rfl))))
      clear h42 h47
      rcases hx : hasL l (k : Int) with _ | _
      · skip
        go_enter Try.func78, Try.ntmps78
        go_wp2_with (first
          | (refine wpBoxM rfl _ rfl rfl ?_; intro g wb He HM HB HZ)
          | (refine wpAllocM rfl rfl ?_; intro g2 w2 He2 HM2 HB2 HZ2; have HT0 := Lib.hid (two_new He.out HM.out HB.out HZ.out He2.out HM2.out HB2.out); clear He HM HB HZ He2 HM2 HB2 HZ2; have hc0 := HT0.out.one.cell (k) (by omega); have hz0 := HT0.out.one.frozen (k); have HT1 := Lib.hid (HT0.out.put (k)); (try rw [hx] at hc0))
          | refine wpLoadM rfl _ rfl rfl HT1.out.one ?_
          | (refine wpStoreM rfl _ _ rfl rfl rfl HT1.out.two ?_; intro w3 h3 hg3; have HR := Lib.hid h3; have HG := Lib.hid hg3; clear h3 hg3))
        refine bodyPost_ret (results_marks rfl rfl HR.out) rfl ?_
        exact ⟨by rw [HS.out] <;> rfl, HT1.out.out HG.out⟩
      · skip
        go_enter Try.func78, Try.ntmps78
        go_wp2_with (first
          | (refine wpBoxM rfl _ rfl rfl ?_; intro g wb He HM HB HZ)
          | (refine wpAllocM rfl rfl ?_; intro g2 w2 He2 HM2 HB2 HZ2; have HT0 := Lib.hid (two_new He.out HM.out HB.out HZ.out He2.out HM2.out HB2.out); clear He HM HB HZ He2 HM2 HB2 HZ2; have hc0 := HT0.out.one.cell (k) (by omega); have hz0 := HT0.out.one.frozen (k); have HT1 := Lib.hid (HT0.out.put (k)); (try rw [hx] at hc0))
          | refine wpLoadM rfl _ rfl rfl HT1.out.one ?_
          | (refine wpStoreM rfl _ _ rfl rfl rfl HT1.out.two ?_; intro w3 h3 hg3; have HR := Lib.hid h3; have HG := Lib.hid hg3; clear h3 hg3))
        refine bodyPost_ret (results_marks rfl rfl HR.out) rfl ?_
        exact ⟨by rw [HS.out] <;> rfl, HT1.out.out HG.out⟩
  · have c1 : ((p[k].toNat : Int) == 42) = false := by simp; omega
    replace HS := Lib.hid (HS.out.trans (if_neg (fun h : p[k] = 42 => h42 (by rw [h]; rfl))))
    by_cases h37 : p[k].toNat = 37
    · have c2 : ((p[k].toNat : Int) == 37) = true := by simp [h37]
      replace HS := Lib.hid (HS.out.trans (if_pos (UInt8.toNat_inj.1 h37)))
      clear h42 h37
      rcases hx : hasL l (k : Int) with _ | _
      · skip
        go_enter Try.func78, Try.ntmps78
        go_wp2_with (first
          | (refine wpBoxM rfl _ rfl rfl ?_; intro g wb He HM HB HZ)
          | (refine wpAllocM rfl rfl ?_; intro g2 w2 He2 HM2 HB2 HZ2; have HT0 := Lib.hid (two_new He.out HM.out HB.out HZ.out He2.out HM2.out HB2.out); clear He HM HB HZ He2 HM2 HB2 HZ2; have hc0 := HT0.out.one.cell (k) (by omega); have hz0 := HT0.out.one.frozen (k); have HT1 := Lib.hid (HT0.out.put (k)); (try rw [hx] at hc0); have hc1 := HT1.out.one.cell (k + 1) (by omega); have hz1 := HT1.out.one.frozen (k + 1); have HT2 := Lib.hid (HT1.out.put (k + 1)))
          | refine wpLoadM rfl _ rfl rfl HT2.out.one ?_
          | (refine wpStoreM rfl _ _ rfl rfl rfl HT2.out.two ?_; intro w3 h3 hg3; have HR := Lib.hid h3; have HG := Lib.hid hg3; clear h3 hg3))
        refine bodyPost_ret (results_marks rfl rfl HR.out) rfl ?_
        exact ⟨by rw [HS.out] <;> rfl, HT2.out.out HG.out⟩
      · skip
        go_enter Try.func78, Try.ntmps78
        go_wp2_with (first
          | (refine wpBoxM rfl _ rfl rfl ?_; intro g wb He HM HB HZ)
          | (refine wpAllocM rfl rfl ?_; intro g2 w2 He2 HM2 HB2 HZ2; have HT0 := Lib.hid (two_new He.out HM.out HB.out HZ.out He2.out HM2.out HB2.out); clear He HM HB HZ He2 HM2 HB2 HZ2; have hc0 := HT0.out.one.cell (k) (by omega); have hz0 := HT0.out.one.frozen (k); have HT1 := Lib.hid (HT0.out.put (k)); (try rw [hx] at hc0); have hc1 := HT1.out.one.cell (k + 1) (by omega); have hz1 := HT1.out.one.frozen (k + 1); have HT2 := Lib.hid (HT1.out.put (k + 1)))
          | refine wpLoadM rfl _ rfl rfl HT2.out.one ?_
          | (refine wpStoreM rfl _ _ rfl rfl rfl HT2.out.two ?_; intro w3 h3 hg3; have HR := Lib.hid h3; have HG := Lib.hid hg3; clear h3 hg3))
        refine bodyPost_ret (results_marks rfl rfl HR.out) rfl ?_
        exact ⟨by rw [HS.out] <;> rfl, HT2.out.out HG.out⟩
    · have c2 : ((p[k].toNat : Int) == 37) = false := by simp; omega
      replace HS := Lib.hid (HS.out.trans (if_neg (fun h : p[k] = 37 => h37 (by rw [h]; rfl))))
      by_cases h63 : p[k].toNat = 63
      · have c3 : ((p[k].toNat : Int) == 63) = true := by simp [h63]
        replace HS := Lib.hid (HS.out.trans (if_pos (UInt8.toNat_inj.1 h63)))
        by_cases hbb : p[k].toNat = b.toNat
        · have d0 : ((p[k].toNat : Int) == (b.toNat : Int)) = true := by simp [hbb]
          replace HS := Lib.hid (HS.out.trans (if_neg (fun h : b = 47 => by rw [h] at hbb; rw [hbb] at h63; exact absurd h63 (by decide))))
          clear h42 h37 h63 hbb
          go_enter Try.func78, Try.ntmps78
          go_wp2_with (first
            | (refine wpBoxM rfl _ rfl rfl ?_; intro g wb He HM HB HZ)
            | (refine wpAllocM rfl rfl ?_; intro g2 w2 He2 HM2 HB2 HZ2; have HT0 := Lib.hid (two_new He.out HM.out HB.out HZ.out He2.out HM2.out HB2.out); clear He HM HB HZ He2 HM2 HB2 HZ2; have hc0 := HT0.out.one.cell (k + 1) (by omega); have hz0 := HT0.out.one.frozen (k + 1); have HT1 := Lib.hid (HT0.out.put (k + 1)))
            | refine wpLoadM rfl _ rfl rfl HT1.out.one ?_
            | (refine wpStoreM rfl _ _ rfl rfl rfl HT1.out.two ?_; intro w3 h3 hg3; have HR := Lib.hid h3; have HG := Lib.hid hg3; clear h3 hg3))
          refine bodyPost_ret (results_marks rfl rfl HR.out) rfl ?_
          exact ⟨by rw [HS.out] <;> rfl, HT1.out.out HG.out⟩
        · have d0 : ((p[k].toNat : Int) == (b.toNat : Int)) = false := by simp; omega
          by_cases h47 : b.toNat = 47
          · have d1 : ((b.toNat : Int) != 47) = false := by simp [h47]
            replace HS := Lib.hid (HS.out.trans (if_pos (UInt8.toNat_inj.1 h47)))
            clear h42 h37 h63 h47 hbb
            go_enter Try.func78, Try.ntmps78
            go_wp2_with (first
              | (refine wpBoxM rfl _ rfl rfl ?_; intro g wb He HM HB HZ)
              | (refine wpAllocM rfl rfl ?_; intro g2 w2 He2 HM2 HB2 HZ2; have HT0 := Lib.hid (two_new He.out HM.out HB.out HZ.out He2.out HM2.out HB2.out); clear He HM HB HZ He2 HM2 HB2 HZ2)
              | refine wpLoadM rfl _ rfl rfl HT0.out.one ?_
              | (refine wpStoreM rfl _ _ rfl rfl rfl HT0.out.two ?_; intro w3 h3 hg3; have HR := Lib.hid h3; have HG := Lib.hid hg3; clear h3 hg3))
            refine bodyPost_ret (results_marks rfl rfl HR.out) rfl ?_
            exact ⟨by rw [HS.out] <;> rfl, HT0.out.out HG.out⟩
          · have d1 : ((b.toNat : Int) != 47) = true := by simp; omega
            replace HS := Lib.hid (HS.out.trans (if_neg (fun h : b = 47 => h47 (by rw [h]; rfl))))
            clear h42 h37 h63 h47 hbb
            go_enter Try.func78, Try.ntmps78
            go_wp2_with (first
              | (refine wpBoxM rfl _ rfl rfl ?_; intro g wb He HM HB HZ)
              | (refine wpAllocM rfl rfl ?_; intro g2 w2 He2 HM2 HB2 HZ2; have HT0 := Lib.hid (two_new He.out HM.out HB.out HZ.out He2.out HM2.out HB2.out); clear He HM HB HZ He2 HM2 HB2 HZ2; have hc0 := HT0.out.one.cell (k + 1) (by omega); have hz0 := HT0.out.one.frozen (k + 1); have HT1 := Lib.hid (HT0.out.put (k + 1)))
              | refine wpLoadM rfl _ rfl rfl HT1.out.one ?_
              | (refine wpStoreM rfl _ _ rfl rfl rfl HT1.out.two ?_; intro w3 h3 hg3; have HR := Lib.hid h3; have HG := Lib.hid hg3; clear h3 hg3))
            refine bodyPost_ret (results_marks rfl rfl HR.out) rfl ?_
            exact ⟨by rw [HS.out] <;> rfl, HT1.out.out HG.out⟩
      · have c3 : ((p[k].toNat : Int) == 63) = false := by simp; omega
        replace HS := Lib.hid (HS.out.trans (if_neg (fun h : p[k] = 63 => h63 (by rw [h]; rfl))))
        by_cases hbb : p[k].toNat = b.toNat
        · have d0 : ((p[k].toNat : Int) == (b.toNat : Int)) = true := by simp [hbb]
          replace HS := Lib.hid (HS.out.trans (if_pos (UInt8.toNat_inj.1 hbb)))
          clear h42 h37 h63 hbb
          go_enter Try.func78, Try.ntmps78
          go_wp2_with (first
            | (refine wpBoxM rfl _ rfl rfl ?_; intro g wb He HM HB HZ)
            | (refine wpAllocM rfl rfl ?_; intro g2 w2 He2 HM2 HB2 HZ2; have HT0 := Lib.hid (two_new He.out HM.out HB.out HZ.out He2.out HM2.out HB2.out); clear He HM HB HZ He2 HM2 HB2 HZ2; have hc0 := HT0.out.one.cell (k + 1) (by omega); have hz0 := HT0.out.one.frozen (k + 1); have HT1 := Lib.hid (HT0.out.put (k + 1)))
            | refine wpLoadM rfl _ rfl rfl HT1.out.one ?_
            | (refine wpStoreM rfl _ _ rfl rfl rfl HT1.out.two ?_; intro w3 h3 hg3; have HR := Lib.hid h3; have HG := Lib.hid hg3; clear h3 hg3))
          refine bodyPost_ret (results_marks rfl rfl HR.out) rfl ?_
          exact ⟨by rw [HS.out] <;> rfl, HT1.out.out HG.out⟩
        · have d0 : ((p[k].toNat : Int) == (b.toNat : Int)) = false := by simp; omega
          replace HS := Lib.hid (HS.out.trans (if_neg (fun h : p[k] = b => hbb (by rw [h]))))
          clear h42 h37 h63 hbb
          go_enter Try.func78, Try.ntmps78
          go_wp2_with (first
            | (refine wpBoxM rfl _ rfl rfl ?_; intro g wb He HM HB HZ)
            | (refine wpAllocM rfl rfl ?_; intro g2 w2 He2 HM2 HB2 HZ2; have HT0 := Lib.hid (two_new He.out HM.out HB.out HZ.out He2.out HM2.out HB2.out); clear He HM HB HZ He2 HM2 HB2 HZ2)
            | refine wpLoadM rfl _ rfl rfl HT0.out.one ?_
            | (refine wpStoreM rfl _ _ rfl rfl rfl HT0.out.two ?_; intro w3 h3 hg3; have HR := Lib.hid h3; have HG := Lib.hid hg3; clear h3 hg3))
          refine bodyPost_ret (results_marks rfl rfl HR.out) rfl ?_
          exact ⟨by rw [HS.out] <;> rfl, HT0.out.out HG.out⟩

end Go.Proofs.Ytcplooeohdhlkaa
