/- The program's fits. -/
import Derived.Test.YtcplooeohdhlkaaTe
import Derived.WalkMore
namespace Go.Proofs.Ytcplooeohdhlkaa
open Go.RowKit Pth

/-- Marks as one value out of their block, in a region that draws its order. -/
theorem stillLoadM {ops : Array Oper} {rest : List Oper} {o : Oper} {a : Act} {Q : Act → Prop} {w : World} (hgd : o.guard = none) (x : Operand)
    (ho : o.op = .load 61 x) {b : Nat} {l : List Int} (hx : a.eval x = .pointer (some ⟨b, 0, none⟩)) (h : MarksAt w b l)
    (k : wpStill Try.prog ops w Q rest (a.put o.dst (.agg (mkA l)))) : wpStill Try.prog ops w Q (o :: rest) a := by
  refine wpStill_step (fun K hK => ?_)
  have hw : Region.wanted o (yielded ops a.tmps) = true := by simp [Region.wanted, hgd]
  rw [if_pos hw]
  unfold Oper.still execOp
  simp only [ho, hx, Instr.loadAt, Instr.sureAddr, Sem.run_bind, Sem.run_pure, Result.andThen, h.load]
  rw [Oper.stillUpon_value]
  exact hK _ k

theorem MarksAt.drew {w : World} {b : Nat} {l : List Int} (h : MarksAt w b l) : MarksAt { w with drawn := w.drawn + 1 } b l := h
theorem below_drawn {B : Nat} {a w : World} (h : Below B a w) : Below B a { w with drawn := w.drawn + 1 } := ⟨h.os, h.tape, h.output, h.size, h.block⟩

theorem no_marks {l : List Int} (h : ∀ k : Nat, k < 21 → hasL l (k : Int) = false) (hw : Within 0 20 l) : l = [] := by
  rcases l with _ | ⟨x, t⟩
  · rfl
  · have h1 := hw x (by simp)
    have h2 := h x.toNat (by omega)
    have e : ((x.toNat : Nat) : Int) = x := by omega
    rw [e] at h2
    simp [hasL] at h2
theorem close_empty (q : List UInt8) (i : Nat) : closeFrom q i [] = [] := by
  induction q generalizing i with
  | nil => rfl
  | cons c t ih => unfold closeFrom; rw [if_neg (by simp), ih]
theorem step_empty (p : List UInt8) (b : UInt8) : stepL p [] b = [] := by
  unfold stepL outL closeL
  exact close_empty p 0
theorem run_empty (p : List UInt8) (s : List UInt8) : s.foldl (stepL p) [] = [] := by
  induction s with
  | nil => rfl
  | cons b t ih => rw [List.foldl_cons, step_empty]; exact ih
theorem fits_dead {p s : ByteArray} {k : Nat} (h : [] = (s.data.toList.take k).foldl (stepL p.data.toList) (startL p.data.toList)) : fitsL p.data.toList s.data.toList = false := by
  have e : runL p.data.toList s.data.toList = [] := by
    unfold runL
    rw [← List.take_append_drop k s.data.toList, List.foldl_append, ← h, run_empty]
  rw [fitsL, e]; rfl
theorem within20 {p : ByteArray} {l : List Int} (h : Within 0 p.data.toList.length l) (hp : p.size ≤ 20) : Within 0 20 l := fun x hx => by
  have := h x hx
  rw [len_eq] at this
  omega

set_option maxRecDepth 20000 in
set_option maxHeartbeats 4000000 in
theorem fitsWhole_any (p s : ByteArray) (w : World) (hp : p.size ≤ 20) (hs : s.size ≤ 2000000) :
    Calls Try.prog 50 #[.string p, .string s] w (BoolPost (fitsL p.data.toList s.data.toList) w) := by
  have HZ : Hid (fitsL p.data.toList s.data.toList = hasL (runL p.data.toList s.data.toList) p.size) := by rw [fitsL, len_eq]; rfl
  go_enter Try.func50, Try.ntmps50
  go_wp2_with fail
  go_step3
  go_wp2_with fail
  refine (startMarks_any p w hp).mono ?_
  rintro e w0 ⟨rfl, hb0⟩
  have HB0 := Lib.hid hb0
  clear hb0
  go_wp2_with (first
    | (refine wpAllocM rfl rfl ?_; intro g w1 He1 HM1 HB1 HZ1)
    | (refine wpStoreM rfl _ _ rfl rfl rfl HM1.out ?_; intro w2 h2 hg2; have HM2 := Lib.hid h2; have HG := Lib.hid hg2; clear h2 hg2))
  go_step3
  go_wp2_with fail
  have hgl : w.heap.size ≤ g := by have := He1.out; have := HB0.out.size; omega
  have HB2 : Hid (Below w.heap.size w w2) := by
    have h := HB0.out.trans (HB1.out.mono HB0.out.size)
    exact h.grown HG.out h.size (fun j hj => by injection hj with hj; omega)
  clear He1 HM1 HB1 HZ1 HB0 HG
  go_loopw [13] (fun i wr => ∃ (cur : List Int) (k : Nat), k ≤ s.size ∧ i = .int .i64 k ∧ Hid (MarksAt wr g cur) ∧ Hid (Below w.heap.size w wr) ∧
     Hid (Rise cur ∧ Within 0 p.data.toList.length cur) ∧ Hid (cur = (s.data.toList.take k).foldl (stepL p.data.toList) (startL p.data.toList))) (fun i _ => s.size - (intOf i).toNat)
  case atStart => exact ⟨startL p.data.toList, 0, Nat.zero_le _, rfl, HM2, HB2, ⟨start_rise _, start_within _⟩, rfl⟩
  case round =>
    clear HM2 HB2
    obtain ⟨cur, k, hk, rfl, HM, HB, HR, HS⟩ := hrel
    by_cases hlt : k < s.size
    · have HM1 := Lib.hid HM.out.drew
      have HB1 := Lib.hid (below_drawn HB.out)
      clear HM HB
      go_wp2_with fail
      refine wp_region_still_tail 5 (by kernel_rfl) (by kernel_rfl) ?_
      simp only [List.take_succ_cons, List.take_zero, List.drop_succ_cons, List.drop_zero]
      still_step
      refine stillLoadM rfl _ rfl rfl HM1.out ?_
      still_step
      still_step
      still_step
      refine wpStill_nil ?_
      generalize { wr with drawn := wr.drawn + 1 } = wd at HM1 HB1
      clear wr
      go_wp2_with fail
      refine (stepMarks_any p cur s[k] wd hp HR.out.2).mono ?_
      rintro e w4 ⟨rfl, hb4⟩
      have HM4 := Lib.hid (HM1.out.below hb4)
      have HB4 := Lib.hid (HB1.out.trans (hb4.mono HB1.out.size))
      have HR4 : Hid (Rise (stepL p.data.toList cur s[k]) ∧ Within 0 p.data.toList.length (stepL p.data.toList cur s[k])) := ⟨step_rise _ _ _, step_within _ HR.out.2⟩
      have HS4 := Lib.hid (run_next hlt HS.out)
      clear hb4 HM1 HB1 HR HS
      generalize stepL p.data.toList cur s[k] = nx at HR4 HS4
      go_wp2_with (first
        | (refine wpStoreM rfl _ _ rfl rfl rfl HM4.out ?_; intro w5 h5 hg5; have HM5 := Lib.hid h5; have HB5 := Lib.hid (HB4.out.grown hg5 HB4.out.size (fun j hj => by injection hj with hj; omega)); clear h5 hg5)
        | refine wpLoadM rfl _ rfl rfl HM5.out ?_)
      clear HM4 HB4
      go_loop [23] (fun i => ∃ j : Nat, j ≤ 21 ∧ i = .int .i64 j ∧ Hid (∀ n : Nat, n < j → hasL nx (n : Int) = false)) (fun i => 21 - (intOf i).toNat)
      case atStart => exact ⟨0, by omega, rfl, fun n hn => absurd hn (by omega)⟩
      case round =>
        obtain ⟨j, hj, rfl, HO⟩ := hrel
        by_cases hj2 : j < 21
        · rcases h1 : hasL nx (j : Int) with _ | _
          · go_wp2_with (refine wpIndexM rfl _ _ rfl rfl rfl hj2 h1 ?_)
            go_round
            case rel => exact ⟨j + 1, by omega, by go_num, fun n hn => by
              by_cases e : n = j
              · subst e; exact h1
              · exact HO.out n (by omega)⟩
            case measure => simp [intOf]; omega
          · go_wp2_with (refine wpIndexM rfl _ _ rfl rfl rfl hj2 h1 ?_)
            go_roundw
            case rel => exact ⟨nx, k + 1, by omega, by go_num, HM5, HB5, HR4, HS4⟩
            case measure => simp [intOf]; omega
        · have HE : Hid (fitsL p.data.toList s.data.toList = false) := by
            have e := no_marks (fun n hn => HO.out n (by omega)) (within20 HR4.out.2 hp)
            have h := HS4.out
            rw [e] at h
            exact fits_dead h
          clear HO
          go_wp2_with fail
          go_ret
          exact ⟨ret_bool HE.out.symm, HB5.out⟩
    · have HE : Hid (cur = runL p.data.toList s.data.toList) := by have := HS.out; rw [take_all s k (by omega)] at this; exact this
      have hcell := HM.out.cell p.size (by omega)
      clear HS
      go_wp2_with fail
      go_ret
      exact ⟨ret_bool (by rw [HZ.out, HE.out]), HB.out⟩

end Go.Proofs.Ytcplooeohdhlkaa
