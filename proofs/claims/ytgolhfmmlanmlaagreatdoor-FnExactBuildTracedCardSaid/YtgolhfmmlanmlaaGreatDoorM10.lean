/- Texts of one claim, joined in their order. -/
import Derived.Test.YtgolhfmmlanmlaaGreatDoorM9
import Derived.Test.YtgolhfmmlanmlaaGreatDoorM5
import Derived.Test.YtgolhfmmlanmlaaGreatDoorM1
import Derived.Test.YtgolhfmmlanmlaaGreatDoorM6

/- Walks: where a trace of a task and these inputs lies. -/
namespace Go.Proofs.YtgolhfmmlanmlaaGreatDoor
open Go.RowKit Pth

/-- The first place where p. -/
def idxK (p : TrT → Bool) (T : List TrT) : Int := match T.findIdx? p with | some k => (k : Int) | none => -1
theorem idx_next {T : List TrT} {p : TrT → Bool} {k : Nat} (hk : k < T.length) (h : (T.take k).any p = false) (hn : p T[k] = false) : (T.take (k + 1)).any p = false := by
  rw [List.take_succ_eq_append_getElem hk, List.any_append, h]; simp [hn]
theorem idx_here {T : List TrT} {p : TrT → Bool} {k : Nat} (hk : k < T.length) (h : (T.take k).any p = false) (hn : p T[k] = true) : idxK p T = (k : Int) := by
  have : T.findIdx? p = some k := by
    rw [List.findIdx?_eq_some_iff_getElem]
    refine ⟨hk, hn, fun j hj => ?_⟩
    have := List.any_eq_false.1 h (T[j]'(by omega)) (by rw [List.mem_take_iff_getElem]; exact ⟨j, by omega, rfl⟩)
    simpa using this
  unfold idxK; rw [this]
theorem idx_none {T : List TrT} {p : TrT → Bool} (h : T.any p = false) : idxK p T = -1 := by
  have : T.findIdx? p = none := by
    rw [List.findIdx?_eq_none_iff]
    intro x hx
    have := List.any_eq_false.1 h x hx
    simpa using this
  unfold idxK; rw [this]
theorem idx_any (p : TrT → Bool) (T : List TrT) : decide (0 ≤ idxK p T) = T.any p := by
  rw [Bool.eq_iff_iff, decide_eq_true_eq]
  constructor
  · intro h
    by_cases hp : T.any p = true
    · exact hp
    · rw [idx_none (by simpa using hp)] at h; omega
  · intro h
    unfold idxK
    split
    · omega
    · rename_i hn
      rw [List.findIdx?_eq_none_iff] at hn
      obtain ⟨x, hx, hpx⟩ := List.any_eq_true.1 h
      rw [hn x hx] at hpx; cases hpx
theorem idx_same {p q : TrT → Bool} {T : List TrT} (h : ∀ x ∈ T, p x = q x) : idxK p T = idxK q T := by
  have : T.findIdx? p = T.findIdx? q := by
    induction T with
    | nil => rfl
    | cons x r ih =>
      rw [List.findIdx?_cons, List.findIdx?_cons, h x (by simp), ih (fun y hy => h y (List.mem_cons_of_mem _ hy))]
  unfold idxK; rw [this]
/-- A function value that tells of each trace of D whether p holds. -/
def TestT (w0 : World) (fv : Value) (D : TrT → Prop) (p : TrT → Bool) : Prop :=
  ∃ K cap, fv = .func (.func K) #[] cap ∧ (∀ args w, (callFunc K args).run Tryz.prog w = .ok (.enter K args) w) ∧ ∀ W, Below w0.heap.size w0 W → ∀ x t, TrV W x t → D t → Calls Tryz.prog K (#[x] ++ cap) W (BoolPost (p t) W)

set_option maxRecDepth 20000 in
set_option maxHeartbeats 8000000 in
theorem indexT_any (T : List TrT) (p : TrT → Bool) (D : TrT → Prop) (v fv : Value) (w : World) (hrow : RowT w v T) (ht : TestT w fv D p) (hD : ∀ x ∈ T, D x) :
    Calls Tryz.prog 113 #[v, fv] w fun e w' => e = .returned (.int .i64 (idxK p T)) ∧ Below w.heap.size w w' := by
  obtain ⟨a, cap0, rfl, hc1, hc2, hat⟩ := hrow.traces
  obtain ⟨K, cap, rfl, hent, ht⟩ := ht
  have HT := Lib.hid ht
  have HAT := Lib.hid hat
  have HD := Lib.hid hD
  clear hrow hat ht hD
  unfold maxLen at hc2
  obtain ⟨R, hR⟩ : ∃ R, idxK p T = R := ⟨_, rfl⟩
  have HRR := Lib.hid hR
  rw [hR]
  clear hR
  go_enter Tryz.func113, Tryz.ntmps113
  go_wp2_with fail
  go_loopw [8] (fun i wr => ∃ k : Nat, k ≤ T.length ∧ i = .int .i64 k ∧ Hid ((T.take k).any p = false) ∧ Hid (Below w.heap.size w wr)) (fun i _ => T.length - (intOf i).toNat)
  case atStart => exact ⟨0, Nat.zero_le _, by go_num, by simp [Hid], Below.refl _ _⟩
  case round =>
    obtain ⟨k, hk, rfl, HO, HB⟩ := hrel
    by_cases hlt : k < T.length
    · obtain ⟨g, o, a2, c2, rfl, hg, ⟨k0, k1, k2, k3⟩, hrk⟩ := HAT.out k hlt
      have s0 := (HB.out.cell (p := ⟨g, o + k * 4, none⟩) hg).trans k0
      have s1 := (HB.out.cell (p := ⟨g, o + k * 4 + 1, none⟩) hg).trans k1
      have s2 := (HB.out.cell (p := ⟨g, o + k * 4 + 2, none⟩) hg).trans k2
      have s3 := (HB.out.cell (p := ⟨g, o + k * 4 + 3, none⟩) hg).trans k3
      have hltz : (k : Int) < (T.length : Int) := by omega
      have HC := HT.out wr HB.out (trV (.slice a2 T[k].2.1.length c2) T[k]) T[k] ⟨a2, c2, rfl, hrk.below HB.out⟩ (HD.out _ (List.getElem_mem hlt))
      clear k0 k1 k2 k3 hrk
      rcases hb : p T[k] with _ | _
      · have HS := Lib.hid (idx_next hlt HO.out hb)
        rw [hb] at HC
        have HCC := Lib.hid HC
        clear HC hb HO
        generalize T[k] = x at *
        obtain ⟨x1, xi, x2, x3⟩ := x
        unfold trV at HCC
        simp only at s0 s1 s2 s3 HCC
        generalize xi.length = n at *
        go_wp2_with fail
        refine HCC.out.mono ?_
        rintro e w1 ⟨rfl, hb1⟩
        have HB1 := Lib.hid (bth HB.out hb1 (Nat.le_refl _))
        clear hb1 s0 s1 s2 s3 HCC
        go_wp2_with fail
        go_roundw
        case rel => exact ⟨k + 1, by omega, by go_num, HS, HB1⟩
        case measure => simp [intOf]; omega
      · have HS : Hid (R = (k : Int)) := by rw [← HRR.out]; exact idx_here hlt HO.out hb
        rw [hb] at HC
        have HCC := Lib.hid HC
        clear HC hb HO
        generalize T[k] = x at *
        obtain ⟨x1, xi, x2, x3⟩ := x
        unfold trV at HCC
        simp only at s0 s1 s2 s3 HCC
        generalize xi.length = n at *
        go_wp2_with fail
        refine HCC.out.mono ?_
        rintro e w1 ⟨rfl, hb1⟩
        have HB1 := Lib.hid (bth HB.out hb1 (Nat.le_refl _))
        clear hb1 s0 s1 s2 s3 HCC
        go_wp2_with fail
        go_ret
        exact ⟨by rw [HS.out] <;> rfl, HB1.out⟩
    · have HS : Hid (R = -1) := by
        rw [← HRR.out]
        have := HO.out
        rw [List.take_of_length_le (by omega)] at this
        exact idx_none this
      have hltz : ¬ ((k : Int) < (T.length : Int)) := by omega
      clear HO
      go_wp2_with fail
      go_ret
      exact ⟨by rw [HS.out] <;> rfl, HB.out⟩

set_option maxRecDepth 20000 in
set_option maxHeartbeats 8000000 in
theorem making1_any (t0 : Int) (ins0 : List (List UInt8)) (b : Nat) (t : TrT) (x : Value) (w : World) (hv : TrV w x t) (h10 : t.2.1.length ≤ 10) (hb : BlkM w b t0 ins0) :
    Calls Tryz.prog 114 #[x, .pointer (some ⟨b, 0, none⟩)] w (BoolPost (decide (t.1 = t0) && (List.range 10).all (fun i => decide (padT t.2.1 i = padT ins0 i))) w) := by
  obtain ⟨t1, ins, x1, x2⟩ := t
  obtain ⟨a, c, rfl, hr⟩ := hv
  simp only at hr h10 ⊢
  unfold trV
  simp only
  obtain ⟨_, _, he, hc1, hc2, _⟩ := hr.texts
  injection he with ea _ ec
  subst ea ec
  unfold maxLen at hc2
  have hbs := lt_of_block hb
  obtain ⟨wa, hwa⟩ : ∃ wa, wa = w.alloc (.cells #[.int .i64 t1, .slice a ins.length c, .string ⟨x1.toArray⟩, .int .i64 x2] 80) := ⟨_, rfl⟩
  have P0 : Hid (Blk4 wa w.heap.size 80 (.int .i64 t1) (.slice a ins.length c) (.string ⟨x1.toArray⟩) (.int .i64 x2)) := by rw [hwa]; exact Blk4.new
  have hAw : Below w.heap.size w wa := by rw [hwa]; exact (Below.refl w.heap.size w).alloc (Nat.le_refl _) _
  have HA := Lib.hid hAw
  have hsz : w.heap.size < wa.heap.size := by rw [hwa]; simp
  have M0 := Lib.hid (hb.below hAw hbs)
  have HC := Lib.hid (makingOf_any t1 ins _ wa.drew (hr.below (Below.drew hAw)) h10)
  have HWA : Hid (w.alloc (.cells #[.int .i64 t1, .slice a ins.length c, .string ⟨x1.toArray⟩, .int .i64 x2] 80) = wa) := by rw [hwa]; rfl
  have hrun := run_pads ins ins0
  have ha := P0.out.cells
  have hm := M0.out.cells
  have ks : (wa.drew.cell? ⟨w.heap.size, 0, none⟩ = some (.int .i64 t1) ∧ wa.drew.cell? ⟨w.heap.size, 1, none⟩ = some (.slice a ins.length c) ∧ wa.drew.cell? ⟨w.heap.size, 2, none⟩ = some (.string ⟨x1.toArray⟩) ∧ wa.drew.cell? ⟨w.heap.size, 3, none⟩ = some (.int .i64 x2)) ∧ (wa.drew.cell? ⟨b, 0, none⟩ = some (.int .i64 t0) ∧ wa.drew.cell? ⟨b, 1, none⟩ = some (.string ⟨(padT ins0 0).toArray⟩) ∧ wa.drew.cell? ⟨b, 2, none⟩ = some (.string ⟨(padT ins0 1).toArray⟩) ∧ wa.drew.cell? ⟨b, 3, none⟩ = some (.string ⟨(padT ins0 2).toArray⟩) ∧ wa.drew.cell? ⟨b, 4, none⟩ = some (.string ⟨(padT ins0 3).toArray⟩) ∧ wa.drew.cell? ⟨b, 5, none⟩ = some (.string ⟨(padT ins0 4).toArray⟩) ∧ wa.drew.cell? ⟨b, 6, none⟩ = some (.string ⟨(padT ins0 5).toArray⟩) ∧ wa.drew.cell? ⟨b, 7, none⟩ = some (.string ⟨(padT ins0 6).toArray⟩) ∧ wa.drew.cell? ⟨b, 8, none⟩ = some (.string ⟨(padT ins0 7).toArray⟩) ∧ wa.drew.cell? ⟨b, 9, none⟩ = some (.string ⟨(padT ins0 8).toArray⟩) ∧ wa.drew.cell? ⟨b, 10, none⟩ = some (.string ⟨(padT ins0 9).toArray⟩)) := ⟨ha, hm⟩
  have PD : Hid (Blk4 wa.drew w.heap.size 80 (.int .i64 t1) (.slice a ins.length c) (.string ⟨x1.toArray⟩) (.int .i64 x2)) := P0.out
  have MD : Hid (BlkM wa.drew b t0 ins0) := M0.out
  have hbw : b < wa.drew.heap.size := by show b < wa.heap.size; omega
  have hsw : w.heap.size < wa.drew.heap.size := hsz
  clear ha hm hwa hAw hr hb
  generalize (List.range 10).all (fun i => decide (padT ins i = padT ins0 i)) = B at *
  unfold makV at HC
  by_cases ht : t1 = t0
  · subst ht
    rcases B with _ | _
    all_goals
      go_enter Tryz.func114, Tryz.ntmps114
      go_wp2_with fail
      rw [HWA.out]
      go_region_held3 (fun w' => (w'.cell? ⟨w.heap.size, 0, none⟩ = some (.int .i64 t1) ∧ w'.cell? ⟨w.heap.size, 1, none⟩ = some (.slice a ins.length c) ∧ w'.cell? ⟨w.heap.size, 2, none⟩ = some (.string ⟨x1.toArray⟩) ∧ w'.cell? ⟨w.heap.size, 3, none⟩ = some (.int .i64 x2)) ∧ (w'.cell? ⟨b, 0, none⟩ = some (.int .i64 t1) ∧ w'.cell? ⟨b, 1, none⟩ = some (.string ⟨(padT ins0 0).toArray⟩) ∧ w'.cell? ⟨b, 2, none⟩ = some (.string ⟨(padT ins0 1).toArray⟩) ∧ w'.cell? ⟨b, 3, none⟩ = some (.string ⟨(padT ins0 2).toArray⟩) ∧ w'.cell? ⟨b, 4, none⟩ = some (.string ⟨(padT ins0 3).toArray⟩) ∧ w'.cell? ⟨b, 5, none⟩ = some (.string ⟨(padT ins0 4).toArray⟩) ∧ w'.cell? ⟨b, 6, none⟩ = some (.string ⟨(padT ins0 5).toArray⟩) ∧ w'.cell? ⟨b, 7, none⟩ = some (.string ⟨(padT ins0 6).toArray⟩) ∧ w'.cell? ⟨b, 8, none⟩ = some (.string ⟨(padT ins0 7).toArray⟩) ∧ w'.cell? ⟨b, 9, none⟩ = some (.string ⟨(padT ins0 8).toArray⟩) ∧ w'.cell? ⟨b, 10, none⟩ = some (.string ⟨(padT ins0 9).toArray⟩))) (first | exact ks)
        (first | (go_at_call 112; refine HC.out.mono ?_; rintro e w5 ⟨rfl, hb5⟩
                  have ks := And.intro (PD.out.below hb5 hsw).cells (MD.out.below hb5 hbw).cells
                  have HB5 := Lib.hid (bth (Below.drew HA.out) hb5 (Nat.le_refl _))
                  clear hb5))
      go_wp2_with fail
      go_ret
      exact ⟨ret_bool (by simp), HB5.out⟩
  · have ht1 : (t1 == t0) = false := by simp [ht]
    clear hrun
    go_enter Tryz.func114, Tryz.ntmps114
    go_wp2_with fail
    rw [HWA.out]
    go_region_held3 (fun w' => (w'.cell? ⟨w.heap.size, 0, none⟩ = some (.int .i64 t1) ∧ w'.cell? ⟨w.heap.size, 1, none⟩ = some (.slice a ins.length c) ∧ w'.cell? ⟨w.heap.size, 2, none⟩ = some (.string ⟨x1.toArray⟩) ∧ w'.cell? ⟨w.heap.size, 3, none⟩ = some (.int .i64 x2)) ∧ (w'.cell? ⟨b, 0, none⟩ = some (.int .i64 t0) ∧ w'.cell? ⟨b, 1, none⟩ = some (.string ⟨(padT ins0 0).toArray⟩) ∧ w'.cell? ⟨b, 2, none⟩ = some (.string ⟨(padT ins0 1).toArray⟩) ∧ w'.cell? ⟨b, 3, none⟩ = some (.string ⟨(padT ins0 2).toArray⟩) ∧ w'.cell? ⟨b, 4, none⟩ = some (.string ⟨(padT ins0 3).toArray⟩) ∧ w'.cell? ⟨b, 5, none⟩ = some (.string ⟨(padT ins0 4).toArray⟩) ∧ w'.cell? ⟨b, 6, none⟩ = some (.string ⟨(padT ins0 5).toArray⟩) ∧ w'.cell? ⟨b, 7, none⟩ = some (.string ⟨(padT ins0 6).toArray⟩) ∧ w'.cell? ⟨b, 8, none⟩ = some (.string ⟨(padT ins0 7).toArray⟩) ∧ w'.cell? ⟨b, 9, none⟩ = some (.string ⟨(padT ins0 8).toArray⟩) ∧ w'.cell? ⟨b, 10, none⟩ = some (.string ⟨(padT ins0 9).toArray⟩))) (first | exact ks)
      (first | (go_at_call 112; refine HC.out.mono ?_; rintro e w5 ⟨rfl, hb5⟩
                have ks := And.intro (PD.out.below hb5 hsw).cells (MD.out.below hb5 hbw).cells
                have HB5 := Lib.hid (bth (Below.drew HA.out) hb5 (Nat.le_refl _))
                clear hb5))
    go_wp2_with fail
    go_ret
    exact ⟨ret_bool (by simp [ht]), HB5.out⟩

end Go.Proofs.YtgolhfmmlanmlaaGreatDoor

/- Walks: strings.Clone. -/
namespace Go.Proofs.YtgolhfmmlanmlaaGreatDoor
open Go.RowKit Pth

set_option maxHeartbeats 1000000 in
theorem clone_any (s : List UInt8) (w : World) (hs : s.length ≤ 1000) : Calls Tryz.prog 116 #[.string ⟨s.toArray⟩] w fun e w' => e = .returned (.string ⟨s.toArray⟩) ∧ Below w.heap.size w w' := by
  have HC := Lib.hid (Tryz.stringslite_Clone ⟨s.toArray⟩ w (by simp [ByteArray.size]; omega))
  clear hs
  go_enter Tryz.func116, Tryz.ntmps116
  go_wp2_with fail
  refine HC.out.mono ?_
  rintro e w1 ⟨rfl, hb1⟩
  go_wp2_with fail
  go_ret
  exact ⟨rfl, hb1⟩
end Go.Proofs.YtgolhfmmlanmlaaGreatDoor

/- Walks: whether it is a trace of the plan, of both; copies of a trace; where one lies. -/
namespace Go.Proofs.YtgolhfmmlanmlaaGreatDoor
open Go.RowKit Pth

theorem find_idx (T : List TrT) (t : Int) (ins : List (List UInt8)) : idxK (isT t ins) T = findK T t ins := rfl
theorem find_pads {T : List TrT} {t : Int} {ins : List (List UInt8)} (h : SameLen T t ins.length) : idxK (fun x => decide (x.1 = t) && (List.range 10).all (fun i => decide (padT x.2.1 i = padT ins i))) T = findK T t ins := by
  rw [← find_idx]
  refine idx_same fun x hx => ?_
  obtain ⟨h1, h2⟩ := h x hx
  unfold isT
  by_cases e : x.1 = t
  · rw [pads_same (h2 e) h1]
  · rw [decide_eq_false e]; rfl
theorem isSome_findK (T : List TrT) (t : Int) (ins : List (List UInt8)) : decide (0 ≤ findK T t ins) = (findT T t ins).isSome := by
  unfold findK
  cases findT T t ins <;> simp
theorem resA_one (r : ResT) : resA [r] = resOk r := by simp [resA]
theorem row_lit (w : World) (o : ResT) : RowR (w.alloc (.cells #[.string ⟨o.1.toArray⟩, .int .i64 o.2] 75)) (.slice (some ⟨w.heap.size, 0, none⟩) 1 1) [o] := by
  refine ⟨_, 1, rfl, rfl, Nat.le_refl _, by unfold maxLen; omega, fun k hk => ⟨w.heap.size, 0, rfl, by simp, ?_⟩⟩
  have h := cells_new w (RC [o]) 75 k (RC [o])[k] (by rw [List.getElem?_eq_getElem hk])
  rw [add_addr] at h
  exact h
theorem texts_long {l : List (List UInt8)} (h : l.length ≤ 10) : textsL l = !longL9 l := by
  rw [Bool.eq_iff_iff]
  unfold textsL longL9
  simp only [Bool.and_eq_true, decide_eq_true_eq, List.all_eq_true, Bool.not_eq_true', List.any_eq_false]
  constructor
  · intro hh x hx; have := hh.1 x hx; omega
  · intro hh; exact ⟨fun x hx => by have := hh x hx; omega, h⟩

set_option maxRecDepth 20000 in
set_option maxHeartbeats 8000000 in
theorem placeOf_any (T : List TrT) (t : Int) (ins : List (List UInt8)) (v x : Value) (w : World) (hT : RowT w v T) (hr : RowV w x (S ins)) (h10 : ins.length ≤ 10) (hs : SameLen T t ins.length) :
    Calls Tryz.prog 81 #[v, .int .i64 t, x] w fun e w' => e = .returned (.int .i64 (findK T t ins)) ∧ Below w.heap.size w w' := by
  have HT := Lib.hid hT
  have HC := Lib.hid (makingOf_any t ins x w hr h10)
  obtain ⟨a, cap, rfl, hc1, hc2, _⟩ := hT.traces
  obtain ⟨ai, ci, rfl, hi1, hi2, _⟩ := hr.texts
  unfold maxLen at hc2 hi2
  have HI : Hid (∀ W b, Below w.heap.size w W → BlkM W b t ins → Calls Tryz.prog 113 #[.slice a T.length cap, .func (.func 114) #[] #[.pointer (some ⟨b, 0, none⟩)]] W fun e w' => e = .returned (.int .i64 (findK T t ins)) ∧ Below W.heap.size W w') := by
    intro W b hb hm
    rw [← find_pads hs]
    refine indexT_any T _ (fun x => x.2.1.length ≤ 10) _ _ W (HT.out.below hb) ⟨114, #[.pointer (some ⟨b, 0, none⟩)], rfl, enters_of Tryz.func114 (by kernel_rfl) rfl, fun W2 hW2 x z hz hD => ?_⟩ (fun x hx => (hs x hx).1)
    exact making1_any t ins b z x W2 hz hD (hm.below hW2 (lt_of_block hm))
  have hmf : ∀ (fn : Fn) (first cap : Array Value) (w : World), (Instr.makeFunc fn first cap).run Tryz.prog w = .ok (.func fn first cap) w := fun _ _ _ _ => rfl
  clear hT hr hs
  unfold makV at HC
  go_enter Tryz.func81, Tryz.ntmps81
  go_wp2_with fail
  refine HC.out.mono ?_
  rintro e w1 ⟨rfl, hb1⟩
  have HB1 := Lib.hid hb1
  clear hb1 HC
  go_wp2_with fail
  refine (HI.out _ w1.heap.size (HB1.out.alloc HB1.out.size _) BlkM.new).mono ?_
  rintro e w2 ⟨rfl, hb2⟩
  have HB2 := Lib.hid ((HB1.out.alloc HB1.out.size _).trans (hb2.mono (HB1.out.alloc HB1.out.size _).size))
  clear hb2 HI
  go_wp2_with fail
  go_ret
  exact ⟨rfl, HB2.out⟩

set_option maxRecDepth 20000 in
set_option maxHeartbeats 8000000 in
theorem implIns9_b (ls : List (List Int)) (l : List Int) (bs : List Bool) (rs : List (List OpT)) (t : Int) (ins : List (List UInt8)) {b : Bool} (hb : insOk ls bs t ins = b) (v x : Value) (w : World) (hp : PlanV w v ls l bs rs) (hr : RowV w x (S ins)) (hpl : planA ls l bs rs = true) (hx : ∀ y ∈ ins, y.length ≤ maxLen) :
    Calls Tryz.prog 110 #[v, .int .i64 t, x] w (BoolPost b w) := by
  have hbl := (plan_parts hpl).2.1
  have HV := Lib.hid hp
  obtain ⟨nv, ov, sv, rv, rfl, h1, h2, h3, h4⟩ := hp
  obtain ⟨as0, cs, rfl, hs1, hs2, hats⟩ := h3.boolsW
  obtain ⟨an, cn, rfl, hn1, hn2, hatn⟩ := h1.lists
  obtain ⟨ao, co, rfl, ho1, ho2, hato⟩ := h2.ints
  obtain ⟨ar, cr, rfl, hr1, hr2, hatr⟩ := h4.lists
  clear h1 h2 h3 h4
  unfold maxLen at hs2 hn2 ho2 hr2
  obtain ⟨wa, hwa⟩ : ∃ wa, wa = w.alloc (.cells #[.slice an ls.length cn, .slice ao l.length co, .slice as0 bs.length cs, .slice ar rs.length cr] 42) := ⟨_, rfl⟩
  have hsz : w.heap.size < wa.heap.size := by rw [hwa]; simp
  have P0 : Hid (Blk4 wa w.heap.size 42 (.slice an ls.length cn) (.slice ao l.length co) (.slice as0 bs.length cs) (.slice ar rs.length cr)) := by rw [hwa]; exact Blk4.new
  have HA : Hid (Below w.heap.size w wa) := by rw [hwa]; exact (Below.refl w.heap.size w).alloc (Nat.le_refl _) _
  have HWA : Hid (w.alloc (.cells #[.slice an ls.length cn, .slice ao l.length co, .slice as0 bs.length cs, .slice ar rs.length cr] 42) = wa) := by rw [hwa]; rfl
  have HVW : Hid (∀ W, Below wa.heap.size wa W → PlanV W (.agg #[.slice an ls.length cn, .slice ao l.length co, .slice as0 bs.length cs, .slice ar rs.length cr]) ls l bs rs) := fun W h => HV.out.below (bth HA.out h (Nat.le_refl _))
  clear hwa
  have HT := Lib.hid (fun W (h : Below wa.heap.size wa W) => contains_anyO9 ins x W (hr.below (bth HA.out h (Nat.le_refl _))) hx)
  obtain ⟨ai, ci, rfl, hi1, hi2, _⟩ := hr.texts
  unfold maxLen at hi2
  have HB := Lib.hid hb
  obtain ⟨c0, c1, c2, c3⟩ := P0.out.cells
  obtain ⟨d, hd⟩ : ∃ d, (decide (0 ≤ t) && decide (t < (ls.length : Int))) = d := ⟨_, rfl⟩
  have HG : Hid (GraphV wa (.agg #[.slice an ls.length cn, .slice ao l.length co]) ls l) := by
    obtain ⟨nv', ov', sv', rv', he, g1, g2, _⟩ := HVW.out wa (Below.refl _ _)
    injection he with he
    simp only [Array.mk.injEq, List.cons.injEq, and_true] at he
    obtain ⟨e1, e2, _, _⟩ := he
    exact ⟨nv', ov', by rw [e1, e2], g1, g2⟩
  have HCT := Lib.hid (isTask_b HG.out hd)
  have HATS := Lib.hid hats
  have HATN := Lib.hid hatn
  clear hr hx hb hats hatn hato hatr
  rcases d with _ | _
  · have HE : Hid (b = false) := by
      rw [← HB.out]; show _ = _
      unfold insOk
      rw [hd]; simp
    clear hd HB hbl hpl
    go_enter Tryz.func110, Tryz.ntmps110
    go_wp2_with fail
    rw [HWA.out]
    refine HCT.out.mono ?_
    rintro e w1 ⟨rfl, hb1⟩
    have HB1 := Lib.hid (bth HA.out hb1 (Nat.le_refl _))
    clear hb1 c0 c1 c2 c3
    go_wp2_with fail
    go_ret
    exact ⟨by rw [HE.out] <;> rfl, HB1.out⟩
  obtain ⟨j, hj⟩ : ∃ j : Nat, t = j := ⟨t.toNat, by simp only [Bool.and_eq_true, decide_eq_true_eq] at hd; omega⟩
  subst hj
  have hjl : j < ls.length := by simp only [Bool.and_eq_true, decide_eq_true_eq] at hd; omega
  have hjb : j < bs.length := by omega
  have h10 := (plan_task hpl hjl).1
  have HE : Hid (b = (!bs[j] && (decide (ins.length = ls[j].length) && !longL9 ins))) := by
    rw [← HB.out]; show _ = _
    unfold insOk
    rw [Int.toNat_natCast, getD_at _ hjb, getD_at _ hjl, hd, Bool.true_and, Bool.and_assoc]
    congr 1
    by_cases hl : ins.length = ls[j].length
    · rw [texts_long (by omega)]
    · rw [decide_eq_false hl, Bool.false_and, Bool.false_and]
  obtain ⟨gs, os, rfl, hgs, hcs⟩ := HATS.out j hjb
  have hsc := (HA.out.cell (p := ⟨gs, os + j, none⟩) hgs).trans hcs
  have hjz : (j : Int) < (bs.length : Int) := by omega
  have hjn : (j : Int) < (ls.length : Int) := by omega
  obtain ⟨gn, on, a2, c2', rfl, hgn, hcn, hrn⟩ := HATN.out j hjl
  have hnc := (HA.out.cell (p := ⟨gn, on + j, none⟩) hgn).trans hcn
  have hgsa : gs < wa.heap.size := by omega
  have hgna : gn < wa.heap.size := by omega
  clear hd HB hcs hcn hrn HATS HATN hbl hpl h10 HG
  generalize bs[j] = s at *
  generalize hnl : ls[j].length = nl at *
  rcases s with _ | _
  · by_cases hl : ins.length = nl
    · have hl1 : ((ins.length : Int) == (nl : Int)) = true := by simp [hl]
      have HE2 : Hid (b = !longL9 ins) := by rw [HE.out, decide_eq_true hl]; rfl
      clear HE hl
      generalize longL9 ins = tb at *
      go_enter Tryz.func110, Tryz.ntmps110
      go_wp2_with fail
      rw [HWA.out]
      refine HCT.out.mono ?_
      rintro e w1 ⟨rfl, hb1⟩
      have K1 := Lib.hid hb1
      have s1 := (hb1.cell (p := ⟨gs, os + j, none⟩) hgsa).trans hsc
      have s2 := (hb1.cell (p := ⟨gn, on + j, none⟩) hgna).trans hnc
      clear hb1 c0 c1 c2 c3 hsc hnc
      obtain ⟨c0, c1, c2, c3⟩ := (P0.out.below K1.out hsz).cells
      go_wp2_with fail
      refine (HT.out w1 K1.out).mono ?_
      rintro e w2 ⟨rfl, hw2⟩
      obtain rfl := hw2
      go_wp2_with fail
      go_ret
      exact ⟨by rw [HE2.out] <;> rfl, bth HA.out K1.out (Nat.le_refl _)⟩
    · have hl1 : ((ins.length : Int) == (nl : Int)) = false := by simp; omega
      have HE2 : Hid (b = false) := by rw [HE.out, decide_eq_false hl]; rfl
      clear HE hl HT
      go_enter Tryz.func110, Tryz.ntmps110
      go_wp2_with fail
      rw [HWA.out]
      refine HCT.out.mono ?_
      rintro e w1 ⟨rfl, hb1⟩
      have K1 := Lib.hid hb1
      have s1 := (hb1.cell (p := ⟨gs, os + j, none⟩) hgsa).trans hsc
      have s2 := (hb1.cell (p := ⟨gn, on + j, none⟩) hgna).trans hnc
      clear hb1 c0 c1 c2 c3 hsc hnc
      obtain ⟨c0, c1, c2, c3⟩ := (P0.out.below K1.out hsz).cells
      go_wp2_with fail
      go_ret
      exact ⟨by rw [HE2.out] <;> rfl, bth HA.out K1.out (Nat.le_refl _)⟩
  · have HE2 : Hid (b = false) := by rw [HE.out]; rfl
    clear HE HT
    go_enter Tryz.func110, Tryz.ntmps110
    go_wp2_with fail
    rw [HWA.out]
    refine HCT.out.mono ?_
    rintro e w1 ⟨rfl, hb1⟩
    have K1 := Lib.hid hb1
    have s1 := (hb1.cell (p := ⟨gs, os + j, none⟩) hgsa).trans hsc
    clear hb1 c0 c1 c2 c3 hsc hnc
    obtain ⟨c0, c1, c2, c3⟩ := (P0.out.below K1.out hsz).cells
    go_wp2_with fail
    go_ret
    exact ⟨by rw [HE2.out] <;> rfl, bth HA.out K1.out (Nat.le_refl _)⟩

set_option maxRecDepth 20000 in
set_option maxHeartbeats 8000000 in
theorem specTrace9_b (ls : List (List Int)) (l : List Int) (bs : List Bool) (rs : List (List OpT)) (t : TrT) {b : Bool} (hb : traceA ls bs t = b) (v x : Value) (w : World) (hp : PlanV w v ls l bs rs) (ht : TrV w x t) (hpl : planA ls l bs rs = true) (hx : HeldT maxLen t) :
    Calls Tryz.prog 73 #[v, x] w (BoolPost b w) := by
  obtain ⟨t1, ins, x1, x2⟩ := t
  obtain ⟨ai, ci, rfl, hr⟩ := ht
  obtain ⟨hx1, hx2⟩ := hx
  simp only at hr hx1 hx2
  unfold trV
  simp only
  obtain ⟨_, _, he, hi1, hi2, _⟩ := hr.texts
  injection he with ea _ ec
  subst ea ec
  unfold maxLen at hi2
  have HV := Lib.hid hp
  obtain ⟨nv, ov, sv, rv, rfl, h1, h2, h3, h4⟩ := hp
  obtain ⟨as0, cs, rfl, hs1, hs2, hats⟩ := h3.boolsW
  obtain ⟨an, cn, rfl, hn1, hn2, hatn⟩ := h1.lists
  obtain ⟨ao, co, rfl, ho1, ho2, hato⟩ := h2.ints
  obtain ⟨ar, cr, rfl, hr1, hr2, hatr⟩ := h4.lists
  clear h1 h2 h3 h4
  unfold maxLen at hs2 hn2 ho2 hr2
  obtain ⟨wa, hwa⟩ : ∃ wa, wa = w.alloc (.cells #[.slice an ls.length cn, .slice ao l.length co, .slice as0 bs.length cs, .slice ar rs.length cr] 42) := ⟨_, rfl⟩
  have hsz : w.heap.size < wa.heap.size := by rw [hwa]; simp
  have P0 : Hid (Blk4 wa w.heap.size 42 (.slice an ls.length cn) (.slice ao l.length co) (.slice as0 bs.length cs) (.slice ar rs.length cr)) := by rw [hwa]; exact Blk4.new
  have HA : Hid (Below w.heap.size w wa) := by rw [hwa]; exact (Below.refl w.heap.size w).alloc (Nat.le_refl _) _
  have HWA : Hid (w.alloc (.cells #[.slice an ls.length cn, .slice ao l.length co, .slice as0 bs.length cs, .slice ar rs.length cr] 42) = wa) := by rw [hwa]; rfl
  have HVW : Hid (∀ W, Below wa.heap.size wa W → PlanV W (.agg #[.slice an ls.length cn, .slice ao l.length co, .slice as0 bs.length cs, .slice ar rs.length cr]) ls l bs rs) := fun W h => HV.out.below (bth HA.out h (Nat.le_refl _))
  clear hwa
  obtain ⟨wb, hwb⟩ : ∃ wb, wb = wa.alloc (.cells #[.int .i64 t1, .slice ai ins.length ci, .string ⟨x1.toArray⟩, .int .i64 x2] 80) := ⟨_, rfl⟩
  have Q0 : Hid (Blk4 wb wa.heap.size 80 (.int .i64 t1) (.slice ai ins.length ci) (.string ⟨x1.toArray⟩) (.int .i64 x2)) := by rw [hwb]; exact Blk4.new
  have hAB : Below wa.heap.size wa wb := by rw [hwb]; exact (Below.refl wa.heap.size wa).alloc (Nat.le_refl _) _
  have HAB := Lib.hid hAB
  have hsb : wb.heap.size = wa.heap.size + 1 := by rw [hwb]; simp
  have hsa : wa.heap.size < wb.heap.size := by omega
  have PB := Lib.hid (P0.out.below hAB hsz)
  have HWB : Hid ((w.alloc (.cells #[.slice an ls.length cn, .slice ao l.length co, .slice as0 bs.length cs, .slice ar rs.length cr] 42)).alloc (.cells #[.int .i64 t1, .slice ai ins.length ci, .string ⟨x1.toArray⟩, .int .i64 x2] 80) = wb) := by rw [HWA.out, hwb]; rfl
  obtain ⟨d, hd⟩ : ∃ d, insOk ls bs t1 ins = d := ⟨_, rfl⟩
  obtain ⟨r, hr9⟩ : ∃ r, resOk (x1, x2) = r := ⟨_, rfl⟩
  have HE : Hid (b = (d && r && decide (x2 ≠ 2))) := by show _ = _; rw [← hb, ← hd, ← hr9]; rfl
  have HW := Lib.hid (bth HA.out hAB (Nat.le_refl _))
  have HC := Lib.hid (specIns9_b ls l bs rs t1 ins hd _ _ wb (HV.out.below HW.out) (hr.below HW.out) hpl hx1)
  have HX2 := Lib.hid hx2
  have HR9 := Lib.hid hr9
  obtain ⟨c0, c1, c2, c3⟩ := PB.out.cells
  obtain ⟨d0, d1, d2, d3⟩ := Q0.out.cells
  have ea1 : wa.heap.size = w.heap.size + 1 := by rw [← HWA.out]; simp
  clear hwb hAB hb hd hr9 hr hx1 hx2 hats hatn hato hatr hpl
  have he : x2 ≠ 2 ∨ x2 = 2 := by omega
  rw [ea1] at d0 d1 d2 d3
  rcases d with _ | _
  · have HE2 : Hid (b = false) := by rw [HE.out]; rfl
    go_enter Tryz.func73, Tryz.ntmps73
    go_wp2_with fail
    rw [HWB.out]
    refine HC.out.mono ?_
    rintro e w1 ⟨rfl, hb1⟩
    have HB1 := Lib.hid (bth HW.out hb1 (Nat.le_refl _))
    clear hb1 c0 c1 c2 c3 d0 d1 d2 d3
    go_wp2_with fail
    go_ret
    exact ⟨by rw [HE2.out] <;> rfl, HB1.out⟩
  go_enter Tryz.func73, Tryz.ntmps73
  go_wp2_with fail
  rw [HWB.out]
  refine HC.out.mono ?_
  rintro e w1 ⟨rfl, hb1⟩
  have HB1 := Lib.hid (bth HW.out hb1 (Nat.le_refl _))
  have Q1 := Lib.hid (Q0.out.below hb1 hsa)
  have hs1 := hb1.size
  clear hb1 c0 c1 c2 c3 d0 d1 d2 d3 HC
  obtain ⟨_, _, d2, d3⟩ := Q1.out.cells
  rw [ea1] at d2 d3
  go_wp2_with fail
  have hrow := row_lit w1 (x1, x2)
  have hAl : Below w1.heap.size w1 (w1.alloc (.cells #[.string ⟨x1.toArray⟩, .int .i64 x2] 75)) := (Below.refl w1.heap.size w1).alloc (Nat.le_refl _) _
  refine (specResults_b (l := [(x1, x2)]) (b := r) (by rw [resA_one]; exact HR9.out) _ _ hrow (fun f hf => by rw [List.mem_singleton] at hf; rw [hf]; exact HX2.out)).mono ?_
  rintro e w2 ⟨rfl, hb2⟩
  have hb2' := bth hAl hb2 (Nat.le_refl _)
  have HB2 := Lib.hid (bth HB1.out hb2' (Nat.le_refl _))
  clear hrow hAl
  have Q2 := Lib.hid (Q1.out.below hb2' (by omega))
  clear hb2 d2 d3
  obtain ⟨_, _, d2, d3⟩ := Q2.out.cells
  rw [ea1] at d2 d3
  have HE2 : Hid (b = (r && decide (x2 ≠ 2))) := by rw [HE.out]; rfl
  rcases r with _ | _
  · have HE3 : Hid (b = false) := by rw [HE2.out]; rfl
    go_wp2_with fail
    go_ret
    exact ⟨by rw [HE3.out] <;> rfl, HB2.out⟩
  · rcases he with he | he
    · have hn : (x2 != 2) = true := by simp [he]
      have HE3 : Hid (b = true) := by rw [HE2.out, decide_eq_true he]; rfl
      clear he
      go_wp2_with fail
      go_ret
      exact ⟨by rw [HE3.out] <;> rfl, HB2.out⟩
    · have hn : (x2 != 2) = false := by simp [he]
      have HE3 : Hid (b = false) := by show b = false; rw [HE2.out]; simp [he]
      clear he
      go_wp2_with fail
      go_ret
      exact ⟨by rw [HE3.out] <;> rfl, HB2.out⟩

set_option maxRecDepth 20000 in
set_option maxHeartbeats 8000000 in
theorem implTrace_b (ls : List (List Int)) (l : List Int) (bs : List Bool) (rs : List (List OpT)) (t : TrT) {b : Bool} (hb : traceA ls bs t = b) (v x : Value) (w : World) (hp : PlanV w v ls l bs rs) (ht : TrV w x t) (hpl : planA ls l bs rs = true) (hx : HeldT maxLen t) :
    Calls Tryz.prog 80 #[v, x] w (BoolPost b w) := by
  obtain ⟨t1, ins, x1, x2⟩ := t
  obtain ⟨ai, ci, rfl, hr⟩ := ht
  obtain ⟨hx1, hx2⟩ := hx
  simp only at hr hx1 hx2
  unfold trV
  simp only
  obtain ⟨_, _, he, hi1, hi2, _⟩ := hr.texts
  injection he with ea _ ec
  subst ea ec
  unfold maxLen at hi2
  have HV := Lib.hid hp
  obtain ⟨nv, ov, sv, rv, rfl, h1, h2, h3, h4⟩ := hp
  obtain ⟨as0, cs, rfl, hs1, hs2, hats⟩ := h3.boolsW
  obtain ⟨an, cn, rfl, hn1, hn2, hatn⟩ := h1.lists
  obtain ⟨ao, co, rfl, ho1, ho2, hato⟩ := h2.ints
  obtain ⟨ar, cr, rfl, hr1, hr2, hatr⟩ := h4.lists
  clear h1 h2 h3 h4
  unfold maxLen at hs2 hn2 ho2 hr2
  obtain ⟨wa, hwa⟩ : ∃ wa, wa = w.alloc (.cells #[.slice an ls.length cn, .slice ao l.length co, .slice as0 bs.length cs, .slice ar rs.length cr] 42) := ⟨_, rfl⟩
  have hsz : w.heap.size < wa.heap.size := by rw [hwa]; simp
  have P0 : Hid (Blk4 wa w.heap.size 42 (.slice an ls.length cn) (.slice ao l.length co) (.slice as0 bs.length cs) (.slice ar rs.length cr)) := by rw [hwa]; exact Blk4.new
  have HA : Hid (Below w.heap.size w wa) := by rw [hwa]; exact (Below.refl w.heap.size w).alloc (Nat.le_refl _) _
  have HWA : Hid (w.alloc (.cells #[.slice an ls.length cn, .slice ao l.length co, .slice as0 bs.length cs, .slice ar rs.length cr] 42) = wa) := by rw [hwa]; rfl
  have HVW : Hid (∀ W, Below wa.heap.size wa W → PlanV W (.agg #[.slice an ls.length cn, .slice ao l.length co, .slice as0 bs.length cs, .slice ar rs.length cr]) ls l bs rs) := fun W h => HV.out.below (bth HA.out h (Nat.le_refl _))
  clear hwa
  obtain ⟨wb, hwb⟩ : ∃ wb, wb = wa.alloc (.cells #[.int .i64 t1, .slice ai ins.length ci, .string ⟨x1.toArray⟩, .int .i64 x2] 80) := ⟨_, rfl⟩
  have Q0 : Hid (Blk4 wb wa.heap.size 80 (.int .i64 t1) (.slice ai ins.length ci) (.string ⟨x1.toArray⟩) (.int .i64 x2)) := by rw [hwb]; exact Blk4.new
  have hAB : Below wa.heap.size wa wb := by rw [hwb]; exact (Below.refl wa.heap.size wa).alloc (Nat.le_refl _) _
  have HAB := Lib.hid hAB
  have hsb : wb.heap.size = wa.heap.size + 1 := by rw [hwb]; simp
  have hsa : wa.heap.size < wb.heap.size := by omega
  have PB := Lib.hid (P0.out.below hAB hsz)
  have HWB : Hid ((w.alloc (.cells #[.slice an ls.length cn, .slice ao l.length co, .slice as0 bs.length cs, .slice ar rs.length cr] 42)).alloc (.cells #[.int .i64 t1, .slice ai ins.length ci, .string ⟨x1.toArray⟩, .int .i64 x2] 80) = wb) := by rw [HWA.out, hwb]; rfl
  obtain ⟨d, hd⟩ : ∃ d, insOk ls bs t1 ins = d := ⟨_, rfl⟩
  obtain ⟨r, hr9⟩ : ∃ r, resOk (x1, x2) = r := ⟨_, rfl⟩
  have HE : Hid (b = (d && r && decide (x2 ≠ 2))) := by show _ = _; rw [← hb, ← hd, ← hr9]; rfl
  have HW := Lib.hid (bth HA.out hAB (Nat.le_refl _))
  have HC := Lib.hid (implIns9_b ls l bs rs t1 ins hd _ _ wb (HV.out.below HW.out) (hr.below HW.out) hpl hx1)
  have HX2 := Lib.hid hx2
  have HR9 := Lib.hid hr9
  obtain ⟨c0, c1, c2, c3⟩ := PB.out.cells
  obtain ⟨d0, d1, d2, d3⟩ := Q0.out.cells
  have ea1 : wa.heap.size = w.heap.size + 1 := by rw [← HWA.out]; simp
  clear hwb hAB hb hd hr9 hr hx1 hx2 hats hatn hato hatr hpl
  have he : x2 ≠ 2 ∨ x2 = 2 := by omega
  rw [ea1] at d0 d1 d2 d3
  rcases d with _ | _
  · have HE2 : Hid (b = false) := by rw [HE.out]; rfl
    go_enter Tryz.func80, Tryz.ntmps80
    go_wp2_with fail
    rw [HWB.out]
    refine HC.out.mono ?_
    rintro e w1 ⟨rfl, hb1⟩
    have HB1 := Lib.hid (bth HW.out hb1 (Nat.le_refl _))
    clear hb1 c0 c1 c2 c3 d0 d1 d2 d3
    go_wp2_with fail
    go_ret
    exact ⟨by rw [HE2.out] <;> rfl, HB1.out⟩
  go_enter Tryz.func80, Tryz.ntmps80
  go_wp2_with fail
  rw [HWB.out]
  refine HC.out.mono ?_
  rintro e w1 ⟨rfl, hb1⟩
  have HB1 := Lib.hid (bth HW.out hb1 (Nat.le_refl _))
  have Q1 := Lib.hid (Q0.out.below hb1 hsa)
  have hs1 := hb1.size
  clear hb1 c0 c1 c2 c3 d0 d1 d2 d3 HC
  obtain ⟨_, _, d2, d3⟩ := Q1.out.cells
  rw [ea1] at d2 d3
  go_wp2_with fail
  have HN := noRes_b HR9.out w1 HX2.out
  unfold resV at HN
  simp only at HN
  refine HN.mono ?_
  rintro e w2 ⟨rfl, hb2⟩
  have HB2 := Lib.hid (bth HB1.out hb2 (Nat.le_refl _))
  clear HN
  have Q2 := Lib.hid (Q1.out.below hb2 (by omega))
  clear hb2 d2 d3
  obtain ⟨_, _, d2, d3⟩ := Q2.out.cells
  rw [ea1] at d2 d3
  have HE2 : Hid (b = (r && decide (x2 ≠ 2))) := by rw [HE.out]; rfl
  rcases r with _ | _
  · have HE3 : Hid (b = false) := by rw [HE2.out]; rfl
    go_wp2_with fail
    go_ret
    exact ⟨by rw [HE3.out] <;> rfl, HB2.out⟩
  · rcases he with he | he
    · have hn : (x2 != 2) = true := by simp [he]
      have HE3 : Hid (b = true) := by rw [HE2.out, decide_eq_true he]; rfl
      clear he
      go_wp2_with fail
      go_ret
      exact ⟨by rw [HE3.out] <;> rfl, HB2.out⟩
    · have hn : (x2 != 2) = false := by simp [he]
      have HE3 : Hid (b = false) := by show b = false; rw [HE2.out]; simp [he]
      clear he
      go_wp2_with fail
      go_ret
      exact ⟨by rw [HE3.out] <;> rfl, HB2.out⟩

end Go.Proofs.YtgolhfmmlanmlaaGreatDoor

/- Walks: whether traces are good, of both. -/
namespace Go.Proofs.YtgolhfmmlanmlaaGreatDoor
open Go.RowKit Pth

theorem goodT_noP {ls : List (List Int)} {l : List Int} {bs : List Bool} {rs : List (List OpT)} {T : List TrT} (h : planA ls l bs rs = false) : goodT ls l bs rs T = false := by unfold goodT; rw [h]; rfl
theorem goodT_many {ls : List (List Int)} {l : List Int} {bs : List Bool} {rs : List (List OpT)} {T : List TrT} (h : ¬ T.length ≤ 40) : goodT ls l bs rs T = false := by unfold goodT; rw [decide_eq_false h]; simp
theorem trP_next {ls : List (List Int)} {bs : List Bool} {T : List TrT} {k : Nat} (h : ∀ j, j < k → trP ls bs T j = true) (hk : trP ls bs T k = true) : ∀ j, j < k + 1 → trP ls bs T j = true := fun j hj => by
  rcases Nat.lt_or_ge j k with h1 | h1
  · exact h j h1
  · rw [show j = k by omega]; exact hk
theorem trP_take {ls : List (List Int)} {bs : List Bool} {T : List TrT} {k : Nat} (h : ∀ j, j < k → trP ls bs T j = true) (hk : k ≤ T.length) : ∀ t ∈ T.take k, traceA ls bs t = true := fun t ht => by
  obtain ⟨j, hj, rfl⟩ := List.getElem_of_mem ht
  rw [List.length_take] at hj
  have := h j (by omega)
  rw [trP_at (by omega), Bool.and_eq_true] at this
  rw [List.getElem_take]; exact this.1

set_option maxRecDepth 20000 in
set_option maxHeartbeats 8000000 in
theorem specGood9_any (ls : List (List Int)) (l : List Int) (bs : List Bool) (rs : List (List OpT)) (T : List TrT) (v x : Value) (w : World) (hp : PlanV w v ls l bs rs) (hT : RowT w x T) (hx : ∀ l ∈ rs, ∀ f ∈ l, f.2.2.length ≤ maxLen) (hxT : ∀ t ∈ T, HeldT maxLen t) :
    Calls Tryz.prog 37 #[v, x] w (BoolPost (goodT ls l bs rs T) w) := by
  have HV := Lib.hid hp
  obtain ⟨nv, ov, sv, rv, rfl, h1, h2, h3, h4⟩ := hp
  obtain ⟨as0, cs, rfl, hs1, hs2, hats⟩ := h3.boolsW
  obtain ⟨an, cn, rfl, hn1, hn2, hatn⟩ := h1.lists
  obtain ⟨ao, co, rfl, ho1, ho2, hato⟩ := h2.ints
  obtain ⟨ar, cr, rfl, hr1, hr2, hatr⟩ := h4.lists
  clear h1 h2 h3 h4
  unfold maxLen at hs2 hn2 ho2 hr2
  obtain ⟨wa, hwa⟩ : ∃ wa, wa = w.alloc (.cells #[.slice an ls.length cn, .slice ao l.length co, .slice as0 bs.length cs, .slice ar rs.length cr] 42) := ⟨_, rfl⟩
  have hsz : w.heap.size < wa.heap.size := by rw [hwa]; simp
  have P0 : Hid (Blk4 wa w.heap.size 42 (.slice an ls.length cn) (.slice ao l.length co) (.slice as0 bs.length cs) (.slice ar rs.length cr)) := by rw [hwa]; exact Blk4.new
  have HA : Hid (Below w.heap.size w wa) := by rw [hwa]; exact (Below.refl w.heap.size w).alloc (Nat.le_refl _) _
  have HWA : Hid (w.alloc (.cells #[.slice an ls.length cn, .slice ao l.length co, .slice as0 bs.length cs, .slice ar rs.length cr] 42) = wa) := by rw [hwa]; rfl
  have HVW : Hid (∀ W, Below wa.heap.size wa W → PlanV W (.agg #[.slice an ls.length cn, .slice ao l.length co, .slice as0 bs.length cs, .slice ar rs.length cr]) ls l bs rs) := fun W h => HV.out.below (bth HA.out h (Nat.le_refl _))
  clear hwa
  have HTR := Lib.hid hT
  obtain ⟨a, cap, rfl, hc1, hc2, hat⟩ := hT.traces
  unfold maxLen at hc2
  have HAT := Lib.hid hat
  have HXT := Lib.hid hxT
  obtain ⟨R, hR⟩ : ∃ R, goodT ls l bs rs T = R := ⟨_, rfl⟩
  have HRR := Lib.hid hR
  rw [hR]
  obtain ⟨b, hb⟩ : ∃ b, planA ls l bs rs = b := ⟨_, rfl⟩
  have HC := Lib.hid (specPlan_b hb _ wa (HVW.out wa (Below.refl _ _)) hx)
  have HPL := Lib.hid hb
  obtain ⟨c0, c1, c2', c3⟩ := P0.out.cells
  clear hT hat hxT hR hb hx hats hatn hato hatr
  rcases b with _ | _
  · have HE : Hid (R = false) := by rw [← HRR.out]; exact goodT_noP HPL.out
    go_enter Tryz.func37, Tryz.ntmps37
    go_wp2_with fail
    rw [HWA.out]
    refine HC.out.mono ?_
    rintro e w1 ⟨rfl, hb1⟩
    have HB1 := Lib.hid (bth HA.out hb1 (Nat.le_refl _))
    clear hb1 c0 c1 c2' c3
    go_wp2_with fail
    go_ret
    exact ⟨by rw [HE.out] <;> rfl, HB1.out⟩
  by_cases h40 : T.length ≤ 40
  · have hd : decide ((T.length : Int) > 40) = false := by simp; omega
    have H40 := Lib.hid h40
    go_enter Tryz.func37, Tryz.ntmps37
    go_wp2_with fail
    rw [HWA.out]
    refine HC.out.mono ?_
    rintro e w1 ⟨rfl, hb1⟩
    have HB1 := Lib.hid hb1
    clear hb1 c0 c1 c2' c3 HC
    go_wp2_with fail
    go_loopw [17] (fun i wr => ∃ k : Nat, k ≤ T.length ∧ i = .int .i64 k ∧ Hid (Below wa.heap.size wa wr) ∧ Hid (∀ j, j < k → trP ls bs T j = true)) (fun i _ => T.length - (intOf i).toNat)
    case atStart => exact ⟨0, Nat.zero_le _, rfl, HB1, fun j hj => by omega⟩
    case round =>
      clear HB1
      obtain ⟨k, hk, rfl, HB, HO⟩ := hrel
      have HBW := Lib.hid (bth HA.out HB.out (Nat.le_refl _))
      by_cases hlt : k < T.length
      · obtain ⟨g, o, a2, c2, rfl, hg, ⟨k0, k1, k2, k3⟩, hrk⟩ := HAT.out k hlt
        have s0 := (HBW.out.cell (p := ⟨g, o + k * 4, none⟩) hg).trans k0
        have s1 := (HBW.out.cell (p := ⟨g, o + k * 4 + 1, none⟩) hg).trans k1
        have s2 := (HBW.out.cell (p := ⟨g, o + k * 4 + 2, none⟩) hg).trans k2
        have s3 := (HBW.out.cell (p := ⟨g, o + k * 4 + 3, none⟩) hg).trans k3
        have hltz : (k : Int) < (T.length : Int) := by omega
        have hkc : (k : Int) ≤ (cap : Int) := by omega
        have HTP : Hid (trP ls bs T k = (traceA ls bs T[k] && (findT (T.take k) T[k].1 T[k].2.1).isNone)) := trP_at hlt
        have HQ : Hid (decide (0 ≤ findK (T.take k) T[k].1 T[k].2.1) = (findT (T.take k) T[k].1 T[k].2.1).isSome) := isSome_findK _ _ _
        obtain ⟨bt, hbt⟩ : ∃ bt, traceA ls bs T[k] = bt := ⟨_, rfl⟩
        have HC1 := Lib.hid (fun W (h : Below w.heap.size w W) => specTrace9_b ls l bs rs T[k] hbt _ (trV (.slice a2 T[k].2.1.length c2) T[k]) W (HV.out.below h) ⟨a2, c2, rfl, hrk.below h⟩ HPL.out (HXT.out _ (List.getElem_mem hlt)))
        have HC2 : Hid (bt = true → ∀ W, Below w.heap.size w W → Calls Tryz.prog 42 #[.slice (some ⟨g, o, none⟩) k cap, .int .i64 T[k].1, .slice a2 T[k].2.1.length c2] W fun e w' => e = .returned (.int .i64 (findK (T.take k) T[k].1 T[k].2.1)) ∧ Below W.heap.size W w') := fun ht W h => by
          exact specFind_any (T.take k) T[k].1 T[k].2.1 _ _ W ((HTR.out.below h).front rfl k (by omega)) (hrk.below h)
        rw [hbt] at HTP
        have hsr := Nat.lt_of_lt_of_le hsz HB.out.size
        clear k0 k1 k2 k3 hrk hbt HAT HXT HTR
        generalize findT (T.take k) T[k].1 T[k].2.1 = fo at *
        generalize findK (T.take k) T[k].1 T[k].2.1 = q at *
        generalize T[k] = z at *
        obtain ⟨x1, xi, x2, x3⟩ := z
        unfold trV at HC1
        simp only at s0 s1 s2 s3 HC1 HC2
        generalize xi.length = nx at *
        obtain ⟨wx, hwx⟩ : ∃ wx, wx = wr.alloc (.cells #[.int .i64 x1, .slice a2 nx c2, .string ⟨x2.toArray⟩, .int .i64 x3] 80) := ⟨_, rfl⟩
        have hxb : Below wr.heap.size wr wx := by rw [hwx]; exact (Below.refl wr.heap.size wr).alloc (Nat.le_refl _) _
        have hltx : wr.heap.size < wx.drew.heap.size := by show _ < wx.heap.size; rw [hwx]; simp
        have hltp : w.heap.size < wx.drew.heap.size := by omega
        have XD : Hid (Blk4 wx.drew wr.heap.size 80 (.int .i64 x1) (.slice a2 nx c2) (.string ⟨x2.toArray⟩) (.int .i64 x3)) := by show Blk4 wx _ _ _ _ _ _; rw [hwx]; exact Blk4.new
        have HBX := Lib.hid (bth HB.out hxb (Nat.le_refl _))
        have PD : Hid (Blk4 wx.drew w.heap.size 42 (.slice an ls.length cn) (.slice ao l.length co) (.slice as0 bs.length cs) (.slice ar rs.length cr)) := P0.out.below (Below.drew HBX.out) hsz
        have HBD := Lib.hid (bth HA.out (Below.drew HBX.out) (Nat.le_refl _))
        have HWX : Hid (wr.alloc (.cells #[.int .i64 x1, .slice a2 nx c2, .string ⟨x2.toArray⟩, .int .i64 x3] 80) = wx) := by rw [hwx]; rfl
        have ks := And.intro PD.out.cells XD.out.cells
        clear hwx hxb
        rcases bt with _ | _
        · have HE : Hid (R = false) := by rw [← HRR.out]; exact goodT_not hlt (by rw [HTP.out]; rfl)
          clear HC2 HQ HTP
          go_wp2_with fail
          rw [HWX.out]
          refine wp_region_held_drew (S := fun w' => (w'.cell? ⟨w.heap.size, 0, none⟩ = some (.slice an ls.length cn) ∧ w'.cell? ⟨w.heap.size, 1, none⟩ = some (.slice ao l.length co) ∧ w'.cell? ⟨w.heap.size, 2, none⟩ = some (.slice as0 bs.length cs) ∧ w'.cell? ⟨w.heap.size, 3, none⟩ = some (.slice ar rs.length cr)) ∧ (w'.cell? ⟨wr.heap.size, 0, none⟩ = some (.int .i64 x1) ∧ w'.cell? ⟨wr.heap.size, 1, none⟩ = some (.slice a2 nx c2) ∧ w'.cell? ⟨wr.heap.size, 2, none⟩ = some (.string ⟨x2.toArray⟩) ∧ w'.cell? ⟨wr.heap.size, 3, none⟩ = some (.int .i64 x3))) (by kernel_rfl) ks (fun hS0 => ?_)
          change wpAnyH _ _ _ _ _ 15 #[false, false, false, false, false, false, false, false, false, false, false, false, false, false, false] _ _
          refine wpAnyH_take (i := 0) (v := ?v0) rfl (by kernel_rfl) (by kernel_rfl) (by kernel_rfl) (fun _ _ _ h => h) (Or.inl ⟨rfl, ?y0⟩) (by assumption) ?r0
          case y0 => (intro w' hSw; (try dsimp only at hSw); go_simp; (try with_reducible rfl))
          try simp only [List.getElem_toArray, List.getElem_cons_zero, Act.put, List.setIfInBounds_toArray, List.set_cons_zero, List.set_cons_succ]
          refine wpAnyH_take (i := 1) (v := ?v1) rfl (by kernel_rfl) (by kernel_rfl) (by kernel_rfl) (fun _ _ _ h => h) (Or.inl ⟨rfl, ?y1⟩) (by assumption) ?r1
          case y1 => (intro w' hSw; (try dsimp only at hSw); go_simp; (try with_reducible rfl))
          try simp only [List.getElem_toArray, List.getElem_cons_succ, List.getElem_cons_zero, Act.put, List.setIfInBounds_toArray, List.set_cons_zero, List.set_cons_succ]
          refine wpAnyH_ready (rs := [2]) (by kernel_rfl) (by simp) ?_
          refine AllReadyH.cons rfl (fun K' hK => ?_) AllReadyH.nil
          go_simp
          go_wp2_with (go_at_call 73; refine (HC1.out _ (by exact HBD.out)).mono ?_; rintro e w7 ⟨rfl, hb7⟩
                       have k7 := And.intro (PD.out.below hb7 hltp).cells (XD.out.below hb7 hltx).cells
                       have D7 := Lib.hid (bth HBD.out hb7 (Nat.le_refl _))
                       clear hb7)
          refine hK.out _ _ k7 (fun hS1 => ?_)
          clear hK
          try simp only [List.setIfInBounds_toArray, List.set_cons_zero, List.set_cons_succ]
          refine wpAnyH_take (i := 3) (v := ?v3) rfl (by kernel_rfl) (by kernel_rfl) (by kernel_rfl) (fun _ _ _ h => h) (Or.inl ⟨rfl, ?y3⟩) (by assumption) ?r3
          case y3 => (intro w' hSw; (try dsimp only at hSw); go_simp; (try with_reducible rfl))
          try simp only [List.getElem_toArray, List.getElem_cons_succ, List.getElem_cons_zero, Act.put, List.setIfInBounds_toArray, List.set_cons_zero, List.set_cons_succ]
          refine wpAnyH_take (i := 4) (v := ?v4) rfl (by kernel_rfl) (by kernel_rfl) (by kernel_rfl) (fun _ _ _ h => h) (Or.inl ⟨rfl, ?y4⟩) (by assumption) ?r4
          case y4 => (intro w' hSw; (try dsimp only at hSw); go_simp; (try with_reducible rfl))
          try simp only [List.getElem_toArray, List.getElem_cons_succ, List.getElem_cons_zero, Act.put, List.setIfInBounds_toArray, List.set_cons_zero, List.set_cons_succ]
          refine wpAnyH_take (i := 5) (v := undef) rfl (by kernel_rfl) (by kernel_rfl) (by kernel_rfl) (fun _ _ _ h => h) (Or.inr ⟨rfl, rfl⟩) (by assumption) ?r5
          try simp only [List.getElem_toArray, List.getElem_cons_succ, List.getElem_cons_zero, Act.put, List.setIfInBounds_toArray, List.set_cons_zero, List.set_cons_succ]
          refine wpAnyH_take (i := 6) (v := undef) rfl (by kernel_rfl) (by kernel_rfl) (by kernel_rfl) (fun _ _ _ h => h) (Or.inr ⟨rfl, rfl⟩) (by assumption) ?r6
          try simp only [List.getElem_toArray, List.getElem_cons_succ, List.getElem_cons_zero, Act.put, List.setIfInBounds_toArray, List.set_cons_zero, List.set_cons_succ]
          refine wpAnyH_take (i := 7) (v := undef) rfl (by kernel_rfl) (by kernel_rfl) (by kernel_rfl) (fun _ _ _ h => h) (Or.inr ⟨rfl, rfl⟩) (by assumption) ?r7
          try simp only [List.getElem_toArray, List.getElem_cons_succ, List.getElem_cons_zero, Act.put, List.setIfInBounds_toArray, List.set_cons_zero, List.set_cons_succ]
          refine wpAnyH_take (i := 8) (v := undef) rfl (by kernel_rfl) (by kernel_rfl) (by kernel_rfl) (fun _ _ _ h => h) (Or.inr ⟨rfl, rfl⟩) (by assumption) ?r8
          try simp only [List.getElem_toArray, List.getElem_cons_succ, List.getElem_cons_zero, Act.put, List.setIfInBounds_toArray, List.set_cons_zero, List.set_cons_succ]
          refine wpAnyH_take (i := 9) (v := undef) rfl (by kernel_rfl) (by kernel_rfl) (by kernel_rfl) (fun _ _ _ h => h) (Or.inr ⟨rfl, rfl⟩) (by assumption) ?r9
          try simp only [List.getElem_toArray, List.getElem_cons_succ, List.getElem_cons_zero, Act.put, List.setIfInBounds_toArray, List.set_cons_zero, List.set_cons_succ]
          refine wpAnyH_take (i := 10) (v := undef) rfl (by kernel_rfl) (by kernel_rfl) (by kernel_rfl) (fun _ _ _ h => h) (Or.inr ⟨rfl, rfl⟩) (by assumption) ?r10
          try simp only [List.getElem_toArray, List.getElem_cons_succ, List.getElem_cons_zero, Act.put, List.setIfInBounds_toArray, List.set_cons_zero, List.set_cons_succ]
          refine wpAnyH_take (i := 11) (v := undef) rfl (by kernel_rfl) (by kernel_rfl) (by kernel_rfl) (fun _ _ _ h => h) (Or.inr ⟨rfl, rfl⟩) (by assumption) ?r11
          try simp only [List.getElem_toArray, List.getElem_cons_succ, List.getElem_cons_zero, Act.put, List.setIfInBounds_toArray, List.set_cons_zero, List.set_cons_succ]
          refine wpAnyH_take (i := 12) (v := undef) rfl (by kernel_rfl) (by kernel_rfl) (by kernel_rfl) (fun _ _ _ h => h) (Or.inr ⟨rfl, rfl⟩) (by assumption) ?r12
          try simp only [List.getElem_toArray, List.getElem_cons_succ, List.getElem_cons_zero, Act.put, List.setIfInBounds_toArray, List.set_cons_zero, List.set_cons_succ]
          refine wpAnyH_take (i := 13) (v := undef) rfl (by kernel_rfl) (by kernel_rfl) (by kernel_rfl) (fun _ _ _ h => h) (Or.inr ⟨rfl, rfl⟩) (by assumption) ?r13
          try simp only [List.getElem_toArray, List.getElem_cons_succ, List.getElem_cons_zero, Act.put, List.setIfInBounds_toArray, List.set_cons_zero, List.set_cons_succ]
          refine wpAnyH_take (i := 14) (v := ?v14) rfl (by kernel_rfl) (by kernel_rfl) (by kernel_rfl) (fun _ _ _ h => h) (Or.inl ⟨rfl, ?y14⟩) (by assumption) ?r14
          case y14 => (intro w' hSw; (try dsimp only at hSw); go_simp; (try with_reducible rfl))
          try simp only [List.getElem_toArray, List.getElem_cons_succ, List.getElem_cons_zero, Act.put, List.setIfInBounds_toArray, List.set_cons_zero, List.set_cons_succ]
          refine wpAnyH_done (by kernel_rfl) ?_ _
          go_wp2_with fail
          go_ret
          exact ⟨by rw [HE.out] <;> rfl, D7.out⟩
        · have HC3 := Lib.hid (HC2.out rfl)
          clear HC2
          rcases fo with _ | fo
          · have hq : ¬ (0 ≤ q) := by have := HQ.out; simpa using this
            have HO2 := Lib.hid (trP_next HO.out (by rw [HTP.out]; rfl))
            clear HQ HTP HO
            go_wp2_with fail
            rw [HWX.out]
            go_region_held3 (fun w' => (w'.cell? ⟨w.heap.size, 0, none⟩ = some (.slice an ls.length cn) ∧ w'.cell? ⟨w.heap.size, 1, none⟩ = some (.slice ao l.length co) ∧ w'.cell? ⟨w.heap.size, 2, none⟩ = some (.slice as0 bs.length cs) ∧ w'.cell? ⟨w.heap.size, 3, none⟩ = some (.slice ar rs.length cr)) ∧ (w'.cell? ⟨wr.heap.size, 0, none⟩ = some (.int .i64 x1) ∧ w'.cell? ⟨wr.heap.size, 1, none⟩ = some (.slice a2 nx c2) ∧ w'.cell? ⟨wr.heap.size, 2, none⟩ = some (.string ⟨x2.toArray⟩) ∧ w'.cell? ⟨wr.heap.size, 3, none⟩ = some (.int .i64 x3))) (first | exact ks)
          (first
            | (go_at_call 73; refine (HC1.out _ (by exact HBD.out)).mono ?_; rintro e w7 ⟨rfl, hb7⟩
               have ks := And.intro (PD.out.below hb7 hltp).cells (XD.out.below hb7 hltx).cells
               have C7 := Lib.hid hb7
               have D7 := Lib.hid (bth HBD.out hb7 (Nat.le_refl _))
               clear hb7)
            | (go_at_call 42; refine (HC3.out _ (by exact D7.out)).mono ?_; rintro e w8 ⟨rfl, hb8⟩
               have C8 := Lib.hid (bth C7.out hb8 (Nat.le_refl _))
               have ks := And.intro (PD.out.below C8.out hltp).cells (XD.out.below C8.out hltx).cells
               have D8 := Lib.hid (bth D7.out hb8 (Nat.le_refl _))
               clear hb8))
            have HB8 := Lib.hid (bth (Below.drew HBX.out) C8.out (Nat.le_refl _))
            clear ks C7 C8 D7 D8 PD XD HBD
            go_wp2_with fail
            go_roundw
            case rel => exact ⟨k + 1, by omega, by go_num, HB8, HO2⟩
            case measure => simp [intOf]; omega
          · have hq : 0 ≤ q := by have := HQ.out; simpa using this
            have HE : Hid (R = false) := by rw [← HRR.out]; exact goodT_not hlt (by rw [HTP.out]; rfl)
            clear HQ HTP HO
            go_wp2_with fail
            rw [HWX.out]
            go_region_held3 (fun w' => (w'.cell? ⟨w.heap.size, 0, none⟩ = some (.slice an ls.length cn) ∧ w'.cell? ⟨w.heap.size, 1, none⟩ = some (.slice ao l.length co) ∧ w'.cell? ⟨w.heap.size, 2, none⟩ = some (.slice as0 bs.length cs) ∧ w'.cell? ⟨w.heap.size, 3, none⟩ = some (.slice ar rs.length cr)) ∧ (w'.cell? ⟨wr.heap.size, 0, none⟩ = some (.int .i64 x1) ∧ w'.cell? ⟨wr.heap.size, 1, none⟩ = some (.slice a2 nx c2) ∧ w'.cell? ⟨wr.heap.size, 2, none⟩ = some (.string ⟨x2.toArray⟩) ∧ w'.cell? ⟨wr.heap.size, 3, none⟩ = some (.int .i64 x3))) (first | exact ks)
          (first
            | (go_at_call 73; refine (HC1.out _ (by exact HBD.out)).mono ?_; rintro e w7 ⟨rfl, hb7⟩
               have ks := And.intro (PD.out.below hb7 hltp).cells (XD.out.below hb7 hltx).cells
               have C7 := Lib.hid hb7
               have D7 := Lib.hid (bth HBD.out hb7 (Nat.le_refl _))
               clear hb7)
            | (go_at_call 42; refine (HC3.out _ (by exact D7.out)).mono ?_; rintro e w8 ⟨rfl, hb8⟩
               have C8 := Lib.hid (bth C7.out hb8 (Nat.le_refl _))
               have ks := And.intro (PD.out.below C8.out hltp).cells (XD.out.below C8.out hltx).cells
               have D8 := Lib.hid (bth D7.out hb8 (Nat.le_refl _))
               clear hb8))
            have HB8 := Lib.hid D8.out
            clear ks C7 C8 D7 D8 PD XD HBD
            go_wp2_with fail
            go_ret
            exact ⟨by rw [HE.out] <;> rfl, HB8.out⟩
      · have hltz : ¬ ((k : Int) < (T.length : Int)) := by omega
        have HE : Hid (R = true) := by rw [← HRR.out]; exact goodT_of HPL.out H40.out (fun j hj => HO.out j (by omega))
        clear HAT HXT HO HTR
        go_wp2_with fail
        go_ret
        exact ⟨by rw [HE.out] <;> rfl, HBW.out⟩
  · have hd : decide ((T.length : Int) > 40) = true := by simp; omega
    have HE : Hid (R = false) := by rw [← HRR.out]; exact goodT_many h40
    clear HAT HXT HTR h40
    go_enter Tryz.func37, Tryz.ntmps37
    go_wp2_with fail
    rw [HWA.out]
    refine HC.out.mono ?_
    rintro e w1 ⟨rfl, hb1⟩
    have HB1 := Lib.hid (bth HA.out hb1 (Nat.le_refl _))
    clear hb1 c0 c1 c2' c3
    go_wp2_with fail
    go_ret
    exact ⟨by rw [HE.out] <;> rfl, HB1.out⟩
theorem specGood9_b {ls : List (List Int)} {l : List Int} {bs : List Bool} {rs : List (List OpT)} {T : List TrT} {b : Bool} (h : goodT ls l bs rs T = b) (v x : Value) (w : World) (hp : PlanV w v ls l bs rs) (hT : RowT w x T) (hx : ∀ l ∈ rs, ∀ f ∈ l, f.2.2.length ≤ maxLen) (hxT : ∀ t ∈ T, HeldT maxLen t) :
    Calls Tryz.prog 37 #[v, x] w (BoolPost b w) := by
  subst h
  exact specGood9_any ls l bs rs T v x w hp hT hx hxT

set_option maxRecDepth 20000 in
set_option maxHeartbeats 8000000 in
theorem implGood9_any (ls : List (List Int)) (l : List Int) (bs : List Bool) (rs : List (List OpT)) (T : List TrT) (v x : Value) (w : World) (hp : PlanV w v ls l bs rs) (hT : RowT w x T) (hx : ∀ l ∈ rs, ∀ f ∈ l, f.2.2.length ≤ maxLen) (hxT : ∀ t ∈ T, HeldT maxLen t) :
    Calls Tryz.prog 48 #[v, x] w (BoolPost (goodT ls l bs rs T) w) := by
  have HV := Lib.hid hp
  obtain ⟨nv, ov, sv, rv, rfl, h1, h2, h3, h4⟩ := hp
  obtain ⟨as0, cs, rfl, hs1, hs2, hats⟩ := h3.boolsW
  obtain ⟨an, cn, rfl, hn1, hn2, hatn⟩ := h1.lists
  obtain ⟨ao, co, rfl, ho1, ho2, hato⟩ := h2.ints
  obtain ⟨ar, cr, rfl, hr1, hr2, hatr⟩ := h4.lists
  clear h1 h2 h3 h4
  unfold maxLen at hs2 hn2 ho2 hr2
  obtain ⟨wa, hwa⟩ : ∃ wa, wa = w.alloc (.cells #[.slice an ls.length cn, .slice ao l.length co, .slice as0 bs.length cs, .slice ar rs.length cr] 42) := ⟨_, rfl⟩
  have hsz : w.heap.size < wa.heap.size := by rw [hwa]; simp
  have P0 : Hid (Blk4 wa w.heap.size 42 (.slice an ls.length cn) (.slice ao l.length co) (.slice as0 bs.length cs) (.slice ar rs.length cr)) := by rw [hwa]; exact Blk4.new
  have HA : Hid (Below w.heap.size w wa) := by rw [hwa]; exact (Below.refl w.heap.size w).alloc (Nat.le_refl _) _
  have HWA : Hid (w.alloc (.cells #[.slice an ls.length cn, .slice ao l.length co, .slice as0 bs.length cs, .slice ar rs.length cr] 42) = wa) := by rw [hwa]; rfl
  have HVW : Hid (∀ W, Below wa.heap.size wa W → PlanV W (.agg #[.slice an ls.length cn, .slice ao l.length co, .slice as0 bs.length cs, .slice ar rs.length cr]) ls l bs rs) := fun W h => HV.out.below (bth HA.out h (Nat.le_refl _))
  clear hwa
  have HTR := Lib.hid hT
  obtain ⟨a, cap, rfl, hc1, hc2, hat⟩ := hT.traces
  unfold maxLen at hc2
  have HAT := Lib.hid hat
  have HXT := Lib.hid hxT
  obtain ⟨R, hR⟩ : ∃ R, goodT ls l bs rs T = R := ⟨_, rfl⟩
  have HRR := Lib.hid hR
  rw [hR]
  obtain ⟨b, hb⟩ : ∃ b, planA ls l bs rs = b := ⟨_, rfl⟩
  have HC := Lib.hid (implPlan_b hb _ wa (HVW.out wa (Below.refl _ _)) hx)
  have HPL := Lib.hid hb
  obtain ⟨c0, c1, c2', c3⟩ := P0.out.cells
  clear hT hat hxT hR hb hx hats hatn hato hatr
  rcases b with _ | _
  · have HE : Hid (R = false) := by rw [← HRR.out]; exact goodT_noP HPL.out
    go_enter Tryz.func48, Tryz.ntmps48
    go_wp2_with fail
    rw [HWA.out]
    refine HC.out.mono ?_
    rintro e w1 ⟨rfl, hb1⟩
    have HB1 := Lib.hid (bth HA.out hb1 (Nat.le_refl _))
    clear hb1 c0 c1 c2' c3
    go_wp2_with fail
    go_ret
    exact ⟨by rw [HE.out] <;> rfl, HB1.out⟩
  by_cases h40 : T.length ≤ 40
  · have hd : decide ((T.length : Int) > 40) = false := by simp; omega
    have H40 := Lib.hid h40
    go_enter Tryz.func48, Tryz.ntmps48
    go_wp2_with fail
    rw [HWA.out]
    refine HC.out.mono ?_
    rintro e w1 ⟨rfl, hb1⟩
    have HB1 := Lib.hid hb1
    clear hb1 c0 c1 c2' c3 HC
    go_wp2_with fail
    go_loopw [17] (fun i wr => ∃ k : Nat, k ≤ T.length ∧ i = .int .i64 k ∧ Hid (Below wa.heap.size wa wr) ∧ Hid (∀ j, j < k → trP ls bs T j = true)) (fun i _ => T.length - (intOf i).toNat)
    case atStart => exact ⟨0, Nat.zero_le _, rfl, HB1, fun j hj => by omega⟩
    case round =>
      clear HB1
      obtain ⟨k, hk, rfl, HB, HO⟩ := hrel
      have HBW := Lib.hid (bth HA.out HB.out (Nat.le_refl _))
      by_cases hlt : k < T.length
      · obtain ⟨g, o, a2, c2, rfl, hg, ⟨k0, k1, k2, k3⟩, hrk⟩ := HAT.out k hlt
        have s0 := (HBW.out.cell (p := ⟨g, o + k * 4, none⟩) hg).trans k0
        have s1 := (HBW.out.cell (p := ⟨g, o + k * 4 + 1, none⟩) hg).trans k1
        have s2 := (HBW.out.cell (p := ⟨g, o + k * 4 + 2, none⟩) hg).trans k2
        have s3 := (HBW.out.cell (p := ⟨g, o + k * 4 + 3, none⟩) hg).trans k3
        have hltz : (k : Int) < (T.length : Int) := by omega
        have hkc : (k : Int) ≤ (cap : Int) := by omega
        have HTP : Hid (trP ls bs T k = (traceA ls bs T[k] && (findT (T.take k) T[k].1 T[k].2.1).isNone)) := trP_at hlt
        have HQ : Hid (decide (0 ≤ findK (T.take k) T[k].1 T[k].2.1) = (findT (T.take k) T[k].1 T[k].2.1).isSome) := isSome_findK _ _ _
        obtain ⟨bt, hbt⟩ : ∃ bt, traceA ls bs T[k] = bt := ⟨_, rfl⟩
        have HC1 := Lib.hid (fun W (h : Below w.heap.size w W) => implTrace_b ls l bs rs T[k] hbt _ (trV (.slice a2 T[k].2.1.length c2) T[k]) W (HV.out.below h) ⟨a2, c2, rfl, hrk.below h⟩ HPL.out (HXT.out _ (List.getElem_mem hlt)))
        have HC2 : Hid (bt = true → ∀ W, Below w.heap.size w W → Calls Tryz.prog 81 #[.slice (some ⟨g, o, none⟩) k cap, .int .i64 T[k].1, .slice a2 T[k].2.1.length c2] W fun e w' => e = .returned (.int .i64 (findK (T.take k) T[k].1 T[k].2.1)) ∧ Below W.heap.size W w') := fun ht W h => by
          have hta := traceA_parts (hbt.trans ht)
          have hin := insOk_parts hta.1
          exact placeOf_any (T.take k) T[k].1 T[k].2.1 _ _ W ((HTR.out.below h).front rfl k (by omega)) (hrk.below h) (texts_parts hin.2.2.2.2).2 (same_of (trP_take HO.out (by omega)) hta.1)
        rw [hbt] at HTP
        have hsr := Nat.lt_of_lt_of_le hsz HB.out.size
        clear k0 k1 k2 k3 hrk hbt HAT HXT HTR
        generalize findT (T.take k) T[k].1 T[k].2.1 = fo at *
        generalize findK (T.take k) T[k].1 T[k].2.1 = q at *
        generalize T[k] = z at *
        obtain ⟨x1, xi, x2, x3⟩ := z
        unfold trV at HC1
        simp only at s0 s1 s2 s3 HC1 HC2
        generalize xi.length = nx at *
        obtain ⟨wx, hwx⟩ : ∃ wx, wx = wr.alloc (.cells #[.int .i64 x1, .slice a2 nx c2, .string ⟨x2.toArray⟩, .int .i64 x3] 80) := ⟨_, rfl⟩
        have hxb : Below wr.heap.size wr wx := by rw [hwx]; exact (Below.refl wr.heap.size wr).alloc (Nat.le_refl _) _
        have hltx : wr.heap.size < wx.drew.heap.size := by show _ < wx.heap.size; rw [hwx]; simp
        have hltp : w.heap.size < wx.drew.heap.size := by omega
        have XD : Hid (Blk4 wx.drew wr.heap.size 80 (.int .i64 x1) (.slice a2 nx c2) (.string ⟨x2.toArray⟩) (.int .i64 x3)) := by show Blk4 wx _ _ _ _ _ _; rw [hwx]; exact Blk4.new
        have HBX := Lib.hid (bth HB.out hxb (Nat.le_refl _))
        have PD : Hid (Blk4 wx.drew w.heap.size 42 (.slice an ls.length cn) (.slice ao l.length co) (.slice as0 bs.length cs) (.slice ar rs.length cr)) := P0.out.below (Below.drew HBX.out) hsz
        have HBD := Lib.hid (bth HA.out (Below.drew HBX.out) (Nat.le_refl _))
        have HWX : Hid (wr.alloc (.cells #[.int .i64 x1, .slice a2 nx c2, .string ⟨x2.toArray⟩, .int .i64 x3] 80) = wx) := by rw [hwx]; rfl
        have ks := And.intro PD.out.cells XD.out.cells
        clear hwx hxb
        rcases bt with _ | _
        · have HE : Hid (R = false) := by rw [← HRR.out]; exact goodT_not hlt (by rw [HTP.out]; rfl)
          clear HC2 HQ HTP
          go_wp2_with fail
          rw [HWX.out]
          refine wp_region_held_drew (S := fun w' => (w'.cell? ⟨w.heap.size, 0, none⟩ = some (.slice an ls.length cn) ∧ w'.cell? ⟨w.heap.size, 1, none⟩ = some (.slice ao l.length co) ∧ w'.cell? ⟨w.heap.size, 2, none⟩ = some (.slice as0 bs.length cs) ∧ w'.cell? ⟨w.heap.size, 3, none⟩ = some (.slice ar rs.length cr)) ∧ (w'.cell? ⟨wr.heap.size, 0, none⟩ = some (.int .i64 x1) ∧ w'.cell? ⟨wr.heap.size, 1, none⟩ = some (.slice a2 nx c2) ∧ w'.cell? ⟨wr.heap.size, 2, none⟩ = some (.string ⟨x2.toArray⟩) ∧ w'.cell? ⟨wr.heap.size, 3, none⟩ = some (.int .i64 x3))) (by kernel_rfl) ks (fun hS0 => ?_)
          change wpAnyH _ _ _ _ _ 15 #[false, false, false, false, false, false, false, false, false, false, false, false, false, false, false] _ _
          refine wpAnyH_take (i := 0) (v := ?v0) rfl (by kernel_rfl) (by kernel_rfl) (by kernel_rfl) (fun _ _ _ h => h) (Or.inl ⟨rfl, ?y0⟩) (by assumption) ?r0
          case y0 => (intro w' hSw; (try dsimp only at hSw); go_simp; (try with_reducible rfl))
          try simp only [List.getElem_toArray, List.getElem_cons_zero, Act.put, List.setIfInBounds_toArray, List.set_cons_zero, List.set_cons_succ]
          refine wpAnyH_take (i := 1) (v := ?v1) rfl (by kernel_rfl) (by kernel_rfl) (by kernel_rfl) (fun _ _ _ h => h) (Or.inl ⟨rfl, ?y1⟩) (by assumption) ?r1
          case y1 => (intro w' hSw; (try dsimp only at hSw); go_simp; (try with_reducible rfl))
          try simp only [List.getElem_toArray, List.getElem_cons_succ, List.getElem_cons_zero, Act.put, List.setIfInBounds_toArray, List.set_cons_zero, List.set_cons_succ]
          refine wpAnyH_ready (rs := [2]) (by kernel_rfl) (by simp) ?_
          refine AllReadyH.cons rfl (fun K' hK => ?_) AllReadyH.nil
          go_simp
          go_wp2_with (go_at_call 80; refine (HC1.out _ (by exact HBD.out)).mono ?_; rintro e w7 ⟨rfl, hb7⟩
                       have k7 := And.intro (PD.out.below hb7 hltp).cells (XD.out.below hb7 hltx).cells
                       have D7 := Lib.hid (bth HBD.out hb7 (Nat.le_refl _))
                       clear hb7)
          refine hK.out _ _ k7 (fun hS1 => ?_)
          clear hK
          try simp only [List.setIfInBounds_toArray, List.set_cons_zero, List.set_cons_succ]
          refine wpAnyH_take (i := 3) (v := ?v3) rfl (by kernel_rfl) (by kernel_rfl) (by kernel_rfl) (fun _ _ _ h => h) (Or.inl ⟨rfl, ?y3⟩) (by assumption) ?r3
          case y3 => (intro w' hSw; (try dsimp only at hSw); go_simp; (try with_reducible rfl))
          try simp only [List.getElem_toArray, List.getElem_cons_succ, List.getElem_cons_zero, Act.put, List.setIfInBounds_toArray, List.set_cons_zero, List.set_cons_succ]
          refine wpAnyH_take (i := 4) (v := ?v4) rfl (by kernel_rfl) (by kernel_rfl) (by kernel_rfl) (fun _ _ _ h => h) (Or.inl ⟨rfl, ?y4⟩) (by assumption) ?r4
          case y4 => (intro w' hSw; (try dsimp only at hSw); go_simp; (try with_reducible rfl))
          try simp only [List.getElem_toArray, List.getElem_cons_succ, List.getElem_cons_zero, Act.put, List.setIfInBounds_toArray, List.set_cons_zero, List.set_cons_succ]
          refine wpAnyH_take (i := 5) (v := undef) rfl (by kernel_rfl) (by kernel_rfl) (by kernel_rfl) (fun _ _ _ h => h) (Or.inr ⟨rfl, rfl⟩) (by assumption) ?r5
          try simp only [List.getElem_toArray, List.getElem_cons_succ, List.getElem_cons_zero, Act.put, List.setIfInBounds_toArray, List.set_cons_zero, List.set_cons_succ]
          refine wpAnyH_take (i := 6) (v := undef) rfl (by kernel_rfl) (by kernel_rfl) (by kernel_rfl) (fun _ _ _ h => h) (Or.inr ⟨rfl, rfl⟩) (by assumption) ?r6
          try simp only [List.getElem_toArray, List.getElem_cons_succ, List.getElem_cons_zero, Act.put, List.setIfInBounds_toArray, List.set_cons_zero, List.set_cons_succ]
          refine wpAnyH_take (i := 7) (v := undef) rfl (by kernel_rfl) (by kernel_rfl) (by kernel_rfl) (fun _ _ _ h => h) (Or.inr ⟨rfl, rfl⟩) (by assumption) ?r7
          try simp only [List.getElem_toArray, List.getElem_cons_succ, List.getElem_cons_zero, Act.put, List.setIfInBounds_toArray, List.set_cons_zero, List.set_cons_succ]
          refine wpAnyH_take (i := 8) (v := undef) rfl (by kernel_rfl) (by kernel_rfl) (by kernel_rfl) (fun _ _ _ h => h) (Or.inr ⟨rfl, rfl⟩) (by assumption) ?r8
          try simp only [List.getElem_toArray, List.getElem_cons_succ, List.getElem_cons_zero, Act.put, List.setIfInBounds_toArray, List.set_cons_zero, List.set_cons_succ]
          refine wpAnyH_take (i := 9) (v := undef) rfl (by kernel_rfl) (by kernel_rfl) (by kernel_rfl) (fun _ _ _ h => h) (Or.inr ⟨rfl, rfl⟩) (by assumption) ?r9
          try simp only [List.getElem_toArray, List.getElem_cons_succ, List.getElem_cons_zero, Act.put, List.setIfInBounds_toArray, List.set_cons_zero, List.set_cons_succ]
          refine wpAnyH_take (i := 10) (v := undef) rfl (by kernel_rfl) (by kernel_rfl) (by kernel_rfl) (fun _ _ _ h => h) (Or.inr ⟨rfl, rfl⟩) (by assumption) ?r10
          try simp only [List.getElem_toArray, List.getElem_cons_succ, List.getElem_cons_zero, Act.put, List.setIfInBounds_toArray, List.set_cons_zero, List.set_cons_succ]
          refine wpAnyH_take (i := 11) (v := undef) rfl (by kernel_rfl) (by kernel_rfl) (by kernel_rfl) (fun _ _ _ h => h) (Or.inr ⟨rfl, rfl⟩) (by assumption) ?r11
          try simp only [List.getElem_toArray, List.getElem_cons_succ, List.getElem_cons_zero, Act.put, List.setIfInBounds_toArray, List.set_cons_zero, List.set_cons_succ]
          refine wpAnyH_take (i := 12) (v := undef) rfl (by kernel_rfl) (by kernel_rfl) (by kernel_rfl) (fun _ _ _ h => h) (Or.inr ⟨rfl, rfl⟩) (by assumption) ?r12
          try simp only [List.getElem_toArray, List.getElem_cons_succ, List.getElem_cons_zero, Act.put, List.setIfInBounds_toArray, List.set_cons_zero, List.set_cons_succ]
          refine wpAnyH_take (i := 13) (v := undef) rfl (by kernel_rfl) (by kernel_rfl) (by kernel_rfl) (fun _ _ _ h => h) (Or.inr ⟨rfl, rfl⟩) (by assumption) ?r13
          try simp only [List.getElem_toArray, List.getElem_cons_succ, List.getElem_cons_zero, Act.put, List.setIfInBounds_toArray, List.set_cons_zero, List.set_cons_succ]
          refine wpAnyH_take (i := 14) (v := ?v14) rfl (by kernel_rfl) (by kernel_rfl) (by kernel_rfl) (fun _ _ _ h => h) (Or.inl ⟨rfl, ?y14⟩) (by assumption) ?r14
          case y14 => (intro w' hSw; (try dsimp only at hSw); go_simp; (try with_reducible rfl))
          try simp only [List.getElem_toArray, List.getElem_cons_succ, List.getElem_cons_zero, Act.put, List.setIfInBounds_toArray, List.set_cons_zero, List.set_cons_succ]
          refine wpAnyH_done (by kernel_rfl) ?_ _
          go_wp2_with fail
          go_ret
          exact ⟨by rw [HE.out] <;> rfl, D7.out⟩
        · have HC3 := Lib.hid (HC2.out rfl)
          clear HC2
          rcases fo with _ | fo
          · have hq : ¬ (0 ≤ q) := by have := HQ.out; simpa using this
            have HO2 := Lib.hid (trP_next HO.out (by rw [HTP.out]; rfl))
            clear HQ HTP HO
            go_wp2_with fail
            rw [HWX.out]
            go_region_held3 (fun w' => (w'.cell? ⟨w.heap.size, 0, none⟩ = some (.slice an ls.length cn) ∧ w'.cell? ⟨w.heap.size, 1, none⟩ = some (.slice ao l.length co) ∧ w'.cell? ⟨w.heap.size, 2, none⟩ = some (.slice as0 bs.length cs) ∧ w'.cell? ⟨w.heap.size, 3, none⟩ = some (.slice ar rs.length cr)) ∧ (w'.cell? ⟨wr.heap.size, 0, none⟩ = some (.int .i64 x1) ∧ w'.cell? ⟨wr.heap.size, 1, none⟩ = some (.slice a2 nx c2) ∧ w'.cell? ⟨wr.heap.size, 2, none⟩ = some (.string ⟨x2.toArray⟩) ∧ w'.cell? ⟨wr.heap.size, 3, none⟩ = some (.int .i64 x3))) (first | exact ks)
          (first
            | (go_at_call 80; refine (HC1.out _ (by exact HBD.out)).mono ?_; rintro e w7 ⟨rfl, hb7⟩
               have ks := And.intro (PD.out.below hb7 hltp).cells (XD.out.below hb7 hltx).cells
               have C7 := Lib.hid hb7
               have D7 := Lib.hid (bth HBD.out hb7 (Nat.le_refl _))
               clear hb7)
            | (go_at_call 81; refine (HC3.out _ (by exact D7.out)).mono ?_; rintro e w8 ⟨rfl, hb8⟩
               have C8 := Lib.hid (bth C7.out hb8 (Nat.le_refl _))
               have ks := And.intro (PD.out.below C8.out hltp).cells (XD.out.below C8.out hltx).cells
               have D8 := Lib.hid (bth D7.out hb8 (Nat.le_refl _))
               clear hb8))
            have HB8 := Lib.hid (bth (Below.drew HBX.out) C8.out (Nat.le_refl _))
            clear ks C7 C8 D7 D8 PD XD HBD
            go_wp2_with fail
            go_roundw
            case rel => exact ⟨k + 1, by omega, by go_num, HB8, HO2⟩
            case measure => simp [intOf]; omega
          · have hq : 0 ≤ q := by have := HQ.out; simpa using this
            have HE : Hid (R = false) := by rw [← HRR.out]; exact goodT_not hlt (by rw [HTP.out]; rfl)
            clear HQ HTP HO
            go_wp2_with fail
            rw [HWX.out]
            go_region_held3 (fun w' => (w'.cell? ⟨w.heap.size, 0, none⟩ = some (.slice an ls.length cn) ∧ w'.cell? ⟨w.heap.size, 1, none⟩ = some (.slice ao l.length co) ∧ w'.cell? ⟨w.heap.size, 2, none⟩ = some (.slice as0 bs.length cs) ∧ w'.cell? ⟨w.heap.size, 3, none⟩ = some (.slice ar rs.length cr)) ∧ (w'.cell? ⟨wr.heap.size, 0, none⟩ = some (.int .i64 x1) ∧ w'.cell? ⟨wr.heap.size, 1, none⟩ = some (.slice a2 nx c2) ∧ w'.cell? ⟨wr.heap.size, 2, none⟩ = some (.string ⟨x2.toArray⟩) ∧ w'.cell? ⟨wr.heap.size, 3, none⟩ = some (.int .i64 x3))) (first | exact ks)
          (first
            | (go_at_call 80; refine (HC1.out _ (by exact HBD.out)).mono ?_; rintro e w7 ⟨rfl, hb7⟩
               have ks := And.intro (PD.out.below hb7 hltp).cells (XD.out.below hb7 hltx).cells
               have C7 := Lib.hid hb7
               have D7 := Lib.hid (bth HBD.out hb7 (Nat.le_refl _))
               clear hb7)
            | (go_at_call 81; refine (HC3.out _ (by exact D7.out)).mono ?_; rintro e w8 ⟨rfl, hb8⟩
               have C8 := Lib.hid (bth C7.out hb8 (Nat.le_refl _))
               have ks := And.intro (PD.out.below C8.out hltp).cells (XD.out.below C8.out hltx).cells
               have D8 := Lib.hid (bth D7.out hb8 (Nat.le_refl _))
               clear hb8))
            have HB8 := Lib.hid D8.out
            clear ks C7 C8 D7 D8 PD XD HBD
            go_wp2_with fail
            go_ret
            exact ⟨by rw [HE.out] <;> rfl, HB8.out⟩
      · have hltz : ¬ ((k : Int) < (T.length : Int)) := by omega
        have HE : Hid (R = true) := by rw [← HRR.out]; exact goodT_of HPL.out H40.out (fun j hj => HO.out j (by omega))
        clear HAT HXT HO HTR
        go_wp2_with fail
        go_ret
        exact ⟨by rw [HE.out] <;> rfl, HBW.out⟩
  · have hd : decide ((T.length : Int) > 40) = true := by simp; omega
    have HE : Hid (R = false) := by rw [← HRR.out]; exact goodT_many h40
    clear HAT HXT HTR h40
    go_enter Tryz.func48, Tryz.ntmps48
    go_wp2_with fail
    rw [HWA.out]
    refine HC.out.mono ?_
    rintro e w1 ⟨rfl, hb1⟩
    have HB1 := Lib.hid (bth HA.out hb1 (Nat.le_refl _))
    clear hb1 c0 c1 c2' c3
    go_wp2_with fail
    go_ret
    exact ⟨by rw [HE.out] <;> rfl, HB1.out⟩
theorem implGood9_b {ls : List (List Int)} {l : List Int} {bs : List Bool} {rs : List (List OpT)} {T : List TrT} {b : Bool} (h : goodT ls l bs rs T = b) (v x : Value) (w : World) (hp : PlanV w v ls l bs rs) (hT : RowT w x T) (hx : ∀ l ∈ rs, ∀ f ∈ l, f.2.2.length ≤ maxLen) (hxT : ∀ t ∈ T, HeldT maxLen t) :
    Calls Tryz.prog 48 #[v, x] w (BoolPost b w) := by
  subst h
  exact implGood9_any ls l bs rs T v x w hp hT hx hxT

end Go.Proofs.YtgolhfmmlanmlaaGreatDoor

/- Walks: what is found among traces, of both. -/
namespace Go.Proofs.YtgolhfmmlanmlaaGreatDoor
open Go.RowKit Pth

theorem set_ne9 (W : World) {g b i j : Nat} (u : Value) (h : b ≠ g) : (W.setCell ⟨g, i, none⟩ u).cell? ⟨b, j, none⟩ = W.cell? ⟨b, j, none⟩ := World.cell?_of_block (w := W) (a := ⟨b, j, none⟩) (Below.heap_setCell W _ u b (by show b ≠ g; exact h))

set_option maxRecDepth 20000 in
set_option maxHeartbeats 8000000 in
theorem ownRes_any (o : ResT) (w : World) (hx : o.1.length ≤ 1000) :
    Calls Tryz.prog 90 #[resV o] w fun e w' => e = .returned (resV o) ∧ Below w.heap.size w w' := by
  obtain ⟨t, n⟩ := o
  unfold resV
  simp only at hx ⊢
  obtain ⟨wp, hwp⟩ : ∃ wp, wp = w.alloc (.cells #[.string ⟨t.toArray⟩, .int .i64 n] 75) := ⟨_, rfl⟩
  obtain ⟨wa, hwa⟩ : ∃ wa, wa = wp.alloc (.cells #[.string ⟨#[]⟩, .int .i64 0] 75) := ⟨_, rfl⟩
  have ep : wp.heap.size = w.heap.size + 1 := by rw [hwp]; simp
  have ea : wa.heap.size = w.heap.size + 2 := by rw [hwa]; simp [ep]
  have Q0 : Hid (Blk2 wa.drew w.heap.size 75 (.string ⟨t.toArray⟩) (.int .i64 n)) := by show Blk2 wa _ _ _ _; rw [hwa, hwp]; exact Blk2.new.old _
  have R0 : Hid (Blk2 wa.drew (w.heap.size + 1) 75 (.string ⟨#[]⟩) (.int .i64 0)) := by show Blk2 wa _ _ _ _; rw [hwa, ← ep]; exact Blk2.new
  have HA : Hid (Below w.heap.size w wa.drew) := by
    have : Below w.heap.size w wa := by rw [hwa, hwp]; exact ((Below.refl w.heap.size w).alloc (Nat.le_refl _) _).alloc (by simp) _
    exact Below.drew this
  have HWA : Hid ((w.alloc (.cells #[.string ⟨t.toArray⟩, .int .i64 n] 75)).alloc (.cells #[.string ⟨#[]⟩, .int .i64 0] 75) = wa) := by rw [hwa, hwp]; rfl
  have hsz : wa.drew.heap.size = w.heap.size + 2 := ea
  have HC := Lib.hid (clone_any t wa.drew hx)
  have ks := Q0.out.cells
  have hne : w.heap.size ≠ w.heap.size + 1 := by omega
  have hl0 : w.heap.size < wa.drew.heap.size := by omega
  have hl1 : w.heap.size + 1 < wa.drew.heap.size := by omega
  clear hwa hwp ep ea
  go_enter Tryz.func90, Tryz.ntmps90
  go_wp2_with fail
  rw [HWA.out]
  go_region_held3 (fun w' => w'.cell? ⟨w.heap.size, 0, none⟩ = some (.string ⟨t.toArray⟩) ∧ w'.cell? ⟨w.heap.size, 1, none⟩ = some (.int .i64 n)) (first | exact ks | (rw [set_ne9 _ _ hne, set_ne9 _ _ hne, set_ne9 _ _ hne, set_ne9 _ _ hne]; exact ks))
    (first
      | (go_at_call 116; refine HC.out.mono ?_; rintro e w7 ⟨rfl, hb7⟩
         have ks := (Q0.out.below hb7 hl0).cells
         have R7 := Lib.hid (R0.out.below hb7 hl1)
         obtain ⟨f0, f1⟩ := R7.out.cells
         have g0 := R7.out.soft 0
         have g1 := R7.out.soft 1
         have HB7 := Lib.hid (bth HA.out hb7 (Nat.le_refl _))
         clear hb7))
  all_goals
    clear ks
    have hZ := (R7.out.set0 (.string ⟨t.toArray⟩)).set1 (.int .i64 n)
    go_wp2_with fail
    refine bodyPost_ret (results_cellR rfl rfl (load_res hZ.cells.1 hZ.cells.2)) rfl ?_
    exact ⟨rfl, (HB7.out.setCell (p := ⟨w.heap.size + 1, 0, none⟩) (by show _ ≤ _ + 1; omega) _).setCell (p := ⟨w.heap.size + 1, 1, none⟩) (by show _ ≤ _ + 1; omega) _⟩
/-- What is found, and whether it is. -/
def OutPost (x : Option ResT) (w : World) (e : Ending) (w' : World) : Prop := e = .returned (.tuple #[resV (resO x), .bool x.isSome]) ∧ Below w.heap.size w w'

set_option maxRecDepth 20000 in
set_option maxHeartbeats 8000000 in
theorem outOf_any (T : List TrT) (t : Int) (ins : List (List UInt8)) (v x : Value) (w : World) (hT : RowT w v T) (hr : RowV w x (S ins)) (h10 : ins.length ≤ 10) (hs : SameLen T t ins.length) (hsh : ShortT T) :
    Calls Tryz.prog 87 #[v, .int .i64 t, x] w (OutPost (foundT T t ins) w) := by
  have HT := Lib.hid hT
  have HR := Lib.hid hr
  obtain ⟨a, cap, rfl, hc1, hc2, hat⟩ := hT.traces
  obtain ⟨ai, ci, rfl, hi1, hi2, _⟩ := hr.texts
  unfold maxLen at hc2 hi2
  have HAT := Lib.hid hat
  obtain ⟨wa, hwa⟩ : ∃ wa, wa = w.alloc (.cells #[.string ⟨#[]⟩, .int .i64 0] 75) := ⟨_, rfl⟩
  have hsz : w.heap.size < wa.heap.size := by rw [hwa]; simp
  have R0 : Hid (Blk2 wa w.heap.size 75 (.string ⟨#[]⟩) (.int .i64 0)) := by rw [hwa]; exact Blk2.new
  have HA : Hid (Below w.heap.size w wa) := by rw [hwa]; exact (Below.refl w.heap.size w).alloc (Nat.le_refl _) _
  have HWA : Hid (w.alloc (.cells #[.string ⟨#[]⟩, .int .i64 0] 75) = wa) := by rw [hwa]; rfl
  have HC := Lib.hid (placeOf_any T t ins _ _ wa (HT.out.below HA.out) (HR.out.below HA.out) h10 hs)
  have HSH := Lib.hid hsh
  clear hwa hT hr hat hs hsh
  obtain ⟨f, hf⟩ : ∃ f, findT T t ins = f := ⟨_, rfl⟩
  have HF := Lib.hid hf
  rcases f with _ | k
  · have HE : Hid (foundT T t ins = none) := by show _ = _; unfold foundT; rw [hf]; rfl
    have HK : Hid (findK T t ins = -1) := by show _ = _; unfold findK; rw [hf]
    rw [HK.out] at HC
    rw [HE.out]
    clear hf
    go_enter Tryz.func87, Tryz.ntmps87
    go_wp2_with fail
    rw [HWA.out]
    refine HC.out.mono ?_
    rintro e w1 ⟨rfl, hb1⟩
    have HB1 := Lib.hid (bth HA.out hb1 (Nat.le_refl _))
    have R1 := Lib.hid (R0.out.below hb1 hsz)
    obtain ⟨f0, f1⟩ := R1.out.cells
    have g0 := R1.out.soft 0
    have g1 := R1.out.soft 1
    clear hb1 HC
    go_wp2_with fail
    have hZ := (R1.out.set0 (.string ByteArray.empty)).set1 (.int .i64 0)
    refine bodyPost_ret (results_cell2 rfl rfl (load_res hZ.cells.1 hZ.cells.2)) rfl ?_
    exact ⟨by rfl, (HB1.out.setCell (p := ⟨w.heap.size, 0, none⟩) (Nat.le_refl _) _).setCell (p := ⟨w.heap.size, 1, none⟩) (Nat.le_refl _) _⟩
  · have hk := findT_lt hf
    have HE : Hid (foundT T t ins = some T[k].2.2) := by show _ = _; unfold foundT; rw [hf, Option.map_some, getD_at _ hk]
    have HK : Hid (findK T t ins = (k : Int)) := by show _ = _; unfold findK; rw [hf]
    rw [HK.out] at HC
    rw [HE.out]
    obtain ⟨g, o, a2, c2, rfl, hg, ⟨k0, k1, k2, k3⟩, hrk⟩ := HAT.out k hk
    have hlen := (HSH.out _ (List.getElem_mem hk)).2.2
    have HCL := Lib.hid (fun W => ownRes_any T[k].2.2 W (by omega))
    have hkz : (k : Int) < (T.length : Int) := by omega
    clear hf k0 k1 hrk HAT hlen
    generalize T[k].2.2 = z at *
    obtain ⟨z1, z2⟩ := z
    unfold resV at HCL
    simp only at k2 k3 HCL
    go_enter Tryz.func87, Tryz.ntmps87
    go_wp2_with fail
    rw [HWA.out]
    refine HC.out.mono ?_
    rintro e w1 ⟨rfl, hb1⟩
    have HB1 := Lib.hid (bth HA.out hb1 (Nat.le_refl _))
    have R1 := Lib.hid (R0.out.below hb1 hsz)
    have s2 := (HB1.out.cell (p := ⟨g, o + k * 4 + 2, none⟩) hg).trans k2
    have s3 := (HB1.out.cell (p := ⟨g, o + k * 4 + 3, none⟩) hg).trans k3
    have hsz1 : w.heap.size < w1.heap.size := Nat.lt_of_lt_of_le hsz hb1.size
    clear hb1 HC k2 k3
    go_wp2_with fail
    refine (HCL.out _).mono ?_
    rintro e w2 ⟨rfl, hb2⟩
    have HB2 := Lib.hid (bth HB1.out hb2 (Nat.le_refl _))
    have R2 := Lib.hid (R1.out.below hb2 hsz1)
    obtain ⟨f0, f1⟩ := R2.out.cells
    have g0 := R2.out.soft 0
    have g1 := R2.out.soft 1
    clear hb2 HCL s2 s3
    go_wp2_with fail
    have hZ := (R2.out.set0 (.string ⟨z1.toArray⟩)).set1 (.int .i64 z2)
    refine bodyPost_ret (results_cell2 rfl rfl (load_res hZ.cells.1 hZ.cells.2)) rfl ?_
    exact ⟨by rfl, (HB2.out.setCell (p := ⟨w.heap.size, 0, none⟩) (Nat.le_refl _) _).setCell (p := ⟨w.heap.size, 1, none⟩) (Nat.le_refl _) _⟩

end Go.Proofs.YtgolhfmmlanmlaaGreatDoor
