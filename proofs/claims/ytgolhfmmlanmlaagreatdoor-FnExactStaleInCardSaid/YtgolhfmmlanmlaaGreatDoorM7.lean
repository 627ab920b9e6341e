/- Texts of one claim, joined in their order. -/
import Derived.Sort.LotD3
import Derived.Sort.LotB
import Derived.Sort.LotC
import Derived.Deep.QuietTactic
import Derived.IntWalk
import Derived.Test.YtgolhfmmlanmlaaGreatDoorM6
import Derived.Test.YtgolhfmmlanmlaaGreatDoorM1
import Derived.Test.YtgolhfmmlanmlaaGreatDoorM4

/- What tasks come to along the order, as mathematics. -/
namespace Go.Proofs.YtgolhfmmlanmlaaGreatDoor
open Go.RowKit Pth

/-- What a task comes out as. -/
def madeR (blocked did : Bool) (t : List UInt8) : ResT := if blocked then ([], 2) else if did then (t, 0) else ([], 1)
/-- What is made of results as they are. -/
def makeM (ls : List (List Int)) (rs : List (List OpT)) (m : List ResT) (k : Nat) : ResT :=
  madeR (firstL m (ls.getD k [])).2 (Pth.runT (bodiesL m (ls.getD k [])) (rs.getD k []) []).isSome (txtO (Pth.runT (bodiesL m (ls.getD k [])) (rs.getD k []) []))
/-- What a task is to be. -/
def oneM (ls : List (List Int)) (bs : List Bool) (rs : List (List OpT)) (ts : List (List UInt8)) (m : List ResT) (k : Nat) : ResT :=
  if bs.getD k false then (ts.getD k [], 0) else makeM ls rs m k
/-- Results of at most so many bytes. -/
def Sml (m : List ResT) : Prop := ∀ f ∈ m, f.1.length ≤ 40
theorem Sml.set {m : List ResT} (h : Sml m) {r : ResT} (hr : r.1.length ≤ 40) (k : Nat) : Sml (m.set k r) := by
  intro f hf
  rcases List.mem_or_eq_of_mem_set hf with h1 | h1
  · exact h f h1
  · rw [h1]; exact hr
theorem sml_none (n : Nat) : Sml (List.replicate n noRes) := by
  intro f hf; rw [(List.mem_replicate.1 hf).2]; simp [noRes]
theorem madeR_len {b d : Bool} {t : List UInt8} (h : t.length ≤ 40) : (madeR b d t).1.length ≤ 40 := by
  unfold madeR; split
  · simp
  · split
    · exact h
    · simp
theorem txt_len {x : Option (List UInt8)} (h : ∀ y, x = some y → y.length ≤ 40) : (txtO x).length ≤ 40 := by
  cases x with
  | none => simp [txtO]
  | some y => exact h y rfl
theorem makeM_len (ls : List (List Int)) (rs : List (List OpT)) (m : List ResT) (k : Nat) : (makeM ls rs m k).1.length ≤ 40 :=
  madeR_len (txt_len (fun _ h => runT_len (by simp) h))
theorem oneM_len {ls : List (List Int)} {bs : List Bool} {rs : List (List OpT)} {ts : List (List UInt8)} {m : List ResT} {k : Nat} (ht : ∀ x ∈ ts, x.length ≤ 40) : (oneM ls bs rs ts m k).1.length ≤ 40 := by
  unfold oneM; split
  · simp only
    rcases Nat.lt_or_ge k ts.length with h | h
    · rw [getD_at _ h]; exact ht _ (List.getElem_mem h)
    · rw [List.getD_eq_getElem?_getD, List.getElem?_eq_none h]; simp
  · exact makeM_len _ _ _ _
theorem src_len {ls : List (List Int)} {l : List Int} {bs : List Bool} {rs : List (List OpT)} {ts : List (List UInt8)} (h : srcA ls l bs rs ts = true) : ∀ x ∈ ts, x.length ≤ 40 := by
  intro x hx
  obtain ⟨k, hk, rfl⟩ := List.getElem_of_mem hx
  have := (src_parts h).2.2 k hk
  rw [srcP_at (by have := (src_parts h).2.1; omega) hk, Bool.and_eq_true, decide_eq_true_eq] at this
  exact this.1
theorem res_len {m : List ResT} (h : resA m = true) : Sml m := fun f hf => (resA_small h).2 f hf

/-- A walk along the order: those that are due are made. -/
def passM (one : List ResT → Nat → ResT) (due : List ResT → Nat → Bool) : List Int → List ResT × List Int → List ResT × List Int
  | [], s => s
  | k :: r, s => passM one due r (if due s.1 k.toNat then (s.1.set k.toNat (one s.1 k.toNat), s.2 ++ [k]) else s)
theorem pass_append (one : List ResT → Nat → ResT) (due : List ResT → Nat → Bool) (a b : List Int) (s : List ResT × List Int) : passM one due (a ++ b) s = passM one due b (passM one due a s) := by
  induction a generalizing s with
  | nil => rfl
  | cons k t ih => simp only [List.cons_append, passM]; exact ih _
theorem pass_next (one : List ResT → Nat → ResT) (due : List ResT → Nat → Bool) {l : List Int} {k : Nat} (hk : k < l.length) (s : List ResT × List Int) : passM one due (l.take (k + 1)) s =
    (if due (passM one due (l.take k) s).1 l[k].toNat then ((passM one due (l.take k) s).1.set l[k].toNat (one (passM one due (l.take k) s).1 l[k].toNat), (passM one due (l.take k) s).2 ++ [l[k]]) else passM one due (l.take k) s) := by
  rw [List.take_succ_eq_append_getElem hk, pass_append]; rfl
theorem pass_len (one : List ResT → Nat → ResT) (due : List ResT → Nat → Bool) (l : List Int) (s : List ResT × List Int) : (passM one due l s).1.length = s.1.length := by
  induction l generalizing s with
  | nil => rfl
  | cons k t ih =>
    simp only [passM]
    rw [ih]
    split
    · simp
    · rfl
theorem pass_sml (one : List ResT → Nat → ResT) (due : List ResT → Nat → Bool) (ho : ∀ m k, (one m k).1.length ≤ 40) (l : List Int) (s : List ResT × List Int) (h : Sml s.1) : Sml (passM one due l s).1 := by
  induction l generalizing s with
  | nil => exact h
  | cons k t ih =>
    simp only [passM]
    refine ih _ ?_
    split
    · exact h.set (ho _ _) _
    · exact h
theorem pass_made (one : List ResT → Nat → ResT) (due : List ResT → Nat → Bool) (l : List Int) (s : List ResT × List Int) : (passM one due l s).2.length ≤ s.2.length + l.length := by
  induction l generalizing s with
  | nil => simp [passM]
  | cons k t ih =>
    simp only [passM]
    refine Nat.le_trans (ih _) ?_
    split
    · simp only [List.length_append, List.length_cons, List.length_nil]; omega
    · simp only [List.length_cons]; omega
/-- How many of some are no sources. -/
def runsL (bs : List Bool) (d : List Int) : Nat := (d.filter (fun k => !bs.getD k.toNat false)).length
theorem runs_app (bs : List Bool) (d : List Int) (k : Int) : runsL bs (d ++ [k]) = runsL bs d + (if bs.getD k.toNat false then 0 else 1) := by
  unfold runsL
  rw [List.filter_append, List.length_append]
  rcases h : bs.getD k.toNat false with _ | _ <;> (rw [List.filter_cons, h]; simp)
theorem runs_le (bs : List Bool) (d : List Int) : runsL bs d ≤ d.length := List.length_filter_le _ _
/-- What a build makes. -/
def buildM (ls : List (List Int)) (l : List Int) (bs : List Bool) (rs : List (List OpT)) (ts : List (List UInt8)) : List ResT :=
  (passM (oneM ls bs rs ts) (fun _ _ => true) l (List.replicate bs.length noRes, [])).1
noncomputable def buildA (ls : List (List Int)) (l : List Int) (bs : List Bool) (rs : List (List OpT)) (ts : List (List UInt8)) : List ResT :=
  if srcA ls l bs rs ts then buildM ls l bs rs ts else []
theorem build_next {one : List ResT → Nat → ResT} {l : List Int} {k : Nat} (hk : k < l.length) (s : List ResT × List Int) : (passM one (fun _ _ => true) (l.take (k + 1)) s).1 = (passM one (fun _ _ => true) (l.take k) s).1.set l[k].toNat (one (passM one (fun _ _ => true) (l.take k) s).1 l[k].toNat) := by
  rw [pass_next _ _ hk]; rfl

/-- Those that are not what they would be. -/
def staleL (one : List ResT → Nat → ResT) (m : List ResT) : List Int := ((List.range m.length).filter (fun k => decide (one m k ≠ m.getD k noRes))).map (fun k : Nat => (k : Int))
def staleP (one : List ResT → Nat → ResT) (m : List ResT) (k : Nat) : Bool := decide (one m k ≠ m.getD k noRes)
theorem mem_stale {one : List ResT → Nat → ResT} {m : List ResT} {k : Nat} : (k : Int) ∈ staleL one m ↔ k < m.length ∧ staleP one m k = true := by
  unfold staleL staleP
  simp only [List.mem_map, List.mem_filter, List.mem_range]
  constructor
  · rintro ⟨j, h, e⟩
    obtain rfl : j = k := by omega
    exact h
  · intro h; exact ⟨k, h, rfl⟩
/-- What is made does not turn on what comes later. -/
structure Ahead (one : List ResT → Nat → ResT) (l : List Int) (n : Nat) : Prop where
  nodup : l.Nodup
  range : ∀ k ∈ l, 0 ≤ k ∧ k < (n : Int)
  all : ∀ k : Nat, k < n → (k : Int) ∈ l
  keeps : ∀ (m : List ResT) (i : Nat) (hi : i < l.length) (k : Int), k ∉ l.take i → m.length = n → ∀ r, one (m.set k.toNat r) l[i].toNat = one m l[i].toNat

theorem ahead_fresh {one : List ResT → Nat → ResT} {l : List Int} {n : Nat} (h : Ahead one l n) {m : List ResT} (hm : m.length = n) {i j : Nat} (hi : i < l.length) (hj : j < l.length) (hij : i ≤ j)
    (hf : i < j → staleP one m l[i].toNat = false) : staleP one (m.set l[j].toNat (one m l[j].toNat)) l[i].toNat = false := by
  have hnj : l[j] ∉ l.take i := by
    intro hc
    have e : l.take i = (l.take j).take i := by rw [List.take_take, Nat.min_eq_left hij]
    rw [e] at hc
    exact nodup_at h.nodup hj (List.mem_of_mem_take hc)
  have hk := h.keeps m i hi l[j] hnj hm (one m l[j].toNat)
  unfold staleP
  rw [hk]
  have hri := h.range _ (List.getElem_mem hi)
  have hrj := h.range _ (List.getElem_mem hj)
  by_cases e : i = j
  · subst e
    rw [List.getD_eq_getElem?_getD, List.getElem?_set_self (by omega)]
    simp
  · have hne : l[i] ≠ l[j] := by
      intro hc
      have hm : l[i] ∈ l.take j := by
        have hlt : i < (l.take j).length := by rw [List.length_take]; omega
        have := List.getElem_mem hlt
        rwa [List.getElem_take] at this
      exact nodup_at h.nodup hj (hc ▸ hm)
    rw [List.getD_eq_getElem?_getD, List.getElem?_set_ne (by omega), ← List.getD_eq_getElem?_getD]
    exact hf (by omega)
/-- Behind a walk up to there nothing ahead is stale. -/
theorem pass_fresh {one : List ResT → Nat → ResT} {l : List Int} {n : Nat} (h : Ahead one l n) {m : List ResT} (hm : m.length = n) {j : Nat} (hj : j ≤ l.length) :
    ∀ i (hi : i < j), staleP one (passM one (staleP one) (l.take j) (m, [])).1 (l[i]'(by omega)).toNat = false := by
  induction j with
  | zero => intro i hi; omega
  | succ j ih =>
    intro i hi
    have hlt : j < l.length := by omega
    have hl := pass_len one (staleP one) (l.take j) (m, [])
    rw [pass_next _ _ hlt]
    rcases hs : staleP one (passM one (staleP one) (l.take j) (m, [])).1 l[j].toNat with _ | _
    · rw [if_neg (by simp)]
      by_cases e : i = j
      · subst e; exact hs
      · exact ih (by omega) i (by omega)
    · rw [if_pos rfl]
      exact ahead_fresh h (by rw [hl]; exact hm) (by omega) hlt (by omega) (fun hh => ih (by omega) i hh)
theorem stale_none {one : List ResT → Nat → ResT} {m : List ResT} (h : ∀ k, k < m.length → staleP one m k = false) : staleL one m = [] := by
  unfold staleL
  rw [List.map_eq_nil_iff, List.filter_eq_nil_iff]
  intro k hk
  have := h k (List.mem_range.1 hk)
  unfold staleP at this
  rw [this]; simp
theorem pass_still {one : List ResT → Nat → ResT} (due : List ResT → Nat → Bool) (l : List Int) (s : List ResT × List Int) (h : ∀ k ∈ l, due s.1 k.toNat = false) : passM one due l s = s := by
  induction l with
  | nil => rfl
  | cons k t ih =>
    simp only [passM]
    rw [h k (by simp), if_neg (by simp)]
    exact ih (fun x hx => h x (by simp [hx]))
end Go.Proofs.YtgolhfmmlanmlaaGreatDoor

/- Walks: strings.Clone. -/
namespace Go.Proofs.YtgolhfmmlanmlaaGreatDoor
open Go.RowKit Pth

set_option maxHeartbeats 1000000 in
theorem clone_any (s : List UInt8) (w : World) (hs : s.length ≤ 1000) : Calls Tryz.prog 116 #[.string ⟨s.toArray⟩] w fun e w' => e = .returned (.string ⟨s.toArray⟩) ∧ Below w.heap.size w w' := by
  have HC := Lib.hid (Tryz.stringslite_Clone ⟨s.toArray⟩ w (by simp [ByteArray.size]; omega))
  clear hs
  go_enter Tryz.func116, Tryz.ntmps116
  go_wp2_with fail
  refine HC.out.mono ?_
  rintro e w1 ⟨rfl, hb1⟩
  go_wp2_with fail
  go_ret
  exact ⟨rfl, hb1⟩
end Go.Proofs.YtgolhfmmlanmlaaGreatDoor

/- Walks: what goes into a task, of the reference and of the program. -/
namespace Go.Proofs.YtgolhfmmlanmlaaGreatDoor
open Go.RowKit Pth

set_option maxRecDepth 20000 in
set_option maxHeartbeats 8000000 in
theorem specIns_any (ls : List (List Int)) (l : List Int) (bs : List Bool) (rs : List (List OpT)) (m : List ResT) (t : Nat) (v u : Value) (w : World) (hp : PlanV w v ls l bs rs) (hr : RowR w u m) (hpl : planA ls l bs rs = true) (hmb : m.length = bs.length) (ht : t < ls.length) (hxm : ∀ f ∈ m, f.1.length ≤ 40) :
    Calls Tryz.prog 41 #[v, u, .int .i64 (t : Int)] w (TextsPost w.heap.size (bodiesL m ls[t]) w) := by
  have hbl := (plan_parts hpl).2.1
  have HV := Lib.hid hp
  have HR := Lib.hid hr
  obtain ⟨nv, ov, sv, rv, rfl, h1, h2, h3, h4⟩ := hp
  obtain ⟨as0, cs, rfl, hs1, hs2, _⟩ := h3.boolsW
  obtain ⟨an, cn, rfl, hn1, hn2, hatn⟩ := h1.lists
  obtain ⟨ao, co, rfl, ho1, ho2, _⟩ := h2.ints
  obtain ⟨ar, cr, rfl, hr1, hr2, _⟩ := h4.lists
  obtain ⟨am, cm, rfl, hm1, hm2, hatm⟩ := hr.res
  clear h1 h2 h3 h4 hr
  unfold maxLen at hs2 hn2 ho2 hr2 hm2
  obtain ⟨wa, hwa⟩ : ∃ wa, wa = w.alloc (.cells #[.slice an ls.length cn, .slice ao l.length co, .slice as0 bs.length cs, .slice ar rs.length cr] 42) := ⟨_, rfl⟩
  have hsz : w.heap.size < wa.heap.size := by rw [hwa]; simp
  have P0 : Hid (Blk4 wa w.heap.size 42 (.slice an ls.length cn) (.slice ao l.length co) (.slice as0 bs.length cs) (.slice ar rs.length cr)) := by rw [hwa]; exact Blk4.new
  have HA : Hid (Below w.heap.size w wa) := by rw [hwa]; exact (Below.refl w.heap.size w).alloc (Nat.le_refl _) _
  have HWA := Lib.hid hwa
  have hml : m.length = ls.length := by omega
  obtain ⟨gn, on, an2, cn2, rfl, hgn, hcn, hrn⟩ := hatn t ht
  obtain ⟨_, _, hev, hcl, hcm, hatk⟩ := hrn.ints
  injection hev with hea _ hec
  subst hea hec
  unfold maxLen at hcm
  have HATK := Lib.hid hatk
  have HATM := Lib.hid hatm
  obtain ⟨hl10, hin⟩ := plan_task hpl ht
  have HIN := Lib.hid hin
  have HML := Lib.hid hml
  have HXM := Lib.hid hxm
  have HNC : Hid (wa.cell? ⟨gn, on + t, none⟩ = some (.slice an2 ls[t].length cn2)) := (HA.out.cell (p := ⟨gn, on + t, none⟩) hgn).trans hcn
  have htz : (t : Int) < (ls.length : Int) := by omega
  obtain ⟨c0, c1, c2, c3⟩ := P0.out.cells
  clear hwa hatn hatm hatk hin hpl hrn hml hmb hbl hxm
  go_enter Tryz.func41, Tryz.ntmps41
  go_wp2_with fail
  rw [← HWA.out]
  clear c0 c1 c2 c3 hcn
  go_loopw [7, 17] (fun q i wr => ∃ k : Nat, k ≤ ls[t].length ∧ i = .int .i64 k ∧ Hid (Below wa.heap.size wa wr) ∧ Hid (wr.ownsRow wa.heap.size 9 1 q (bodiesL m (ls[t].take k)).length (S (bodiesL m (ls[t].take k))))) (fun _ i _ => ls[t].length - (intOf i).toNat)
  case atStart => exact ⟨0, Nat.zero_le _, rfl, Below.refl _ _, none_own _ _ _⟩
  case round =>
    obtain ⟨k, hk, rfl, HB, HN⟩ := hrel
    have HBW := Lib.hid (bth HA.out HB.out (Nat.le_refl _))
    by_cases hlt : k < ls[t].length
    · obtain ⟨g, o, rfl, hg, hcell0⟩ := HATK.out k hlt
      have hcell := (HBW.out.cell (p := ⟨g, o + k, none⟩) hg).trans hcell0
      obtain ⟨hx0, hx1⟩ := HIN.out _ (List.getElem_mem hlt)
      obtain ⟨y, hy⟩ : ∃ y : Nat, ls[t][k] = y := ⟨(ls[t][k]).toNat, by omega⟩
      have hym : y < m.length := by have := HML.out; omega
      obtain ⟨g2, o2, rfl, hg2, hm1', hm2'⟩ := HATM.out y hym
      have s1 := (HBW.out.cell (p := ⟨g2, o2 + y * 2, none⟩) hg2).trans hm1'
      have s2 := (HBW.out.cell (p := ⟨g2, o2 + y * 2 + 1, none⟩) hg2).trans hm2'
      have hra := resAt_nat hym
      have hyz : (y : Int) < (m.length : Int) := by omega
      have HE := Lib.hid (bodies_next (m := m) hlt)
      rw [hy, hra] at HE
      have hxl : m[y].1.length ≤ 40 := HXM.out _ (List.getElem_mem hym)
      rw [hy] at hcell
      have hbl' : (bodiesL m (ls[t].take k)).length ≤ 10 := by rw [bodies_len, List.length_take]; omega
      clear hcell0 hx0 hx1 hy hm1' hm2' hra HATK HATM HIN HXM
      generalize m[y] = q at *
      generalize bodiesL m (ls[t].take k) = acc at *
      obtain ⟨q1, q2⟩ := q
      simp only at s1 s2 HE hxl
      have hIl : (S acc).length ≤ 1000000 := by rw [S_len]; omega
      obtain ⟨c0, c1, c2, c3⟩ := (P0.out.below HB.out hsz).cells
      have HN0 := HN
      have HBC := HB
      go_wp2_with (at_builtin; refine wpAppOne elemS rfl _ _ rfl wa.heap.size _ (S acc) rfl (by rw [S_len]; exact HN0.out) _ rfl (by simp) rfl hIl HBC.out.size ?_; intro v7 w7 hown7 hg7; have HN7 := Lib.hid (own_S2 hown7); have HB7 := Lib.hid (HBC.out.trans (below_own HN0.out hg7 HBC.out.size)); clear hown7 hg7)
      go_roundw
      case rel => exact ⟨k + 1, by omega, by go_num, HB7, by rw [HE.out]; exact HN7.out⟩
      case measure => simp [intOf]; omega
    · rw [List.take_of_length_le (by omega)] at HN
      clear HATK HATM HIN
      go_wp2_with fail
      go_ret
      exact ⟨_, rfl, own_base HN.out HA.out.size, HBW.out⟩

set_option maxRecDepth 20000 in
set_option maxHeartbeats 8000000 in
theorem implIns_any (ls : List (List Int)) (l : List Int) (bs : List Bool) (rs : List (List OpT)) (m : List ResT) (t : Nat) (v u : Value) (w : World) (hp : PlanV w v ls l bs rs) (hr : RowR w u m) (hpl : planA ls l bs rs = true) (hmb : m.length = bs.length) (ht : t < ls.length) (hxm : ∀ f ∈ m, f.1.length ≤ 40) :
    Calls Tryz.prog 86 #[v, u, .int .i64 (t : Int)] w (TextsPost w.heap.size (bodiesL m ls[t]) w) := by
  have hbl := (plan_parts hpl).2.1
  have HV := Lib.hid hp
  have HR := Lib.hid hr
  obtain ⟨nv, ov, sv, rv, rfl, h1, h2, h3, h4⟩ := hp
  obtain ⟨as0, cs, rfl, hs1, hs2, _⟩ := h3.boolsW
  obtain ⟨an, cn, rfl, hn1, hn2, hatn⟩ := h1.lists
  obtain ⟨ao, co, rfl, ho1, ho2, _⟩ := h2.ints
  obtain ⟨ar, cr, rfl, hr1, hr2, _⟩ := h4.lists
  obtain ⟨am, cm, rfl, hm1, hm2, hatm⟩ := hr.res
  clear h1 h2 h3 h4 hr
  unfold maxLen at hs2 hn2 ho2 hr2 hm2
  obtain ⟨wa, hwa⟩ : ∃ wa, wa = w.alloc (.cells #[.slice an ls.length cn, .slice ao l.length co, .slice as0 bs.length cs, .slice ar rs.length cr] 42) := ⟨_, rfl⟩
  have hsz : w.heap.size < wa.heap.size := by rw [hwa]; simp
  have P0 : Hid (Blk4 wa w.heap.size 42 (.slice an ls.length cn) (.slice ao l.length co) (.slice as0 bs.length cs) (.slice ar rs.length cr)) := by rw [hwa]; exact Blk4.new
  have HA : Hid (Below w.heap.size w wa) := by rw [hwa]; exact (Below.refl w.heap.size w).alloc (Nat.le_refl _) _
  have HWA := Lib.hid hwa
  have hml : m.length = ls.length := by omega
  obtain ⟨gn, on, an2, cn2, rfl, hgn, hcn, hrn⟩ := hatn t ht
  obtain ⟨_, _, hev, hcl, hcm, hatk⟩ := hrn.ints
  injection hev with hea _ hec
  subst hea hec
  unfold maxLen at hcm
  have HATK := Lib.hid hatk
  have HATM := Lib.hid hatm
  obtain ⟨hl10, hin⟩ := plan_task hpl ht
  have HIN := Lib.hid hin
  have HML := Lib.hid hml
  have HXM := Lib.hid hxm
  have HNC : Hid (wa.cell? ⟨gn, on + t, none⟩ = some (.slice an2 ls[t].length cn2)) := (HA.out.cell (p := ⟨gn, on + t, none⟩) hgn).trans hcn
  have htz : (t : Int) < (ls.length : Int) := by omega
  obtain ⟨c0, c1, c2, c3⟩ := P0.out.cells
  clear hwa hatn hatm hatk hin hpl hrn hml hmb hbl hxm
  go_enter Tryz.func86, Tryz.ntmps86
  go_wp2_with fail
  rw [← HWA.out]
  clear c0 c1 c2 c3 hcn
  go_loopw [7, 17] (fun q i wr => ∃ k : Nat, k ≤ ls[t].length ∧ i = .int .i64 k ∧ Hid (Below wa.heap.size wa wr) ∧ Hid (wr.ownsRow wa.heap.size 9 1 q (bodiesL m (ls[t].take k)).length (S (bodiesL m (ls[t].take k))))) (fun _ i _ => ls[t].length - (intOf i).toNat)
  case atStart => exact ⟨0, Nat.zero_le _, rfl, Below.refl _ _, none_own _ _ _⟩
  case round =>
    obtain ⟨k, hk, rfl, HB, HN⟩ := hrel
    have HBW := Lib.hid (bth HA.out HB.out (Nat.le_refl _))
    by_cases hlt : k < ls[t].length
    · obtain ⟨g, o, rfl, hg, hcell0⟩ := HATK.out k hlt
      have hcell := (HBW.out.cell (p := ⟨g, o + k, none⟩) hg).trans hcell0
      obtain ⟨hx0, hx1⟩ := HIN.out _ (List.getElem_mem hlt)
      obtain ⟨y, hy⟩ : ∃ y : Nat, ls[t][k] = y := ⟨(ls[t][k]).toNat, by omega⟩
      have hym : y < m.length := by have := HML.out; omega
      obtain ⟨g2, o2, rfl, hg2, hm1', hm2'⟩ := HATM.out y hym
      have s1 := (HBW.out.cell (p := ⟨g2, o2 + y * 2, none⟩) hg2).trans hm1'
      have s2 := (HBW.out.cell (p := ⟨g2, o2 + y * 2 + 1, none⟩) hg2).trans hm2'
      have hra := resAt_nat hym
      have hyz : (y : Int) < (m.length : Int) := by omega
      have HE := Lib.hid (bodies_next (m := m) hlt)
      rw [hy, hra] at HE
      have hxl : m[y].1.length ≤ 40 := HXM.out _ (List.getElem_mem hym)
      rw [hy] at hcell
      have hbl' : (bodiesL m (ls[t].take k)).length ≤ 10 := by rw [bodies_len, List.length_take]; omega
      clear hcell0 hx0 hx1 hy hm1' hm2' hra HATK HATM HIN HXM
      generalize m[y] = q at *
      generalize bodiesL m (ls[t].take k) = acc at *
      obtain ⟨q1, q2⟩ := q
      simp only at s1 s2 HE hxl
      have hIl : (S acc).length ≤ 1000000 := by rw [S_len]; omega
      obtain ⟨c0, c1, c2, c3⟩ := (P0.out.below HB.out hsz).cells
      go_wp2_with fail
      refine (clone_any q1 _ (by omega)).mono ?_
      rintro e wc ⟨rfl, hbc⟩
      have HN0 := Lib.hid (own_below HN.out hbc)
      have HBC := Lib.hid (bth HB.out hbc (Nat.le_refl _))
      clear hbc c0 c1 c2 c3
      go_wp2_with (at_builtin; refine wpAppOne elemS rfl _ _ rfl wa.heap.size _ (S acc) rfl (by rw [S_len]; exact HN0.out) _ rfl (by simp) rfl hIl HBC.out.size ?_; intro v7 w7 hown7 hg7; have HN7 := Lib.hid (own_S2 hown7); have HB7 := Lib.hid (HBC.out.trans (below_own HN0.out hg7 HBC.out.size)); clear hown7 hg7)
      go_roundw
      case rel => exact ⟨k + 1, by omega, by go_num, HB7, by rw [HE.out]; exact HN7.out⟩
      case measure => simp [intOf]; omega
    · rw [List.take_of_length_le (by omega)] at HN
      clear HATK HATM HIN
      go_wp2_with fail
      go_ret
      exact ⟨_, rfl, own_base HN.out HA.out.size, HBW.out⟩

end Go.Proofs.YtgolhfmmlanmlaaGreatDoor

/- Bytes in a block of the call's own: read, written, changed about. -/
namespace Go.Proofs.YtgolhfmmlanmlaaGreatDoor
open Go.RowKit Pth

def enc8 (x : UInt8) : Value := .int .u8 (x.toNat : Int)
def ltB (x y : UInt8) : Bool := decide (x.toNat < y.toNat)
/-- The block g holds these bytes, and tl behind them. -/
def SB (g : Nat) (tl : List Value) (d : Array UInt8) (w : World) : Prop := w.heap[g]? = some (.cells (d.toList.map enc8 ++ tl).toArray 5 (d.size + tl.length, d.size + tl.length + 1))
theorem SB.cell {g : Nat} {tl : List Value} {d : Array UInt8} {w : World} (h : SB g tl d w) {i : Nat} (hi : i < d.size) : w.cell? ⟨g, i, none⟩ = some (.int .u8 (d[i]!.toNat : Int)) := by
  unfold SB at h
  rw [Lib.cell_of_heap h, List.getElem?_toArray, List.getElem?_append_left (by simpa using hi)]
  simp [hi, enc8]
theorem SB.frozen {g : Nat} {tl : List Value} {d : Array UInt8} {w : World} (h : SB g tl d w) (i : Nat) (hi : i < d.size) : w.frozen? ⟨g, i, none⟩ = false := by
  unfold SB at h
  simp only [World.frozen?, h, Bool.and_eq_false_iff, decide_eq_false_iff_not]
  left
  omega
theorem block_set8 {w : World} {b o : Nat} {u : Value} {cs : Array Value} {T : TypeId} {fr : Nat × Nat} (hb : w.heap[b]? = some (.cells cs T fr)) : (w.setCell ⟨b, o, none⟩ u).heap[b]? = some (.cells (cs.setIfInBounds o u) T fr) := by
  simp [World.setCell, Array.getElem?_modify, hb]
theorem SB.set {g : Nat} {tl : List Value} {d : Array UInt8} {w : World} (h : SB g tl d w) {i : Nat} (hi : i < d.size) (x : UInt8) : SB g tl (d.setIfInBounds i x) (w.setCell ⟨g, i, none⟩ (.int .u8 (x.toNat : Int))) := by
  unfold SB at h ⊢
  rw [block_set8 h, Array.size_setIfInBounds]
  congr 2
  apply Array.ext'
  simp only [Array.toList_setIfInBounds, List.map_set]
  rw [List.set_append_left _ _ (by simpa using hi)]
  rfl
theorem SB.drewN {g : Nat} {tl : List Value} {d : Array UInt8} {w : World} (h : SB g tl d w) (n : Nat) : SB g tl d (w.drewN n) := h
theorem SB.grown {g : Nat} {tl : List Value} {d : Array UInt8} {w w' : World} (h : SB g tl d w) (hb : Below w.heap.size w w') : SB g tl d w' := (hb.block g (lt_of_block h)).trans h
theorem SB.alloc {g : Nat} {tl : List Value} {d : Array UInt8} {w : World} (h : SB g tl d w) (o : Obj) : SB g tl d (w.alloc o) := (Below.heap_alloc w o g (lt_of_block h)).trans h
/-- Only the block g has turned. -/
def On (g : Nat) (w w' : World) : Prop := w.grownBy w' (some g)
theorem On.refl (g : Nat) (w : World) : On g w w := ⟨rfl, rfl, rfl, Nat.le_refl _, fun _ _ _ => rfl⟩
theorem On.drewN {g : Nat} {w w' : World} (h : On g w w') (n : Nat) : On g w (w'.drewN n) := ⟨h.os, h.tape, h.output, h.size, h.block⟩
theorem On.set {g : Nat} {w w' : World} (h : On g w w') (i : Nat) (u : Value) : On g w (w'.setCell ⟨g, i, none⟩ u) :=
  ⟨h.os, h.tape, h.output, by simpa [World.setCell] using h.size, fun i hi hne => (Below.heap_setCell w' ⟨g, _, none⟩ u i (fun e => hne (by rw [e]))).trans (h.block i hi hne)⟩
theorem On.alloc {g : Nat} {w w' : World} (h : On g w w') (o : Obj) : On g w (w'.alloc o) :=
  ⟨h.os, h.tape, h.output, Nat.le_trans h.size (by simp), fun i hi hne => (Below.heap_alloc w' o i (Nat.lt_of_lt_of_le hi h.size)).trans (h.block i hi hne)⟩
theorem On.trans {g : Nat} {a b c : World} (h : On g a b) (k : On g b c) : On g a c :=
  ⟨k.os.trans h.os, k.tape.trans h.tape, k.output.trans h.output, Nat.le_trans h.size k.size, fun i hi hn => (k.block i (Nat.lt_of_lt_of_le hi h.size) hn).trans (h.block i hi hn)⟩
/-- Nothing is handed back; the block holds d'. -/
def SPost (g : Nat) (tl : List Value) (d' : Array UInt8) (w : World) (e : Ending) (w' : World) : Prop := e = .returned (.tuple #[]) ∧ SB g tl d' w' ∧ On g w w'
theorem swp_set (d : Array UInt8) (i j : Nat) : Sort.swp d i j = (d.setIfInBounds i d[j]!).setIfInBounds j d[i]! := rfl
theorem SB.swap {g : Nat} {tl : List Value} {d : Array UInt8} {w : World} (h : SB g tl d w) {i j : Nat} (hi : i < d.size) (hj : j < d.size) : SB g tl (Sort.swp d i j) ((w.setCell ⟨g, i, none⟩ (.int .u8 (d[j]!.toNat : Int))).setCell ⟨g, j, none⟩ (.int .u8 (d[i]!.toNat : Int))) :=
  (h.set hi d[j]!).set (by simpa using hj) d[i]!
theorem On.swap {g : Nat} {w w' : World} (h : On g w w') (i j : Nat) (u v : Value) : On g w ((w'.setCell ⟨g, i, none⟩ u).setCell ⟨g, j, none⟩ v) := (h.set i u).set j v

set_option maxHeartbeats 400000 in
theorem nan8 (x : UInt8) (w : World) : Calls Tryz.prog 190 #[.int .u8 (x.toNat : Int)] w fun e w' => e = .returned (.bool false) ∧ w = w' := by
  go_enter Tryz.func190, Tryz.ntmps190
  go_wp2
  go_ret
  exact ⟨by simp, rfl⟩
set_option maxHeartbeats 400000 in
theorem less8 (x y : UInt8) (w : World) : Calls Tryz.prog 180 #[.int .u8 (x.toNat : Int), .int .u8 (y.toNat : Int)] w fun e w' => e = .returned (.bool (ltB x y)) ∧ w = w' := by
  go_enter Tryz.func180, Tryz.ntmps180
  go_wp2_with (go_at_call 190; refine (nan8 _ _).mono ?_; rintro e w' ⟨rfl, rfl⟩)
  go_ret
  exact ⟨by unfold ltB; congr 2, rfl⟩
theorem less_b {x y : UInt8} {b : Bool} (h : ltB x y = b) (w : World) : Calls Tryz.prog 180 #[.int .u8 (x.toNat : Int), .int .u8 (y.toNat : Int)] w fun e w' => e = .returned (.bool b) ∧ w = w' := by
  have := less8 x y w; rwa [h] at this

theorem less_q {x y : UInt8} {b : Bool} (h : ltB x y = b) (w : World) : Calls Tryz.prog 180 #[.int .u8 (x.toNat : Int), .int .u8 (y.toNat : Int)] w fun e w' => e = .returned (.bool b) ∧ w' = w :=
  (less_b h w).mono fun _ _ ⟨h1, h2⟩ => ⟨h1, h2.symm⟩

theorem swo8 : Sort.SWO ltB where
  irrefl := fun x => by simp [ltB]
  trans := fun x y z h1 h2 => by simp only [ltB, decide_eq_true_eq] at *; omega
  ntrans := fun x y z h1 h2 => by simp only [ltB, decide_eq_false_iff_not] at *; omega

end Go.Proofs.YtgolhfmmlanmlaaGreatDoor

/- Walks: the library's insertion sort at bytes. -/
namespace Go.Proofs.YtgolhfmmlanmlaaGreatDoor
open Go.RowKit Pth

theorem insInner_go {a j : Nat} {d : Array UInt8} (h : j + 1 > a) (hl : ltB d[j + 1]! d[j]! = true) : Sort.insInner ltB a (j + 1) d = Sort.insInner ltB a j (Sort.swp d (j + 1) j) := by
  rw [Sort.insInner, hl, decide_eq_true h]; rfl
theorem insInner_stop {a j : Nat} {d : Array UInt8} (h : ltB d[j + 1]! d[j]! = false) : Sort.insInner ltB a (j + 1) d = d := by
  rw [Sort.insInner, h]; simp
theorem insInner_low {a j : Nat} {d : Array UInt8} (h : j ≤ a) : Sort.insInner ltB a j d = d := by
  cases j with
  | zero => rfl
  | succ j => rw [Sort.insInner, decide_eq_false (by omega : ¬ j + 1 > a)]; simp
theorem insOuter_go {a b i : Nat} {d : Array UInt8} (h : i < b) : Sort.insOuter ltB a b i d = Sort.insOuter ltB a b (i + 1) (Sort.insInner ltB a i d) := by
  rw [Sort.insOuter, if_pos h]
theorem insOuter_stop {a b i : Nat} {d : Array UInt8} (h : ¬ i < b) : Sort.insOuter ltB a b i d = d := by
  rw [Sort.insOuter, if_neg h]
theorem swp_sz (d : Array UInt8) (i j : Nat) : (Sort.swp d i j).size = d.size := by simp [Sort.swp]
theorem insInner_size (a j : Nat) (d : Array UInt8) : (Sort.insInner ltB a j d).size = d.size := by
  induction j generalizing d with
  | zero => rfl
  | succ j ih =>
    rw [Sort.insInner]
    split
    · rw [ih, swp_sz]
    · rfl

set_option maxRecDepth 20000 in
set_option maxHeartbeats 4000000 in
theorem insertion8 (g : Nat) (tl : List Value) (d0 : Array UInt8) (n cap a b : Nat) (w : World) (h : SB g tl d0 w) (hn : d0.size = n) (_hc : n ≤ cap) (hb : b ≤ n) (hN : n ≤ 1000) (hab : a ≤ 1000) :
    Calls Tryz.prog 174 #[.slice (some ⟨g, 0, none⟩) n cap, .int .i64 a, .int .i64 b] w (SPost g tl (Sort.insertionSort ltB d0 a b) w) := by
  have HT : Hid (Sort.insertionSort ltB d0 a b = Sort.insOuter ltB a b (a + 1) d0) := rfl
  have HS := Lib.hid h
  have HZ := Lib.hid hn
  clear h hn
  go_enter Tryz.func174, Tryz.ntmps174
  go_wp2_with fail
  go_loopw [6] (fun q wr => ∃ (i : Nat) (d : Array UInt8), a + 1 ≤ i ∧ i ≤ 1001 ∧ q = .int .i64 i ∧ Hid (SB g tl d wr) ∧ Hid (On g w wr) ∧ Hid (d.size = n) ∧ Hid (Sort.insOuter ltB a b (a + 1) d0 = Sort.insOuter ltB a b i d)) (fun q _ => 1001 - (intOf q).toNat)
  case atStart => exact ⟨a + 1, d0, Nat.le_refl _, by omega, by go_num, HS, On.refl _ _, HZ, rfl⟩
  case round =>
    clear HS HZ
    obtain ⟨i, d, hi0, hi1, rfl, HS, HO, HZ, HE⟩ := hrel
    by_cases hlt : i < b
    · have HE1 := Lib.hid (HE.out.trans (insOuter_go hlt))
      clear HE
      go_wp2_with fail
      go_loopw [7] (fun q wq => ∃ (j : Nat) (c : Array UInt8), j ≤ i ∧ q = .int .i64 j ∧ Hid (SB g tl c wq) ∧ Hid (On g w wq) ∧ Hid (c.size = n) ∧ Hid (Sort.insInner ltB a i d = Sort.insInner ltB a j c)) (fun q _ => (intOf q).toNat)
      case atStart => exact ⟨i, d, Nat.le_refl _, rfl, HS, HO, HZ, rfl⟩
      case round =>
        clear HS HO HZ
        obtain ⟨j, c, hj, rfl, HS, HO, HZ, HF⟩ := hrel
        by_cases hja : a < j
        · obtain ⟨m, rfl⟩ : ∃ m, j = m + 1 := ⟨j - 1, by omega⟩
          have hg1 : decide ((a : Int) < (m : Int) + 1) = true := decide_eq_true (by omega)
          have c1 := HS.out.cell (i := m + 1) (by rw [HZ.out]; omega)
          have c0 := HS.out.cell (i := m) (by rw [HZ.out]; omega)
          obtain ⟨lb, hlb⟩ : ∃ lb, ltB c[m + 1]! c[m]! = lb := ⟨_, rfl⟩
          have HL := Lib.hid (fun W => less_q hlb W)
          have hx1 : (m : Int) + 1 < (n : Int) := by omega
          have hx0 : (m : Int) < (n : Int) := by omega
          have hx2 : (0 : Int) ≤ (m : Int) + 1 := by omega
          have hn1 : ((m : Int) + 1).toNat = m + 1 := by omega
          have hw1 : IntKind.i64.wrap (m : Int) = (m : Int) := IntWalk.i64_in _ (by omega)
          rcases lb with _ | _
          · have HF1 := Lib.hid (HF.out.trans (insInner_stop hlb))
            clear HF hlb
            generalize c[m + 1]! = x at c1 HL
            generalize c[m]! = y at c0 HL
            go_wp2_with fail
            go_quiet ((go_at_call 180; exact Calls.quiet_of_same (HL.out _)))
            go_wp2_with fail
            go_roundw
            case rel => exact ⟨i + 1, c, by omega, by omega, by go_num, HS.out.drewN _, HO.out.drewN _, HZ, by rw [HE1.out, HF1.out]; rfl⟩
            case measure => simp [intOf]; omega
          · have HF1 := Lib.hid (HF.out.trans (insInner_go hja hlb))
            have HS1 := Lib.hid (HS.out.swap (i := m + 1) (j := m) (by rw [HZ.out]; omega) (by rw [HZ.out]; omega))
            have HZ1 : Hid ((Sort.swp c (m + 1) m).size = n) := (swp_sz _ _ _).trans HZ.out
            have f1 := HS.out.frozen (m + 1) (by rw [HZ.out]; omega)
            have f0 := HS.out.frozen m (by rw [HZ.out]; omega)
            generalize Sort.swp c (m + 1) m = c' at HS1 HF1 HZ1
            clear HF hlb
            generalize c[m + 1]! = x at c1 HL HS1
            generalize c[m]! = y at c0 HL HS1
            go_wp2_with fail
            go_quiet ((go_at_call 180; exact Calls.quiet_of_same (HL.out _)))
            go_wp2_with fail
            go_region
            go_wp2_with fail
            go_roundw
            case rel => exact ⟨m, c', by omega, by go_num, HS1.out, (HO.out.drewN _).swap _ _ _ _, HZ1, HF1⟩
            case measure => simp [intOf]
        · have hg1 : decide ((a : Int) < (j : Int)) = false := decide_eq_false (by omega)
          have HF1 := Lib.hid (HF.out.trans (insInner_low (by omega)))
          clear HF
          go_wp2_with fail
          go_quiet (fail)
          go_wp2_with fail
          go_roundw
          case rel => exact ⟨i + 1, c, by omega, by omega, by go_num, HS.out.drewN _, HO.out.drewN _, HZ, by rw [HE1.out, HF1.out]; rfl⟩
          case measure => simp [intOf]; omega
    · have HE1 := Lib.hid (HE.out.trans (insOuter_stop hlt))
      clear HE
      go_wp2_with fail
      go_end0
      exact ⟨rfl, by rw [HT.out, HE1.out]; exact HS.out, HO.out⟩

end Go.Proofs.YtgolhfmmlanmlaaGreatDoor

/- Walks: the library's heap sort at bytes. -/
namespace Go.Proofs.YtgolhfmmlanmlaaGreatDoor
open Go.RowKit Pth

/-- The greater child. -/
def kid (hi first r : Nat) (d : Array UInt8) : Nat := if 2 * r + 1 + 1 < hi && ltB d[first + (2 * r + 1)]! d[first + (2 * r + 1) + 1]! then 2 * r + 2 else 2 * r + 1
theorem sift_end {hi first r : Nat} {d : Array UInt8} (h : hi ≤ 2 * r + 1) : Sort.siftDown ltB hi first r d = d := by
  rw [Sort.siftDown, dif_pos h]
theorem sift_step {hi first r : Nat} {d : Array UInt8} (h : ¬ hi ≤ 2 * r + 1) : Sort.siftDown ltB hi first r d = if ltB d[first + r]! d[first + kid hi first r d]! then Sort.siftDown ltB hi first (kid hi first r d) (Sort.swp d (first + r) (first + kid hi first r d)) else d := by
  rw [Sort.siftDown, dif_neg h]
  unfold kid
  by_cases hc : (decide (2 * r + 1 + 1 < hi) && ltB d[first + (2 * r + 1)]! d[first + (2 * r + 1) + 1]!) = true
  · rw [if_pos hc, if_pos hc]
    have h2 : 2 * r + 2 < hi := by simp only [Bool.and_eq_true, decide_eq_true_eq] at hc; omega
    rw [dif_pos h2]
    rcases hl : ltB d[first + r]! d[first + (2 * r + 2)]! with _ | _ <;> simp
  · rw [if_neg hc, if_neg hc]
    rcases hl : ltB d[first + r]! d[first + (2 * r + 1)]! with _ | _ <;> simp
theorem kid_lt {hi first r : Nat} {d : Array UInt8} (h : ¬ hi ≤ 2 * r + 1) : kid hi first r d < hi ∧ r < kid hi first r d := by
  unfold kid
  split
  · rename_i hc
    simp only [Bool.and_eq_true, decide_eq_true_eq] at hc
    omega
  · omega

set_option maxRecDepth 20000 in
set_option maxHeartbeats 4000000 in
theorem sift8 (g : Nat) (tl : List Value) (d0 : Array UInt8) (n cap lo hi first : Nat) (w : World) (h : SB g tl d0 w) (hn : d0.size = n) (_hc : n ≤ cap) (hb : first + hi ≤ n) (hN : n ≤ 1000) (hlo : lo ≤ 1000) :
    Calls Tryz.prog 187 #[.slice (some ⟨g, 0, none⟩) n cap, .int .i64 lo, .int .i64 hi, .int .i64 first] w (SPost g tl (Sort.siftDown ltB hi first lo d0) w) := by
  have HS := Lib.hid h
  have HZ := Lib.hid hn
  clear h hn
  go_enter Tryz.func187, Tryz.ntmps187
  go_wp2_with fail
  go_loopw [8] (fun q wr => ∃ (r : Nat) (d : Array UInt8), r ≤ 1000 ∧ q = .int .i64 r ∧ Hid (SB g tl d wr) ∧ Hid (On g w wr) ∧ Hid (d.size = n) ∧ Hid (Sort.siftDown ltB hi first lo d0 = Sort.siftDown ltB hi first r d)) (fun q _ => 1000 - (intOf q).toNat)
  case atStart => exact ⟨lo, d0, hlo, rfl, HS, On.refl _ _, HZ, rfl⟩
  case round =>
    clear HS HZ
    obtain ⟨r, d, hr, rfl, HS, HO, HZ, HE⟩ := hrel
    by_cases hend : hi ≤ 2 * r + 1
    · have HE1 := Lib.hid (HE.out.trans (sift_end hend))
      have hd0 : decide (2 * (r : Int) + 1 ≥ (hi : Int)) = true := decide_eq_true (by omega)
      clear HE
      go_wp2_with fail
      go_end0
      exact ⟨rfl, by rw [HE1.out]; exact HS.out, HO.out⟩
    · have hd0 : decide (2 * (r : Int) + 1 ≥ (hi : Int)) = false := decide_eq_false (by omega)
      have HE1 := Lib.hid (HE.out.trans (sift_step hend))
      have hkl := kid_lt (first := first) (d := d) hend
      clear HE
      have p1 := HS.out.cell (i := first + (2 * r + 1)) (by rw [HZ.out]; omega)
      have a1 : (0 : Int) ≤ (first : Int) + (2 * (r : Int) + 1) := by omega
      have a2 : (first : Int) + (2 * (r : Int) + 1) < (n : Int) := by omega
      have a3 : IntKind.i64.wrap ((first : Int) + (2 * (r : Int) + 1)) = (first : Int) + (2 * (r : Int) + 1) := IntWalk.i64_in _ (by omega)
      have a4 : ((first : Int) + (2 * (r : Int) + 1)).toNat = first + (2 * r + 1) := by omega
      have a5 : IntKind.i64.wrap (2 * (r : Int) + 1 + 1) = 2 * (r : Int) + 1 + 1 := IntWalk.i64_in _ (by omega)
      by_cases h2 : 2 * r + 1 + 1 < hi
      · have g1 : decide (2 * (r : Int) + 1 + 1 < (hi : Int)) = true := decide_eq_true (by omega)
        have p2 := HS.out.cell (i := first + (2 * r + 1) + 1) (by rw [HZ.out]; omega)
        have b1 : (0 : Int) ≤ (first : Int) + (2 * (r : Int) + 1) + 1 := by omega
        have b2 : (first : Int) + (2 * (r : Int) + 1) + 1 < (n : Int) := by omega
        have b3 : IntKind.i64.wrap ((first : Int) + (2 * (r : Int) + 1) + 1) = (first : Int) + (2 * (r : Int) + 1) + 1 := IntWalk.i64_in _ (by omega)
        have b4 : ((first : Int) + (2 * (r : Int) + 1) + 1).toNat = first + (2 * r + 1) + 1 := by omega
        obtain ⟨l1, hl1⟩ : ∃ b, ltB d[first + (2 * r + 1)]! d[first + (2 * r + 1) + 1]! = b := ⟨_, rfl⟩
        have HL1 := Lib.hid (fun W => less_q hl1 W)
        have HKL : Hid (kid hi first r d = if l1 then 2 * r + 2 else 2 * r + 1) := by unfold kid Hid; rw [hl1, decide_eq_true h2]; rfl
        generalize d[first + (2 * r + 1)]! = x1 at p1 HL1
        generalize d[first + (2 * r + 1) + 1]! = x2 at p2 HL1
        clear hl1
        rcases l1 with _ | _
        · have HK : Hid (kid hi first r d = 2 * r + 1) := HKL.out
          clear HKL
          go_wp2_with fail
          go_quiet ((go_at_call 180; exact Calls.quiet_of_same (HL1.out _)))
          obtain ⟨w1, hw1⟩ : ∃ w1, w1 = wr.drewN nq := ⟨_, rfl⟩
          rw [← hw1]
          have HS1 : Hid (SB g tl d w1) := by rw [hw1]; exact HS.out.drewN _
          have HO1 : Hid (On g w w1) := by rw [hw1]; exact HO.out.drewN _
          clear hw1 HS HO
          rw [HK.out] at HE1 hkl
          have y1 := HS1.out.cell (i := first + r) (by rw [HZ.out]; omega)
          have y2 := HS1.out.cell (i := first + (2 * r + 1)) (by rw [HZ.out]; omega)
          have z1 := HS1.out.frozen (first + r) (by rw [HZ.out]; omega)
          have z2 := HS1.out.frozen (first + (2 * r + 1)) (by rw [HZ.out]; omega)
          have e1 : (0 : Int) ≤ (first : Int) + (r : Int) := by omega
          have e2 : (first : Int) + (r : Int) < (n : Int) := by omega
          have e3 : IntKind.i64.wrap ((first : Int) + (r : Int)) = (first : Int) + (r : Int) := IntWalk.i64_in _ (by omega)
          have e4 : ((first : Int) + (r : Int)).toNat = first + r := by omega
          have k1 : (0 : Int) ≤ (first : Int) + (2 * (r : Int) + 1) := by omega
          have k2 : (first : Int) + (2 * (r : Int) + 1) < (n : Int) := by omega
          have k3 : IntKind.i64.wrap ((first : Int) + (2 * (r : Int) + 1)) = (first : Int) + (2 * (r : Int) + 1) := IntWalk.i64_in _ (by omega)
          have k4 : ((first : Int) + (2 * (r : Int) + 1)).toNat = first + (2 * r + 1) := by omega
          obtain ⟨l2, hl2⟩ : ∃ b, ltB d[first + r]! d[first + (2 * r + 1)]! = b := ⟨_, rfl⟩
          have HL2 := Lib.hid (fun W => less_q hl2 W)
          have HSW := Lib.hid (HS1.out.swap (i := first + r) (j := first + (2 * r + 1)) (by rw [HZ.out]; omega) (by rw [HZ.out]; omega))
          have HZ1 : Hid ((Sort.swp d (first + r) (first + (2 * r + 1))).size = n) := (swp_sz _ _ _).trans HZ.out
          rw [hl2] at HE1
          generalize Sort.swp d (first + r) (first + (2 * r + 1)) = d' at HSW HZ1 HE1
          generalize d[first + r]! = v1 at y1 HL2 HSW
          generalize d[first + (2 * r + 1)]! = v2 at y2 HL2 HSW
          clear hl2
          rcases l2 with _ | _
          · go_wp2_with fail
            go_quiet ((go_at_call 180; exact Calls.quiet_of_same (HL2.out _)))
            go_wp2_with fail
            go_end0
            exact ⟨rfl, by rw [HE1.out]; exact HS1.out, HO1.out.drewN _⟩
          · go_wp2_with fail
            go_quiet ((go_at_call 180; exact Calls.quiet_of_same (HL2.out _)))
            go_wp2_with fail
            go_region
            go_wp2_with fail
            go_roundw
            case rel => exact ⟨2 * r + 1, d', by omega, by go_num, HSW.out, (HO1.out.drewN _).swap _ _ _ _, HZ1, by rw [HE1.out]; rfl⟩
            case measure => simp [intOf]; omega
        · have HK : Hid (kid hi first r d = 2 * r + 1 + 1) := HKL.out
          clear HKL
          go_wp2_with fail
          go_quiet ((go_at_call 180; exact Calls.quiet_of_same (HL1.out _)))
          obtain ⟨w1, hw1⟩ : ∃ w1, w1 = wr.drewN nq := ⟨_, rfl⟩
          rw [← hw1]
          have HS1 : Hid (SB g tl d w1) := by rw [hw1]; exact HS.out.drewN _
          have HO1 : Hid (On g w w1) := by rw [hw1]; exact HO.out.drewN _
          clear hw1 HS HO
          rw [HK.out] at HE1 hkl
          have y1 := HS1.out.cell (i := first + r) (by rw [HZ.out]; omega)
          have y2 := HS1.out.cell (i := first + (2 * r + 1 + 1)) (by rw [HZ.out]; omega)
          have z1 := HS1.out.frozen (first + r) (by rw [HZ.out]; omega)
          have z2 := HS1.out.frozen (first + (2 * r + 1 + 1)) (by rw [HZ.out]; omega)
          have e1 : (0 : Int) ≤ (first : Int) + (r : Int) := by omega
          have e2 : (first : Int) + (r : Int) < (n : Int) := by omega
          have e3 : IntKind.i64.wrap ((first : Int) + (r : Int)) = (first : Int) + (r : Int) := IntWalk.i64_in _ (by omega)
          have e4 : ((first : Int) + (r : Int)).toNat = first + r := by omega
          have k1 : (0 : Int) ≤ (first : Int) + (2 * (r : Int) + 1 + 1) := by omega
          have k2 : (first : Int) + (2 * (r : Int) + 1 + 1) < (n : Int) := by omega
          have k3 : IntKind.i64.wrap ((first : Int) + (2 * (r : Int) + 1 + 1)) = (first : Int) + (2 * (r : Int) + 1 + 1) := IntWalk.i64_in _ (by omega)
          have k4 : ((first : Int) + (2 * (r : Int) + 1 + 1)).toNat = first + (2 * r + 1 + 1) := by omega
          obtain ⟨l2, hl2⟩ : ∃ b, ltB d[first + r]! d[first + (2 * r + 1 + 1)]! = b := ⟨_, rfl⟩
          have HL2 := Lib.hid (fun W => less_q hl2 W)
          have HSW := Lib.hid (HS1.out.swap (i := first + r) (j := first + (2 * r + 1 + 1)) (by rw [HZ.out]; omega) (by rw [HZ.out]; omega))
          have HZ1 : Hid ((Sort.swp d (first + r) (first + (2 * r + 1 + 1))).size = n) := (swp_sz _ _ _).trans HZ.out
          rw [hl2] at HE1
          generalize Sort.swp d (first + r) (first + (2 * r + 1 + 1)) = d' at HSW HZ1 HE1
          generalize d[first + r]! = v1 at y1 HL2 HSW
          generalize d[first + (2 * r + 1 + 1)]! = v2 at y2 HL2 HSW
          clear hl2
          rcases l2 with _ | _
          · go_wp2_with fail
            go_quiet ((go_at_call 180; exact Calls.quiet_of_same (HL2.out _)))
            go_wp2_with fail
            go_end0
            exact ⟨rfl, by rw [HE1.out]; exact HS1.out, HO1.out.drewN _⟩
          · go_wp2_with fail
            go_quiet ((go_at_call 180; exact Calls.quiet_of_same (HL2.out _)))
            go_wp2_with fail
            go_region
            go_wp2_with fail
            go_roundw
            case rel => exact ⟨2 * r + 1 + 1, d', by omega, by go_num, HSW.out, (HO1.out.drewN _).swap _ _ _ _, HZ1, by rw [HE1.out]; rfl⟩
            case measure => simp [intOf]; omega
      · have g1 : decide (2 * (r : Int) + 1 + 1 < (hi : Int)) = false := decide_eq_false (by omega)
        have HK : Hid (kid hi first r d = 2 * r + 1) := by unfold kid Hid; rw [decide_eq_false h2]; rfl
        go_wp2_with fail
        go_quiet (fail)
        obtain ⟨w1, hw1⟩ : ∃ w1, w1 = wr.drewN nq := ⟨_, rfl⟩
        rw [← hw1]
        have HS1 : Hid (SB g tl d w1) := by rw [hw1]; exact HS.out.drewN _
        have HO1 : Hid (On g w w1) := by rw [hw1]; exact HO.out.drewN _
        clear hw1 HS HO
        rw [HK.out] at HE1 hkl
        have y1 := HS1.out.cell (i := first + r) (by rw [HZ.out]; omega)
        have y2 := HS1.out.cell (i := first + (2 * r + 1)) (by rw [HZ.out]; omega)
        have z1 := HS1.out.frozen (first + r) (by rw [HZ.out]; omega)
        have z2 := HS1.out.frozen (first + (2 * r + 1)) (by rw [HZ.out]; omega)
        have e1 : (0 : Int) ≤ (first : Int) + (r : Int) := by omega
        have e2 : (first : Int) + (r : Int) < (n : Int) := by omega
        have e3 : IntKind.i64.wrap ((first : Int) + (r : Int)) = (first : Int) + (r : Int) := IntWalk.i64_in _ (by omega)
        have e4 : ((first : Int) + (r : Int)).toNat = first + r := by omega
        have k1 : (0 : Int) ≤ (first : Int) + (2 * (r : Int) + 1) := by omega
        have k2 : (first : Int) + (2 * (r : Int) + 1) < (n : Int) := by omega
        have k3 : IntKind.i64.wrap ((first : Int) + (2 * (r : Int) + 1)) = (first : Int) + (2 * (r : Int) + 1) := IntWalk.i64_in _ (by omega)
        have k4 : ((first : Int) + (2 * (r : Int) + 1)).toNat = first + (2 * r + 1) := by omega
        obtain ⟨l2, hl2⟩ : ∃ b, ltB d[first + r]! d[first + (2 * r + 1)]! = b := ⟨_, rfl⟩
        have HL2 := Lib.hid (fun W => less_q hl2 W)
        have HSW := Lib.hid (HS1.out.swap (i := first + r) (j := first + (2 * r + 1)) (by rw [HZ.out]; omega) (by rw [HZ.out]; omega))
        have HZ1 : Hid ((Sort.swp d (first + r) (first + (2 * r + 1))).size = n) := (swp_sz _ _ _).trans HZ.out
        rw [hl2] at HE1
        generalize Sort.swp d (first + r) (first + (2 * r + 1)) = d' at HSW HZ1 HE1
        generalize d[first + r]! = v1 at y1 HL2 HSW
        generalize d[first + (2 * r + 1)]! = v2 at y2 HL2 HSW
        clear hl2
        rcases l2 with _ | _
        · go_wp2_with fail
          go_quiet ((go_at_call 180; exact Calls.quiet_of_same (HL2.out _)))
          go_wp2_with fail
          go_end0
          exact ⟨rfl, by rw [HE1.out]; exact HS1.out, HO1.out.drewN _⟩
        · go_wp2_with fail
          go_quiet ((go_at_call 180; exact Calls.quiet_of_same (HL2.out _)))
          go_wp2_with fail
          go_region
          go_wp2_with fail
          go_roundw
          case rel => exact ⟨2 * r + 1, d', by omega, by go_num, HSW.out, (HO1.out.drewN _).swap _ _ _ _, HZ1, by rw [HE1.out]; rfl⟩
          case measure => simp [intOf]; omega

end Go.Proofs.YtgolhfmmlanmlaaGreatDoor

/- Walks: the library's heap sort at bytes: built and taken apart. -/
namespace Go.Proofs.YtgolhfmmlanmlaaGreatDoor
open Go.RowKit Pth

theorem sift_size (hi first : Nat) : ∀ (m r : Nat) (d : Array UInt8), hi - r ≤ m → (Sort.siftDown ltB hi first r d).size = d.size := by
  intro m
  induction m with
  | zero =>
    intro r d h
    rw [sift_end (by omega)]
  | succ m ih =>
    intro r d h
    by_cases hend : hi ≤ 2 * r + 1
    · rw [sift_end hend]
    · rw [sift_step hend]
      have hk := kid_lt (first := first) (d := d) hend
      split
      · rw [ih _ _ (by omega), swp_sz]
      · rfl
theorem sift_sz (hi first r : Nat) (d : Array UInt8) : (Sort.siftDown ltB hi first r d).size = d.size := sift_size hi first _ r d (Nat.le_refl _)
theorem sift8i (g : Nat) (tl : List Value) (d0 : Array UInt8) (n cap lo hi first : Nat) (LO HI FI : Int) (h1 : LO = lo) (h2 : HI = hi) (h3 : FI = first) (w : World) (h : SB g tl d0 w) (hn : d0.size = n) (hc : n ≤ cap) (hb : first + hi ≤ n) (hN : n ≤ 1000) (hlo : lo ≤ 1000) :
    Calls Tryz.prog 187 #[.slice (some ⟨g, 0, none⟩) n cap, .int .i64 LO, .int .i64 HI, .int .i64 FI] w (SPost g tl (Sort.siftDown ltB hi first lo d0) w) := by
  subst h1 h2 h3
  exact sift8 g tl d0 n cap lo hi first w h hn hc hb hN hlo
theorem build_go (hi first k : Nat) (d : Array UInt8) : Sort.heapBuild ltB hi first (k + 1) d = Sort.heapBuild ltB hi first k (Sort.siftDown ltB hi first k d) := rfl
theorem pop_go (first k : Nat) (d : Array UInt8) : Sort.heapPop ltB first (k + 1) d = Sort.heapPop ltB first k (Sort.siftDown ltB k first 0 (Sort.swp d first (first + k))) := rfl

set_option maxRecDepth 20000 in
set_option maxHeartbeats 4000000 in
theorem heap8 (g : Nat) (tl : List Value) (d0 : Array UInt8) (n cap a b : Nat) (w : World) (h : SB g tl d0 w) (hn : d0.size = n) (hc : n ≤ cap) (hb : b ≤ n) (hN : n ≤ 1000) (hpos : a < b) :
    Calls Tryz.prog 175 #[.slice (some ⟨g, 0, none⟩) n cap, .int .i64 a, .int .i64 b] w (SPost g tl (Sort.heapSort ltB d0 a b) w) := by
  obtain ⟨hi, hhi⟩ : ∃ hi, hi = b - a := ⟨_, rfl⟩
  have HT : Hid (Sort.heapSort ltB d0 a b = Sort.heapPop ltB a hi (Sort.heapBuild ltB hi a ((hi - 1) / 2 + 1) d0)) := by subst hhi; rfl
  have HI1 : (b : Int) ≤ (a : Int) + (hi : Int) := by omega
  have HI2 : (a : Int) + (hi : Int) ≤ (b : Int) := by omega
  have HS := Lib.hid h
  have HZ := Lib.hid hn
  clear h hn hhi
  go_enter Tryz.func175, Tryz.ntmps175
  go_wp2_with fail
  go_loopw [9] (fun q wr => ∃ (k : Nat) (d : Array UInt8), k ≤ (hi - 1) / 2 + 1 ∧ q = .int .i64 ((k : Int) - 1) ∧ Hid (SB g tl d wr) ∧ Hid (On g w wr) ∧ Hid (d.size = n) ∧ Hid (Sort.heapBuild ltB hi a ((hi - 1) / 2 + 1) d0 = Sort.heapBuild ltB hi a k d)) (fun q _ => (intOf q + 1).toNat)
  case atStart => exact ⟨(hi - 1) / 2 + 1, d0, Nat.le_refl _, by congr 1; omega, HS, On.refl _ _, HZ, rfl⟩
  case round =>
    clear HS HZ
    obtain ⟨k, d, hk, rfl, HS, HO, HZ, HE⟩ := hrel
    rcases k with _ | k
    · have HE1 : Hid (Sort.heapBuild ltB hi a ((hi - 1) / 2 + 1) d0 = d) := HE.out
      clear HE
      go_wp2_with fail
      go_loopw [10] (fun q wq => ∃ (m : Nat) (c : Array UInt8), m ≤ hi ∧ q = .int .i64 ((m : Int) - 1) ∧ Hid (SB g tl c wq) ∧ Hid (On g w wq) ∧ Hid (c.size = n) ∧ Hid (Sort.heapPop ltB a hi d = Sort.heapPop ltB a m c)) (fun q _ => (intOf q + 1).toNat)
      case atStart => exact ⟨hi, d, Nat.le_refl _, by congr 1; omega, HS, HO, HZ, rfl⟩
      case round =>
        clear HS HO HZ
        obtain ⟨m, c, hm, rfl, HS, HO, HZ, HF⟩ := hrel
        rcases m with _ | m
        · have HF1 : Hid (Sort.heapPop ltB a hi d = c) := HF.out
          clear HF
          go_wp2_with fail
          go_end0
          exact ⟨rfl, by rw [HT.out, HE1.out, HF1.out]; exact HS.out, HO.out⟩
        · have HF1 := Lib.hid (HF.out.trans (pop_go a m c))
          have y1 := HS.out.cell (i := a) (by rw [HZ.out]; omega)
          have y2 := HS.out.cell (i := a + m) (by rw [HZ.out]; omega)
          have y3 := (HS.out.set (i := a) (by rw [HZ.out]; omega) c[a + m]!).cell (i := a + m) (by simp [HZ.out]; omega)
          have z1 := HS.out.frozen a (by rw [HZ.out]; omega)
          have z2 := HS.out.frozen (a + m) (by rw [HZ.out]; omega)
          have e2 : (a : Int) < (n : Int) := by omega
          have k1 : (0 : Int) ≤ (a : Int) + (m : Int) := by omega
          have k2 : (a : Int) + (m : Int) < (n : Int) := by omega
          have k3 : IntKind.i64.wrap ((a : Int) + (m : Int)) = (a : Int) + (m : Int) := IntWalk.i64_in _ (by omega)
          have k4 : ((a : Int) + (m : Int)).toNat = a + m := by omega
          have HSW := Lib.hid (HS.out.swap (i := a) (j := a + m) (by rw [HZ.out]; omega) (by rw [HZ.out]; omega))
          have HZ1 : Hid ((Sort.swp c a (a + m)).size = n) := (swp_sz _ _ _).trans HZ.out
          have HOW := Lib.hid (HO.out.swap a (a + m) (.int .u8 (c[a + m]!.toNat : Int)) (.int .u8 (c[a]!.toNat : Int)))
          generalize Sort.swp c a (a + m) = c' at HSW HZ1 HF1
          clear HF HS HO HZ
          generalize (c.setIfInBounds a c[a + m]!)[a + m]! = v3 at y3
          generalize c[a]! = v1 at y1 HSW HOW
          generalize c[a + m]! = v2 at y2 HSW HOW y3
          have HC := Lib.hid (fun (W : World) (hs : SB g tl c' W) => sift8i g tl c' n cap 0 m a 0 (m : Int) a rfl rfl rfl W hs HZ1.out hc (by omega) hN (by omega))
          have HZ2 : Hid ((Sort.siftDown ltB m a 0 c').size = n) := (sift_sz _ _ _ _).trans HZ1.out
          generalize Sort.siftDown ltB m a 0 c' = c2 at HC HZ2 HF1
          go_wp2_with fail
          go_region
          go_wp2_with fail
          refine (HC.out _ (by exact HSW.out)).mono ?_
          rintro e w3 ⟨rfl, hs3, ho3⟩
          have HS3 := Lib.hid hs3
          have HO3 := Lib.hid ((HOW.out.drewN 1).trans ho3)
          clear hs3 ho3 HC HSW HOW
          go_wp2_with fail
          go_roundw
          case rel => ((repeat apply Exists.intro); exact ⟨⟨m, c2, by omega, by go_num, HS3, HO3, HZ2, HF1⟩, rfl⟩)
          case measure => simp [intOf]
    · have HE1 := Lib.hid (HE.out.trans (build_go hi a k d))
      have HC := Lib.hid (sift8i g tl d n cap k hi a (k : Int) ((b : Int) - (a : Int)) a rfl (by omega) rfl wr HS.out HZ.out hc (by omega) hN (by omega))
      have HZ1 : Hid ((Sort.siftDown ltB hi a k d).size = n) := (sift_sz _ _ _ _).trans HZ.out
      clear HE
      generalize Sort.siftDown ltB hi a k d = d' at HC HZ1 HE1
      go_wp2_with fail
      with_reducible refine HC.out.mono ?_
      rintro e w1 ⟨rfl, hs1, ho1⟩
      have HS1 := Lib.hid hs1
      have HO1 := Lib.hid (HO.out.trans ho1)
      clear hs1 ho1 HC HS HO HZ
      go_wp2_with fail
      go_roundw
      case rel => exact ⟨k, d', by omega, by go_num, HS1, HO1, HZ1, HE1⟩
      case measure => simp [intOf]

end Go.Proofs.YtgolhfmmlanmlaaGreatDoor

/- Walks: the library's sort at bytes: turned about; in order already; the pivot. -/
namespace Go.Proofs.YtgolhfmmlanmlaaGreatDoor
open Go.RowKit Pth

theorem rev_go {i j : Nat} {d : Array UInt8} (h : i < j) : Sort.reverseLoop i j d = Sort.reverseLoop (i + 1) (j - 1) (Sort.swp d i j) := by
  rw [Sort.reverseLoop, if_pos h]
theorem rev_stop {i j : Nat} {d : Array UInt8} (h : ¬ i < j) : Sort.reverseLoop i j d = d := by
  rw [Sort.reverseLoop, if_neg h]

set_option maxRecDepth 20000 in
set_option maxHeartbeats 4000000 in
theorem reverse8 (g : Nat) (tl : List Value) (d0 : Array UInt8) (n cap a b : Nat) (w : World) (h : SB g tl d0 w) (hn : d0.size = n) (_hc : n ≤ cap) (hb : b ≤ n) (hN : n ≤ 1000) (hpos : a < b) :
    Calls Tryz.prog 178 #[.slice (some ⟨g, 0, none⟩) n cap, .int .i64 a, .int .i64 b] w (SPost g tl (Sort.reverseRange d0 a b) w) := by
  have HT : Hid (Sort.reverseRange d0 a b = Sort.reverseLoop a (b - 1) d0) := rfl
  have HS := Lib.hid h
  have HZ := Lib.hid hn
  clear h hn
  go_enter Tryz.func178, Tryz.ntmps178
  go_wp2_with fail
  go_loopw [6, 7] (fun p q wr => ∃ (i j : Nat) (d : Array UInt8), i ≤ 1000 ∧ j < b ∧ p = .int .i64 i ∧ q = .int .i64 j ∧ Hid (SB g tl d wr) ∧ Hid (On g w wr) ∧ Hid (d.size = n) ∧ Hid (Sort.reverseLoop a (b - 1) d0 = Sort.reverseLoop i j d)) (fun p _ _ => 1000 - (intOf p).toNat)
  case atStart => exact ⟨a, b - 1, d0, by omega, by omega, rfl, by congr 1; omega, HS, On.refl _ _, HZ, rfl⟩
  case round =>
    clear HS HZ
    obtain ⟨i, j, d, hi, hj, rfl, rfl, HS, HO, HZ, HE⟩ := hrel
    by_cases hlt : i < j
    · have HE1 := Lib.hid (HE.out.trans (rev_go hlt))
      have y1 := HS.out.cell (i := i) (by rw [HZ.out]; omega)
      have y2 := HS.out.cell (i := j) (by rw [HZ.out]; omega)
      have z1 := HS.out.frozen i (by rw [HZ.out]; omega)
      have z2 := HS.out.frozen j (by rw [HZ.out]; omega)
      have e1 : (i : Int) < (n : Int) := by omega
      have e2 : (j : Int) < (n : Int) := by omega
      have HSW := Lib.hid (HS.out.swap (i := i) (j := j) (by rw [HZ.out]; omega) (by rw [HZ.out]; omega))
      have HZ1 : Hid ((Sort.swp d i j).size = n) := (swp_sz _ _ _).trans HZ.out
      generalize Sort.swp d i j = d' at HSW HZ1 HE1
      clear HE HS HZ
      generalize d[i]! = v1 at y1 HSW
      generalize d[j]! = v2 at y2 HSW
      go_wp2_with fail
      go_region
      go_wp2_with fail
      go_roundw
      case rel => exact ⟨i + 1, j - 1, d', by omega, by omega, by go_num, by congr 1; omega, HSW.out, (HO.out.drewN 1).swap _ _ _ _, HZ1, HE1⟩
      case measure => simp [intOf]; omega
    · have HE1 := Lib.hid (HE.out.trans (rev_stop hlt))
      clear HE
      go_wp2_with fail
      go_end0
      exact ⟨rfl, by rw [HT.out, HE1.out]; exact HS.out, HO.out⟩

/-- In order from a on, up to i. -/
def Ord8 (d : Array UInt8) (a i : Nat) : Prop := ∀ k, a < k → k < i → ltB d[k]! d[k - 1]! = false
theorem ord_sorted {d : Array UInt8} {a b : Nat} (h : Ord8 d a b) : Sort.SortedIn ltB a b d := by
  intro i j hi hij hj
  induction j with
  | zero => omega
  | succ j ih =>
    have h1 := h (j + 1) (by omega) hj
    rw [Nat.add_sub_cancel] at h1
    by_cases e : i = j
    · subst e; exact h1
    · have h2 := ih (by omega) (by omega)
      exact swo8.ntrans _ _ _ h1 h2

/-- Whether it is in order already; the block is as it was. -/
def PartPost (g : Nat) (tl : List Value) (d : Array UInt8) (a b : Nat) (w : World) (e : Ending) (w' : World) : Prop :=
  ∃ r : Bool, e = .returned (.bool r) ∧ (r = true → Sort.SortedIn ltB a b d) ∧ SB g tl d w' ∧ On g w w'

set_option maxRecDepth 20000 in
set_option maxHeartbeats 4000000 in
theorem partial8 (g : Nat) (tl : List Value) (d : Array UInt8) (n cap a b : Nat) (w : World) (h : SB g tl d w) (hn : d.size = n) (_hc : n ≤ cap) (hb : b ≤ n) (hN : n ≤ 1000) (hpos : a < b) (hlen : b - a < 50) :
    Calls Tryz.prog 179 #[.slice (some ⟨g, 0, none⟩) n cap, .int .i64 a, .int .i64 b] w (PartPost g tl d a b w) := by
  have HS := Lib.hid h
  have HZ := Lib.hid hn
  have hl50 : decide ((b : Int) - (a : Int) < 50) = true := decide_eq_true (by omega)
  clear h hn
  go_enter Tryz.func179, Tryz.ntmps179
  go_wp2_with fail
  go_loopw [7, 8] (fun p q wr => p = .int .i64 ((a : Int) + 1) ∧ q = .int .i64 0 ∧ w = wr) (fun _ _ _ => 0)
  case atStart => exact ⟨rfl, rfl, rfl⟩
  case round =>
    obtain ⟨rfl, rfl, rfl⟩ := hrel
    go_wp2_with fail
    go_loopw [7] (fun p wr => ∃ i : Nat, a + 1 ≤ i ∧ i ≤ b ∧ p = .int .i64 i ∧ Hid (SB g tl d wr) ∧ Hid (On g w wr) ∧ Hid (Ord8 d a i)) (fun p _ => b - (intOf p).toNat)
    case atStart => exact ⟨a + 1, Nat.le_refl _, by omega, by go_num, HS, On.refl _ _, fun k h1 h2 => by omega⟩
    case round =>
      clear HS
      obtain ⟨i, hi0, hi1, rfl, HS, HO, HE⟩ := hrel
      by_cases hlt : i < b
      · obtain ⟨m, rfl⟩ : ∃ m, i = m + 1 := ⟨i - 1, by omega⟩
        have hg1 : decide ((m : Int) + 1 < (b : Int)) = true := decide_eq_true (by omega)
        have c1 := HS.out.cell (i := m + 1) (by rw [HZ.out]; omega)
        have c0 := HS.out.cell (i := m) (by rw [HZ.out]; omega)
        obtain ⟨lb, hlb⟩ : ∃ lb, ltB d[m + 1]! d[m]! = lb := ⟨_, rfl⟩
        have HL := Lib.hid (fun W => less_q hlb W)
        have hx1 : (m : Int) + 1 < (n : Int) := by omega
        have hx0 : (m : Int) < (n : Int) := by omega
        have hx2 : (0 : Int) ≤ (m : Int) + 1 := by omega
        have hn1 : ((m : Int) + 1).toNat = m + 1 := by omega
        have hw1 : IntKind.i64.wrap (m : Int) = (m : Int) := IntWalk.i64_in _ (by omega)
        rcases lb with _ | _
        · have HE1 : Hid (Ord8 d a (m + 1 + 1)) := by
            intro k h1 h2
            by_cases e : k = m + 1
            · subst e; exact hlb
            · exact HE.out k h1 (by omega)
          clear HE hlb
          generalize d[m + 1]! = x at c1 HL
          generalize d[m]! = y at c0 HL
          go_wp2_with fail
          go_quiet ((go_at_call 180; exact Calls.quiet_of_same (HL.out _)))
          go_wp2_with fail
          go_roundw
          case rel => exact ⟨m + 1 + 1, by omega, by omega, by go_num, HS.out.drewN _, HO.out.drewN _, HE1⟩
          case measure => simp [intOf]; omega
        · have hne : ((m : Int) + 1 == (b : Int)) = false := by simp; omega
          clear HE hlb
          generalize d[m + 1]! = x at c1 HL
          generalize d[m]! = y at c0 HL
          go_wp2_with fail
          go_quiet ((go_at_call 180; exact Calls.quiet_of_same (HL.out _)))
          go_wp2_with fail
          go_ret
          exact ⟨false, rfl, (fun h => by cases h), HS.out.drewN _, HO.out.drewN _⟩
      · have HSO := Lib.hid (ord_sorted (show Ord8 d a b by have := HE.out; rwa [show i = b by omega] at this))
        have hg1 : decide ((i : Int) < (b : Int)) = false := decide_eq_false (by omega)
        have heq : ((i : Int) == (b : Int)) = true := by simp; omega
        clear HE
        go_wp2_with fail
        go_quiet (fail)
        go_wp2_with fail
        go_ret
        exact ⟨true, rfl, fun _ => HSO.out, HS.out.drewN _, HO.out.drewN _⟩

end Go.Proofs.YtgolhfmmlanmlaaGreatDoor

/- Walks: the library's sort at bytes: the pivot. -/
namespace Go.Proofs.YtgolhfmmlanmlaaGreatDoor
open Go.RowKit Pth

/-- A counter in a block of its own. -/
def CntB (s v : Nat) (w : World) : Prop := w.heap[s]? = some (.cells #[.int .i64 (v : Int)] 3 (0, 0))
theorem CntB.cell {s v : Nat} {w : World} (h : CntB s v w) : w.cell? ⟨s, 0, none⟩ = some (.int .i64 (v : Int)) := by unfold CntB at h; rw [Lib.cell_of_heap h]; rfl
theorem CntB.frozen {s v : Nat} {w : World} (h : CntB s v w) : w.frozen? ⟨s, 0, none⟩ = false := Lib.frozen_of_heap h 0
theorem CntB.set {s v : Nat} {w : World} (h : CntB s v w) (u : Nat) : CntB s u (w.setCell ⟨s, 0, none⟩ (.int .i64 (u : Int))) := by
  unfold CntB at h ⊢
  rw [block_set8 h]; rfl
theorem SB.on {g s : Nat} {tl : List Value} {d : Array UInt8} {w w' : World} (h : SB g tl d w) (ho : On s w w') (hne : g ≠ s) : SB g tl d w' := (ho.block g (lt_of_block h) (by simpa using hne)).trans h

/-- Two places in order; the counter goes up by one at most. -/
def Ord2Post (g s : Nat) (tl : List Value) (d : Array UInt8) (a b v : Nat) (w : World) (e : Ending) (w' : World) : Prop :=
  ∃ x y v' : Nat, ((x = a ∧ y = b) ∨ (x = b ∧ y = a)) ∧ v' ≤ v + 1 ∧ e = .returned (.tuple #[.int .i64 x, .int .i64 y]) ∧ CntB s v' w' ∧ SB g tl d w' ∧ On s w w'

set_option maxRecDepth 20000 in
set_option maxHeartbeats 2000000 in
theorem order2_8 (g s : Nat) (tl : List Value) (d : Array UInt8) (n cap a b v : Nat) (w : World) (h : SB g tl d w) (hk : CntB s v w) (hgs : g ≠ s) (hn : d.size = n) (_hc : n ≤ cap) (ha : a < n) (hb : b < n) (_hN : n ≤ 1000) (hv : v ≤ 1000) :
    Calls Tryz.prog 195 #[.slice (some ⟨g, 0, none⟩) n cap, .int .i64 a, .int .i64 b, .pointer (some ⟨s, 0, none⟩)] w (Ord2Post g s tl d a b v w) := by
  have HS := Lib.hid h
  have HK := Lib.hid hk
  have c1 := HS.out.cell (i := b) (by omega)
  have c0 := HS.out.cell (i := a) (by omega)
  have ck := HK.out.cell
  have cf := HK.out.frozen
  obtain ⟨lb, hlb⟩ : ∃ lb, ltB d[b]! d[a]! = lb := ⟨_, rfl⟩
  have HL := Lib.hid (fun W => less_q hlb W)
  have hx1 : (b : Int) < (n : Int) := by omega
  have hx0 : (a : Int) < (n : Int) := by omega
  clear h hk hn hlb
  generalize d[b]! = x at c1 HL
  generalize d[a]! = y at c0 HL
  rcases lb with _ | _
  · go_enter Tryz.func195, Tryz.ntmps195
    go_wp2_with fail
    go_quiet ((go_at_call 180; exact Calls.quiet_of_same (HL.out _)))
    go_wp2_with fail
    go_ret2
    exact ⟨a, b, v, .inl ⟨rfl, rfl⟩, by omega, rfl, HK.out, HS.out.drewN _, (On.refl _ _).drewN _⟩
  · have HK1 := Lib.hid (HK.out.set (v + 1))
    go_enter Tryz.func195, Tryz.ntmps195
    go_wp2_with fail
    go_quiet ((go_at_call 180; exact Calls.quiet_of_same (HL.out _)))
    go_wp2_with fail
    go_ret2
    exact ⟨b, a, v + 1, .inr ⟨rfl, rfl⟩, by omega, rfl, HK1.out, HS.out.on (((On.refl s w).drewN _).set 0 _) hgs, ((On.refl s w).drewN _).set 0 _⟩

/-- One of three places. -/
def MedPost (g s : Nat) (tl : List Value) (d : Array UInt8) (a b c v : Nat) (w : World) (e : Ending) (w' : World) : Prop :=
  ∃ x v' : Nat, (x = a ∨ x = b ∨ x = c) ∧ v' ≤ v + 3 ∧ e = .returned (.int .i64 x) ∧ CntB s v' w' ∧ SB g tl d w' ∧ On s w w'

set_option maxRecDepth 20000 in
set_option maxHeartbeats 2000000 in
theorem median8 (g s : Nat) (tl : List Value) (d : Array UInt8) (n cap a b c v : Nat) (w : World) (h : SB g tl d w) (hk : CntB s v w) (hgs : g ≠ s) (hn : d.size = n) (hc : n ≤ cap) (ha : a < n) (hb : b < n) (hcc : c < n) (hN : n ≤ 1000) (hv : v ≤ 900) :
    Calls Tryz.prog 189 #[.slice (some ⟨g, 0, none⟩) n cap, .int .i64 a, .int .i64 b, .int .i64 c, .pointer (some ⟨s, 0, none⟩)] w (MedPost g s tl d a b c v w) := by
  have HN := Lib.hid hn
  have HC1 := Lib.hid (order2_8 g s tl d n cap a b v w h hk hgs hn hc ha hb hN (by omega))
  clear h hk hn
  go_enter Tryz.func189, Tryz.ntmps189
  go_wp2_with fail
  refine HC1.out.mono ?_
  rintro e w1 ⟨x1, y1, v1, hxy1, hv1, rfl, hk1, hs1, ho1⟩
  have HC2 := Lib.hid (order2_8 g s tl d n cap y1 c v1 w1 hs1 hk1 hgs HN.out hc (by omega) hcc hN (by omega))
  have HO1 := Lib.hid ho1
  clear hk1 hs1 ho1 HC1
  go_wp2_with fail
  refine HC2.out.mono ?_
  rintro e w2 ⟨x2, y2, v2, hxy2, hv2, rfl, hk2, hs2, ho2⟩
  have HC3 := Lib.hid (order2_8 g s tl d n cap x1 x2 v2 w2 hs2 hk2 hgs HN.out hc (by omega) (by omega) hN (by omega))
  have HO2 := Lib.hid (HO1.out.trans ho2)
  clear hk2 hs2 ho2 HC2 HO1
  go_wp2_with fail
  refine HC3.out.mono ?_
  rintro e w3 ⟨x3, y3, v3, hxy3, hv3, rfl, hk3, hs3, ho3⟩
  have HK3 := Lib.hid hk3
  have HS3 := Lib.hid hs3
  have HO3 := Lib.hid (HO2.out.trans ho3)
  clear hk3 hs3 ho3 HC3 HO2
  go_wp2_with fail
  go_ret
  exact ⟨y3, v3, by omega, by omega, rfl, HK3.out, HS3.out, HO3.out⟩

/-- A place between a and b, and a hint; the block is as it was. -/
def PivPost (g : Nat) (tl : List Value) (d : Array UInt8) (a b : Nat) (w : World) (e : Ending) (w' : World) : Prop :=
  ∃ p q : Nat, a ≤ p ∧ p < b ∧ q ≤ 2 ∧ e = .returned (.tuple #[.int .i64 p, .int .i64 q]) ∧ SB g tl d w' ∧ On g w w'
theorem on_new {g s : Nat} {w w1 w2 : World} (h : On g w w1) (k : On s w1 w2) (hs : w.heap.size ≤ s) : On g w w2 :=
  ⟨k.os.trans h.os, k.tape.trans h.tape, k.output.trans h.output, Nat.le_trans h.size k.size, fun i hi hn => (k.block i (Nat.lt_of_lt_of_le hi h.size) (by simp; omega)).trans (h.block i hi hn)⟩

set_option maxRecDepth 20000 in
set_option maxHeartbeats 2000000 in
theorem pivot8 (g : Nat) (tl : List Value) (d : Array UInt8) (n cap a b : Nat) (w : World) (h : SB g tl d w) (hn : d.size = n) (hc : n ≤ cap) (hb : b ≤ n) (hN : n ≤ 1000) (hpos : a + 8 ≤ b) (hlen : b - a < 50) :
    Calls Tryz.prog 177 #[.slice (some ⟨g, 0, none⟩) n cap, .int .i64 a, .int .i64 b] w (PivPost g tl d a b w) := by
  have hgl := lt_of_block h
  obtain ⟨l, hl⟩ : ∃ l, l = b - a := ⟨_, rfl⟩
  have hbl : (b : Int) - (a : Int) ≤ (l : Int) := by omega
  have hbl2 : (l : Int) ≤ (b : Int) - (a : Int) := by omega
  have hd8 : decide ((b : Int) - (a : Int) ≥ 8) = true := decide_eq_true (by omega)
  have hd50 : decide ((b : Int) - (a : Int) ≥ 50) = false := decide_eq_false (by omega)
  obtain ⟨wa, hwa⟩ : ∃ wa, wa = w.alloc (.cells #[.int .i64 0] 3) := ⟨_, rfl⟩
  have HSA : Hid (SB g tl d wa) := by rw [hwa]; exact h.alloc _
  have HKA : Hid (CntB w.heap.size 0 wa) := by rw [hwa]; exact heap_alloc_new w _
  have HOA : Hid (On g w wa) := by rw [hwa]; exact (On.refl _ _).alloc _
  have HC := Lib.hid (median8 g w.heap.size tl d n cap (a + l / 4 * 1) (a + l / 4 * 2) (a + l / 4 * 3) 0 wa HSA.out HKA.out (by omega) hn hc (by omega) (by omega) (by omega) hN (by omega))
  have i1 : (((a + l / 4 * 1 : Nat)) : Int) = (a : Int) + ((b : Int) - (a : Int)) / 4 := by omega
  have i2 : (((a + l / 4 * 2 : Nat)) : Int) = (a : Int) + ((b : Int) - (a : Int)) / 4 * 2 := by omega
  have i3 : (((a + l / 4 * 3 : Nat)) : Int) = (a : Int) + ((b : Int) - (a : Int)) / 4 * 3 := by omega
  rw [i1, i2, i3] at HC
  have HWA := Lib.hid hwa
  clear h hn hl hwa i1 i2 i3
  go_enter Tryz.func177, Tryz.ntmps177
  go_wp2_with fail
  rw [← HWA.out]
  with_reducible refine HC.out.mono ?_
  rintro e w1 ⟨x, v1, hx, hv1, rfl, hk1, hs1, ho1⟩
  have ck := hk1.cell
  have HS1 := Lib.hid hs1
  have HO1 := Lib.hid (on_new HOA.out ho1 (Nat.le_refl _))
  clear hk1 hs1 ho1 HC HWA HSA HKA HOA
  by_cases h0 : v1 = 0
  · subst h0
    go_wp2_with fail
    go_ret2
    exact ⟨x, 1, by omega, by omega, by omega, rfl, HS1.out, HO1.out⟩
  · have q0 : ((v1 : Int) == 0) = false := by simp; omega
    have q1 : ((v1 : Int) == 12) = false := by simp; omega
    go_wp2_with fail
    go_ret2
    exact ⟨x, 0, by omega, by omega, by omega, rfl, HS1.out, HO1.out⟩

end Go.Proofs.YtgolhfmmlanmlaaGreatDoor

/- Walks: the library's sort at bytes: powers of two, random numbers. -/
namespace Go.Proofs.YtgolhfmmlanmlaaGreatDoor
open Go.RowKit Pth

theorem pow_small : ∀ l : Fin 50, IntKind.u64.wrap (2 ^ min (Lib.bitLen l.val) 64) = ((2 ^ Lib.bitLen l.val : Nat) : Int) ∧ 2 ^ Lib.bitLen l.val ≤ 2 * l.val + 1 ∧ 1 ≤ 2 ^ Lib.bitLen l.val := by decide
theorem pow_facts {l : Nat} (h : l < 50) : IntKind.u64.wrap (2 ^ min (Lib.bitLen l) 64) = ((2 ^ Lib.bitLen l : Nat) : Int) ∧ 2 ^ Lib.bitLen l ≤ 2 * l + 1 ∧ 1 ≤ 2 ^ Lib.bitLen l := pow_small ⟨l, h⟩
theorem pow_even : ∀ l : Fin 50, 1 ≤ l.val → 2 ^ Lib.bitLen l.val ≤ 2 * l.val := by decide
/-- A power of two that is no more than twice as much. -/
def PowPost (l : Nat) (w : World) (e : Ending) (w' : World) : Prop := ∃ m : Nat, 1 ≤ m ∧ m ≤ 2 * l ∧ e = .returned (.int .u64 (m : Int)) ∧ w = w'

set_option maxHeartbeats 1000000 in
theorem pow2_8 (l : Nat) (L : Int) (hL : L = l) (w : World) (h1 : 8 ≤ l) (h2 : l < 50) : Calls Tryz.prog 160 #[.int .i64 L] w (PowPost l w) := by
  subst hL
  have HC := Lib.hid (Tryz.bits_Len (l : Int) w (by omega) (by omega))
  have HP := Lib.hid (pow_facts h2)
  have HE := Lib.hid (pow_even ⟨l, h2⟩ (by show 1 ≤ l; omega))
  go_enter Tryz.func160, Tryz.ntmps160
  go_wp2_with fail
  refine HC.out.mono ?_
  rintro e w' ⟨rfl, rfl⟩
  go_wp2_with fail
  go_ret
  exact ⟨2 ^ Lib.bitLen l, HP.out.2.2, HE.out, by rw [← HP.out.1] <;> rfl, rfl⟩

/-- The random number's block. -/
def Rnd (s : Nat) (w : World) : Prop := ∃ z : Int, w.heap[s]? = some (.cells #[.int .u64 z] 196 (0, 0))
def RndPost (s : Nat) (w : World) (e : Ending) (w' : World) : Prop := ∃ z : Int, e = .returned (.int .u64 z) ∧ Rnd s w' ∧ On s w w'

set_option maxRecDepth 20000 in
set_option maxHeartbeats 1000000 in
theorem next8 (s : Nat) (w : World) (h : Rnd s w) : Calls Tryz.prog 161 #[.pointer (some ⟨s, 0, none⟩)] w (RndPost s w) := by
  obtain ⟨z, hz⟩ := h
  have HZ := Lib.hid hz
  have c0 : w.cell? ⟨s, 0, none⟩ = some (.int .u64 z) := by rw [Lib.cell_of_heap hz]; rfl
  have f0 : w.frozen? ⟨s, 0, none⟩ = false := Lib.frozen_of_heap hz 0
  clear hz
  go_enter Tryz.func161, Tryz.ntmps161
  go_wp2_with fail
  go_region
  go_wp2_with fail
  generalize bits BinOp.xor IntKind.u64 z (IntKind.u64.wrap (z * 8192)) = z1
  have HZ1 := Lib.hid (block_set8 (o := 0) (u := .int .u64 z1) HZ.out)
  have HO1 := Lib.hid (((On.refl s w).set 0 (.int .u64 z1)).drewN 1)
  obtain ⟨w1, hw1⟩ : ∃ w1, w1 = (w.setCell ⟨s, 0, none⟩ (.int .u64 z1)).drew := ⟨_, rfl⟩
  rw [← hw1]
  have HZ2 : Hid (w1.heap[s]? = some (.cells #[.int .u64 z1] 196 (0, 0))) := by rw [hw1]; exact HZ1.out
  have HO2 : Hid (On s w w1) := by rw [hw1]; exact HO1.out
  have c1 : w1.cell? ⟨s, 0, none⟩ = some (.int .u64 z1) := by rw [Lib.cell_of_heap HZ2.out]; rfl
  have f1 : w1.frozen? ⟨s, 0, none⟩ = false := Lib.frozen_of_heap HZ2.out 0
  clear hw1 HZ1 HO1 HZ c0 f0
  go_region
  go_wp2_with fail
  generalize bits BinOp.xor IntKind.u64 z1 (z1 / 128) = z2
  have HZ3 := Lib.hid (block_set8 (o := 0) (u := .int .u64 z2) HZ2.out)
  have HO3 := Lib.hid ((HO2.out.set 0 (.int .u64 z2)).drewN 1)
  obtain ⟨w2, hw2⟩ : ∃ w2, w2 = (w1.setCell ⟨s, 0, none⟩ (.int .u64 z2)).drew := ⟨_, rfl⟩
  rw [← hw2]
  have HZ4 : Hid (w2.heap[s]? = some (.cells #[.int .u64 z2] 196 (0, 0))) := by rw [hw2]; exact HZ3.out
  have HO4 : Hid (On s w w2) := by rw [hw2]; exact HO3.out
  have c2 : w2.cell? ⟨s, 0, none⟩ = some (.int .u64 z2) := by rw [Lib.cell_of_heap HZ4.out]; rfl
  have f2 : w2.frozen? ⟨s, 0, none⟩ = false := Lib.frozen_of_heap HZ4.out 0
  clear hw2 HZ3 HO3 HZ2 HO2 c1 f1
  go_region
  go_wp2_with fail
  go_ret
  exact ⟨_, rfl, ⟨_, block_set8 HZ4.out⟩, (HO4.out.set 0 _).drewN 1⟩

end Go.Proofs.YtgolhfmmlanmlaaGreatDoor

/- Walks: the library's sort at bytes: patterns broken. -/
namespace Go.Proofs.YtgolhfmmlanmlaaGreatDoor
open Go.RowKit Pth

theorem and_low (z : Int) (m : Nat) (hm : m ≤ 1000) : 0 ≤ wrap64 (bits .and .u64 z (m : Int)) ∧ wrap64 (bits .and .u64 z (m : Int)) ≤ (m : Int) := by
  have h : bits .and .u64 z (m : Int) = IntKind.u64.wrap ((BitVec.ofInt 64 z &&& BitVec.ofInt 64 (m : Int)).toNat : Int) := rfl
  have h2 : (BitVec.ofInt 64 z &&& BitVec.ofInt 64 (m : Int)).toNat ≤ m := by
    rw [BitVec.toNat_and]
    refine Nat.le_trans Nat.and_le_right ?_
    rw [show BitVec.ofInt 64 (m : Int) = BitVec.ofNat 64 m by simp, BitVec.toNat_ofNat]
    exact Nat.mod_le _ _
  rw [h]
  generalize (BitVec.ofInt 64 z &&& BitVec.ofInt 64 (m : Int)).toNat = n at h2
  have e1 : IntKind.u64.wrap (n : Int) = n := by simp [IntKind.wrap, IntKind.bits, IntKind.signed]; omega
  rw [e1]
  unfold wrap64
  omega
theorem and_lowI (z m : Int) (h0 : 0 ≤ m) (h1 : m ≤ 1000) : 0 ≤ wrap64 (bits .and .u64 z m) ∧ wrap64 (bits .and .u64 z m) ≤ m := by
  obtain ⟨k, rfl⟩ : ∃ k : Nat, m = k := ⟨m.toNat, by omega⟩
  exact and_low z k (by omega)
/-- Changed about between a and b. -/
def BrkPost (g : Nat) (tl : List Value) (d : Array UInt8) (a b : Nat) (w : World) (e : Ending) (w' : World) : Prop :=
  ∃ d' : Array UInt8, e = .returned (.tuple #[]) ∧ Sort.PermIn a b d d' ∧ SB g tl d' w' ∧ On g w w'
theorem Rnd.on {g s : Nat} {w w' : World} (h : Rnd s w) (ho : On g w w') (hne : s ≠ g) : Rnd s w' := by
  obtain ⟨z, hz⟩ := h
  exact ⟨z, (ho.block s (lt_of_block hz) (by simpa using hne)).trans hz⟩
theorem on_mix {g s : Nat} {w w1 w2 : World} (h : On g w w1) (k : On s w1 w2) (hs : w.heap.size ≤ s) : On g w w2 := on_new h k hs

set_option maxRecDepth 20000 in
set_option maxHeartbeats 1000000 in
theorem break8 (g : Nat) (tl : List Value) (d0 : Array UInt8) (n cap a b : Nat) (w : World) (h : SB g tl d0 w) (hn : d0.size = n) (_hc : n ≤ cap) (hb : b ≤ n) (hN : n ≤ 1000) (hpos : a + 8 ≤ b) (hlen : b - a < 50) :
    Calls Tryz.prog 176 #[.slice (some ⟨g, 0, none⟩) n cap, .int .i64 a, .int .i64 b] w (BrkPost g tl d0 a b w) := by
  have hgl := lt_of_block h
  obtain ⟨l, hl⟩ : ∃ l, l = b - a := ⟨_, rfl⟩
  have hl8 : 8 ≤ l := by omega
  have hl50 : l < 50 := by omega
  have hd8 : decide ((b : Int) - (a : Int) ≥ 8) = true := decide_eq_true (by omega)
  obtain ⟨wa, hwa⟩ : ∃ wa, wa = w.alloc (.cells #[.int .u64 ((b : Int) - (a : Int))] 196) := ⟨_, rfl⟩
  have HSA : Hid (SB g tl d0 wa) := by rw [hwa]; exact h.alloc _
  have HRA : Hid (Rnd w.heap.size wa) := by rw [hwa]; exact ⟨_, heap_alloc_new w _⟩
  have HOA : Hid (On g w wa) := by rw [hwa]; exact (On.refl _ _).alloc _
  have HC := Lib.hid (pow2_8 l ((b : Int) - (a : Int)) (by omega) wa hl8 hl50)
  have HZ := Lib.hid hn
  have HWA := Lib.hid hwa
  obtain ⟨q, hq⟩ : ∃ q : Nat, ((b : Int) - (a : Int)) / 4 = (q : Int) := ⟨l / 4, by omega⟩
  have hq1 : 2 ≤ q := by omega
  have hq2 : a + q * 4 ≤ b := by omega
  have hq3 : b ≤ a + q * 4 + 3 := by omega
  have hq4 : q ≤ 12 := by omega
  have hM0 : 2 * l ≤ 98 := by omega
  have hML : l + a ≤ b := by omega
  clear h hn hl hwa
  go_enter Tryz.func176, Tryz.ntmps176
  go_wp2_with fail
  rw [← HWA.out]
  with_reducible refine HC.out.mono ?_
  rintro e w1 ⟨M, hM1, hM2, rfl, rfl⟩
  clear HC HWA
  go_wp2_with fail
  simp only [hq]
  go_loopw [9] (fun p wr => ∃ (i : Nat) (d : Array UInt8), a + q * 2 ≤ i + 1 ∧ i ≤ a + q * 2 + 2 ∧ p = .int .i64 (i : Int) ∧ Hid (SB g tl d wr) ∧ Hid (On g w wr) ∧ Hid (Rnd w.heap.size wr) ∧ Hid (d.size = n) ∧ Hid (Sort.PermIn a b d0 d)) (fun p _ => 2000 - (intOf p).toNat)
  case atStart => exact ⟨a + q * 2 - 1, d0, by omega, by omega, by congr 1; omega, HSA, HOA, HRA, HZ, Sort.permIn_refl _ _ _⟩
  case round =>
    clear HSA HOA HRA HZ
    obtain ⟨i, d, hk1, hk2, rfl, HS, HO, HR, HZ, HP⟩ := hrel
    by_cases h3 : i ≤ a + q * 2 + 1
    · have HC := Lib.hid (next8 w.heap.size wr HR.out)
      have hgd : decide ((i : Int) ≤ (a : Int) + (q : Int) * 2 + 1) = true := decide_eq_true (by omega)
      have hi1 : a ≤ i := by omega
      have hi2 : i < b := by omega
      go_wp2_with fail
      refine HC.out.mono ?_
      rintro e w2 ⟨z, rfl, hr2, ho2⟩
      have HR2 := Lib.hid hr2
      have HS2 := Lib.hid (HS.out.on ho2 (by omega))
      have HO2 := Lib.hid (on_mix HO.out ho2 (Nat.le_refl _))
      clear hr2 ho2 HC HR HS HO
      have HAL := Lib.hid (and_lowI z ((M : Int) - 1) (by omega) (by omega))
      go_upto_if 43 with (fail)
      generalize wrap64 (bits BinOp.and IntKind.u64 z ((M : Int) - 1)) = X at HAL ⊢
      obtain ⟨hal1, hal2⟩ := HAL.out
      obtain ⟨x, rfl⟩ : ∃ x : Nat, X = x := ⟨X.toNat, by omega⟩
      have hxM : x + 1 ≤ M := by omega
      clear HAL hal1 hal2
      by_cases hxl : a + x < b
      · have hg : decide ((x : Int) ≥ (b : Int) - (a : Int)) = false := decide_eq_false (by omega)
        have y1 := HS2.out.cell (i := i) (by rw [HZ.out]; omega)
        have y2 := HS2.out.cell (i := a + x) (by rw [HZ.out]; omega)
        have y3 := (HS2.out.set (i := i) (by rw [HZ.out]; omega) d[a + x]!).cell (i := a + x) (by simp [HZ.out]; omega)
        have z1 := HS2.out.frozen i (by rw [HZ.out]; omega)
        have z2 := HS2.out.frozen (a + x) (by rw [HZ.out]; omega)
        have e2 : (i : Int) < (n : Int) := by omega
        have k1 : (0 : Int) ≤ (a : Int) + (x : Int) := by omega
        have k2 : (a : Int) + (x : Int) < (n : Int) := by omega
        have k3 : IntKind.i64.wrap ((a : Int) + (x : Int)) = (a : Int) + (x : Int) := IntWalk.i64_in _ (by omega)
        have k4 : ((a : Int) + (x : Int)).toNat = a + x := by omega
        have HSW := Lib.hid (HS2.out.swap (i := i) (j := a + x) (by rw [HZ.out]; omega) (by rw [HZ.out]; omega))
        have HZ1 : Hid ((Sort.swp d i (a + x)).size = n) := (swp_sz _ _ _).trans HZ.out
        have HP1 := Lib.hid (Sort.permIn_trans _ _ _ _ _ HP.out (Sort.swp_permIn d a b i (a + x) (by omega) (by omega) (by omega) (by omega) (by rw [HZ.out]; omega)))
        generalize Sort.swp d i (a + x) = d' at HSW HZ1 HP1
        generalize (d.setIfInBounds i d[a + x]!)[a + x]! = v3 at y3
        generalize d[i]! = v1 at y1 HSW
        generalize d[a + x]! = v2 at y2 HSW y3
        clear HS2 HP
        go_wp2_with fail
        go_region
        go_wp2_with fail
        go_roundw
        case rel => first | exact ⟨i + 1, d', by omega, by omega, by go_num, HSW.out, (HO2.out.drewN 1).swap _ _ _ _, (HR2.out.on (((On.refl g w2).drewN 1).swap _ _ _ _) (by omega)), HZ1, HP1⟩ | ((repeat apply Exists.intro); exact ⟨⟨i + 1, d', by omega, by omega, by go_num, HSW.out, (HO2.out.drewN 1).swap _ _ _ _, (HR2.out.on (((On.refl g w2).drewN 1).swap _ _ _ _) (by omega)), HZ1, HP1⟩, rfl⟩)
        case measure => simp [intOf]; omega
      · have hg : decide ((x : Int) ≥ (b : Int) - (a : Int)) = true := decide_eq_true (by omega)
        obtain ⟨y, hy⟩ : ∃ y : Nat, (x : Int) - ((b : Int) - (a : Int)) = (y : Int) := ⟨((x : Int) - ((b : Int) - (a : Int))).toNat, by omega⟩
        have hyb : a + y < b := by omega
        have y1 := HS2.out.cell (i := i) (by rw [HZ.out]; omega)
        have y2 := HS2.out.cell (i := a + y) (by rw [HZ.out]; omega)
        have y3 := (HS2.out.set (i := i) (by rw [HZ.out]; omega) d[a + y]!).cell (i := a + y) (by simp [HZ.out]; omega)
        have z1 := HS2.out.frozen i (by rw [HZ.out]; omega)
        have z2 := HS2.out.frozen (a + y) (by rw [HZ.out]; omega)
        have e2 : (i : Int) < (n : Int) := by omega
        have k1 : (0 : Int) ≤ (a : Int) + (y : Int) := by omega
        have k2 : (a : Int) + (y : Int) < (n : Int) := by omega
        have k3 : IntKind.i64.wrap ((a : Int) + (y : Int)) = (a : Int) + (y : Int) := IntWalk.i64_in _ (by omega)
        have k4 : ((a : Int) + (y : Int)).toNat = a + y := by omega
        have HSW := Lib.hid (HS2.out.swap (i := i) (j := a + y) (by rw [HZ.out]; omega) (by rw [HZ.out]; omega))
        have HZ1 : Hid ((Sort.swp d i (a + y)).size = n) := (swp_sz _ _ _).trans HZ.out
        have HP1 := Lib.hid (Sort.permIn_trans _ _ _ _ _ HP.out (Sort.swp_permIn d a b i (a + y) (by omega) (by omega) (by omega) (by omega) (by rw [HZ.out]; omega)))
        generalize Sort.swp d i (a + y) = d' at HSW HZ1 HP1
        generalize (d.setIfInBounds i d[a + y]!)[a + y]! = v3 at y3
        generalize d[i]! = v1 at y1 HSW
        generalize d[a + y]! = v2 at y2 HSW y3
        clear HS2 HP
        go_wp2_with fail
        go_region
        go_wp2_with fail
        go_roundw
        case rel => first | exact ⟨i + 1, d', by omega, by omega, by go_num, HSW.out, (HO2.out.drewN 1).swap _ _ _ _, (HR2.out.on (((On.refl g w2).drewN 1).swap _ _ _ _) (by omega)), HZ1, HP1⟩ | ((repeat apply Exists.intro); exact ⟨⟨i + 1, d', by omega, by omega, by go_num, HSW.out, (HO2.out.drewN 1).swap _ _ _ _, (HR2.out.on (((On.refl g w2).drewN 1).swap _ _ _ _) (by omega)), HZ1, HP1⟩, rfl⟩)
        case measure => simp [intOf]; omega
    · have hgd : decide ((i : Int) ≤ (a : Int) + (q : Int) * 2 + 1) = false := decide_eq_false (by omega)
      go_wp2_with fail
      go_end0
      exact ⟨d, rfl, HP.out, HS.out, HO.out⟩

end Go.Proofs.YtgolhfmmlanmlaaGreatDoor
