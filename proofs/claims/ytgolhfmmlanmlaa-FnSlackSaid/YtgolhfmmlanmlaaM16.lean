/- Texts of one claim, joined in their order. -/
import Derived.Test.YtgolhfmmlanmlaaM11
import Derived.Test.YtgolhfmmlanmlaaM8
import Derived.Test.YtgolhfmmlanmlaaM15

/- Plain mathematics of slack: what a task that is late makes late; no program. -/
namespace Go.Proofs.Ytgolhfmmlanmlaa
open Go.RowKit Pth

theorem longL_times {ah : Int → List Int} {ts ts' : List Int} {n : Nat} {ord : List Int} (h : ∀ u ∈ ord, atI ts u = atI ts' u) : longL ah ts n ord = longL ah ts' n ord := by
  unfold longL
  generalize List.replicate n (0 : Int) = b
  induction ord generalizing b with
  | nil => rfl
  | cons x r ih =>
    rw [List.foldl_cons, List.foldl_cons, longStep, longStep, h x (by simp)]
    exact ih (fun u hu => h u (by simp [hu])) _
/-- One task's time more: what it comes to is more by as much. -/
theorem Along.late {n : Nat} {ah : Int → List Int} {ord ts : List Int} (h : Along n ah ord) (_ht : ts.length = n) {k : Nat} (hk : k < n) (d : Int) :
    atI (longL ah (ts.set k (atI ts (k : Int) + d)) n ord) (k : Int) = atI (longL ah ts n ord) (k : Int) + d := by
  obtain ⟨p, hp, he⟩ := List.getElem_of_mem ((h.all (k : Int)).2 (by omega))
  have hm : (k : Int) ∈ ord.take (p + 1) := by rw [List.take_succ_eq_append_getElem hp, he]; exact List.mem_append.2 (.inr (List.mem_singleton.2 rfl))
  have hno : (k : Int) ∉ ord.take p := by rw [← he]; exact nodup_at h.nodup hp
  have hsame : longL ah (ts.set k (atI ts (k : Int) + d)) n (ord.take p) = longL ah ts n (ord.take p) := longL_times (fun u hu => by
    have hur := (h.all u).1 (List.mem_of_mem_take hu)
    obtain ⟨un, rfl⟩ : ∃ un : Nat, u = un := ⟨u.toNat, by omega⟩
    rw [atI_set (by omega), if_neg (fun e => hno (by rw [← e]; exact hu))])
  rw [← h.whole (ts.set k (atI ts (k : Int) + d)) (by omega) hm, ← h.whole ts (by omega) hm, h.step _ hp (by omega), h.step _ hp (by omega), he, if_pos rfl, if_pos rfl, hsame, atI_set (by omega), if_pos rfl]
  omega
theorem greatF_mono {f g : Int → Int} {ps : List Int} (h : ∀ x ∈ ps, f x ≤ g x) : greatF f ps ≤ greatF g ps := by
  have hg := greatF_is g ps
  rcases (greatF_is f ps).at' with e | ⟨x, hx, e⟩
  · rw [e]; exact hg.low
  · rw [e]; exact Int.le_trans (h x hx) (hg.up x hx)
theorem late_times {n : Nat} {ts : List Int} (ht : TimesT n ts) {k : Nat} (hk : k < n) {d : Int} (h0 : 0 ≤ d) (h1 : atI ts (k : Int) + d ≤ 100) : TimesT n (ts.set k (atI ts (k : Int) + d)) := by
  refine ⟨by rw [List.length_set]; exact ht.len, fun x hx => ?_⟩
  rcases List.mem_or_eq_of_mem_set hx with hx | rfl
  · exact ht.each x hx
  · have := ht.at (y := (k : Int)) (by omega)
    omega
theorem atI_late {n : Nat} {ts : List Int} (ht : ts.length = n) {k : Nat} (hk : k < n) (d : Int) {y : Int} (hy : 0 ≤ y ∧ y < (n : Int)) : atI (ts.set k (atI ts (k : Int) + d)) y = if y = (k : Int) then atI ts (k : Int) + d else atI ts y := by
  obtain ⟨yn, rfl⟩ : ∃ yn : Nat, y = yn := ⟨y.toNat, by omega⟩
  rw [atI_set (by omega)]
  by_cases h : yn = k
  · rw [if_pos h, if_pos (by omega)]
  · rw [if_neg h, if_neg (by omega)]
theorem needs_range {ls : List (List Int)} {l : List Int} (hg : GoodP ls l) {x y : Int} (hy : 0 ≤ y ∧ y < (ls.length : Int)) (hx : x ∈ needsAt ls y) : 0 ≤ x ∧ x < (ls.length : Int) := by
  obtain ⟨k, hk, rfl⟩ := List.getElem_of_mem (hg.all.2 hy)
  exact hg.range _ (List.mem_of_mem_take (hg.needs_take hk hx))
/-- The end of all where one task is late. -/
theorem end_late {ls : List (List Int)} {l ts : List Int} (hg : GoodP ls l) (ht : TimesT ls.length ts) {k : Nat} (hk : k < ls.length) {d : Int} (h0 : 0 ≤ d) (h1 : atI ts (k : Int) + d ≤ 100) :
    endT (tailsL ls l (ts.set k (atI ts (k : Int) + d))) = if atI (endsL ls l ts) (k : Int) + atI (tailsL ls l ts) (k : Int) - atI ts (k : Int) + d > endT (tailsL ls l ts) then atI (endsL ls l ts) (k : Int) + atI (tailsL ls l ts) (k : Int) - atI ts (k : Int) + d else endT (tailsL ls l ts) := by
  have hkr : 0 ≤ (k : Int) ∧ (k : Int) < (ls.length : Int) := by omega
  have ht' := late_times ht hk h0 h1
  have HA := along_needs hg
  have HB := along_users hg
  have hEk : atI (endsL ls l (ts.set k (atI ts (k : Int) + d))) (k : Int) = atI (endsL ls l ts) (k : Int) + d := HA.late ht.len hk d
  have hTk : atI (tailsL ls l (ts.set k (atI ts (k : Int) + d))) (k : Int) = atI (tailsL ls l ts) (k : Int) + d := HB.late ht.len hk d
  have htk : atI (ts.set k (atI ts (k : Int) + d)) (k : Int) = atI ts (k : Int) + d := by rw [atI_late ht.len hk d hkr, if_pos rfl]
  -- no end is less than it was
  have hmono : ∀ p, p ≤ l.length → ∀ y ∈ l.take p, atI (endsL ls l ts) y ≤ atI (endsL ls l (ts.set k (atI ts (k : Int) + d))) y := by
    intro p
    induction p with
    | zero => intro _ y hy; simp at hy
    | succ p ih =>
      intro hp y hy
      have hp' : p < l.length := by omega
      rw [List.take_succ_eq_append_getElem hp', List.mem_append, List.mem_singleton] at hy
      rcases hy with hy | hy
      · exact ih (by omega) y hy
      · have hyr := (HA.all y).1 (by rw [hy]; exact List.getElem_mem hp')
        have e1 : atI (endsL ls l ts) y = atI ts y + greatF (atI (endsL ls l ts)) (needsAt ls y) := HA.tells ts hyr
        have e2 : atI (endsL ls l (ts.set k (atI ts (k : Int) + d))) y = atI (ts.set k (atI ts (k : Int) + d)) y + greatF (atI (endsL ls l (ts.set k (atI ts (k : Int) + d)))) (needsAt ls y) := HA.tells _ hyr
        have e3 := greatF_mono (f := atI (endsL ls l ts)) (g := atI (endsL ls l (ts.set k (atI ts (k : Int) + d)))) (ps := needsAt ls y) (fun x hx => ih (by omega) x (by rw [hy] at hx; exact hg.needs_take hp' hx))
        have e4 := atI_late ht.len hk d hyr
        split at e4
        · rename_i he; rw [he] at e1 e2 e3 ⊢; rw [he] at e4; omega
        · omega
  -- no way is longer than the longest, and that over the task
  have hup : ∀ B, endT (tailsL ls l ts) ≤ B → atI (endsL ls l ts) (k : Int) + atI (tailsL ls l ts) (k : Int) - atI ts (k : Int) + d ≤ B → ∀ p, p ≤ l.length → ∀ y ∈ l.take p, atI (endsL ls l (ts.set k (atI ts (k : Int) + d))) y + atI (tailsL ls l ts) y - atI ts y ≤ B := by
    intro B hB1 hB2 p
    induction p with
    | zero => intro _ y hy; simp at hy
    | succ p ih =>
      intro hp y hy
      have hp' : p < l.length := by omega
      rw [List.take_succ_eq_append_getElem hp', List.mem_append, List.mem_singleton] at hy
      rcases hy with hy | hy
      · exact ih (by omega) y hy
      · have hyr := (HA.all y).1 (by rw [hy]; exact List.getElem_mem hp')
        by_cases hyk : y = (k : Int)
        · rw [hyk]; omega
        · have e2 : atI (endsL ls l (ts.set k (atI ts (k : Int) + d))) y = atI (ts.set k (atI ts (k : Int) + d)) y + greatF (atI (endsL ls l (ts.set k (atI ts (k : Int) + d)))) (needsAt ls y) := HA.tells _ hyr
          have e4 := atI_late ht.len hk d hyr
          rw [if_neg hyk] at e4
          have h3 := (tails_at hg ht hyr).2.2.1
          rcases (greatF_is (atI (endsL ls l (ts.set k (atI ts (k : Int) + d)))) (needsAt ls y)).at' with e | ⟨x, hx, e⟩
          · omega
          · have hxr := needs_range hg hyr hx
            have h4 := ih (by omega) x (by rw [hy] at hx; exact hg.needs_take hp' hx)
            have h5 : atI (tailsL ls l ts) x = atI ts x + greatF (atI (tailsL ls l ts)) (usersL ls x) := HB.tells ts hxr
            have h6 := (greatF_is (atI (tailsL ls l ts)) (usersL ls x)).up y (mem_users.2 ⟨hyr, hx⟩)
            omega
  have hle : ∀ B, endT (tailsL ls l ts) ≤ B → atI (endsL ls l ts) (k : Int) + atI (tailsL ls l ts) (k : Int) - atI ts (k : Int) + d ≤ B → endT (tailsL ls l (ts.set k (atI ts (k : Int) + d))) ≤ B := by
    intro B hB1 hB2
    rw [← end_same hg ht']
    rcases (endT_is (endsL ls l (ts.set k (atI ts (k : Int) + d)))).at' with e | ⟨x, hx, e⟩
    · have := (end_at hg ht).1; rw [e]; omega
    · obtain ⟨y, hy, hyx⟩ := mem_at0 hx
      rw [endsL_len] at hy
      have h1 := hup B hB1 hB2 l.length (Nat.le_refl _) y (by rw [List.take_length]; exact hg.all.2 hy)
      have h2 := tails_at hg ht hy
      rw [e]
      show x ≤ B
      omega
  have hge1 : endT (tailsL ls l ts) ≤ endT (tailsL ls l (ts.set k (atI ts (k : Int) + d))) := by
    rw [← end_same hg ht, ← end_same hg ht']
    rcases (endT_is (endsL ls l ts)).at' with e | ⟨x, hx, e⟩
    · rw [e]; exact (endT_is _).low
    · obtain ⟨y, hy, hyx⟩ := mem_at0 hx
      rw [endsL_len] at hy
      have h1 := hmono l.length (Nat.le_refl _) y (by rw [List.take_length]; exact hg.all.2 hy)
      have h2 : atI (endsL ls l (ts.set k (atI ts (k : Int) + d))) y ≤ endT (endsL ls l (ts.set k (atI ts (k : Int) + d))) := (endT_is _).up _ (atI_mem (by rw [endsL_len]; exact hy))
      rw [e]
      show x ≤ _
      omega
  have hge2 : atI (endsL ls l ts) (k : Int) + atI (tailsL ls l ts) (k : Int) - atI ts (k : Int) + d ≤ endT (tailsL ls l (ts.set k (atI ts (k : Int) + d))) := by
    have h2 : atI (endsL ls l (ts.set k (atI ts (k : Int) + d))) (k : Int) + atI (tailsL ls l (ts.set k (atI ts (k : Int) + d))) (k : Int) - atI (ts.set k (atI ts (k : Int) + d)) (k : Int) ≤ endT (tailsL ls l (ts.set k (atI ts (k : Int) + d))) :=
      long_le HA HB ht' (fun x y hy hx => mem_users.2 ⟨hy, hx⟩) (fun x y hy hx => needs_range hg hy hx) l.length (Nat.le_refl _) (k : Int) (by rw [List.take_length]; exact hg.all.2 hkr)
    omega
  split
  · rename_i h
    exact Int.le_antisymm (hle _ (by omega) (Int.le_refl _)) hge2
  · rename_i h
    exact Int.le_antisymm (hle _ (Int.le_refl _) (by omega)) hge1
/-- What slack is. -/
theorem slack_at {ls : List (List Int)} {l ts : List Int} (hg : GoodP ls l) (ht : TimesT ls.length ts) {y : Int} (hy : 0 ≤ y ∧ y < (ls.length : Int)) :
    atI (slackL ls l ts) y = endT (tailsL ls l ts) - atI (tailsL ls l ts) y + atI ts y - atI (endsL ls l ts) y ∧ 0 ≤ atI (slackL ls l ts) y ∧ atI (slackL ls l ts) y ≤ 1100 := by
  have h1 : atI (slackL ls l ts) y = atI (latestL ls l ts) y - atI (endsL ls l ts) y := atI_map hy
  have h2 := latest_at hg ht hy
  have h3 := ends_at hg ht hy
  have h4 : atI (endsL ls l ts) y + atI (tailsL ls l ts) y - atI ts y ≤ endT (tailsL ls l ts) :=
    long_le (along_needs hg) (along_users hg) ht (fun x y hy hx => mem_users.2 ⟨hy, hx⟩) (fun x y hy hx => needs_range hg hy hx) l.length (Nat.le_refl _) y (by rw [List.take_length]; exact hg.all.2 hy)
  refine ⟨by omega, by omega, by omega⟩
theorem end_slack {ls : List (List Int)} {l ts : List Int} (hg : GoodP ls l) (ht : TimesT ls.length ts) {k : Nat} (hk : k < ls.length) (h1 : atI ts (k : Int) + atI (slackL ls l ts) (k : Int) ≤ 100) :
    endT (tailsL ls l (ts.set k (atI ts (k : Int) + atI (slackL ls l ts) (k : Int)))) = endT (tailsL ls l ts) := by
  have hs := slack_at hg ht (y := (k : Int)) (by omega)
  rw [end_late hg ht hk hs.2.1 h1, if_neg (by omega)]
theorem end_more {ls : List (List Int)} {l ts : List Int} (hg : GoodP ls l) (ht : TimesT ls.length ts) {k : Nat} (hk : k < ls.length) (h1 : atI ts (k : Int) + (atI (slackL ls l ts) (k : Int) + 1) ≤ 100) :
    endT (tailsL ls l (ts.set k (atI ts (k : Int) + (atI (slackL ls l ts) (k : Int) + 1)))) = endT (tailsL ls l ts) + 1 := by
  have hs := slack_at hg ht (y := (k : Int)) (by omega)
  rw [end_late hg ht hk (by omega) h1, if_pos (by omega)]
  omega
/-- On the longest way no task has slack. -/
theorem way_tight {ls : List (List Int)} {l ts : List Int} (hg : GoodP ls l) (ht : TimesT ls.length ts) (i : Nat) (hi : i < (wayT ls l ts).length) : atI (slackL ls l ts) (wayT ls l ts)[i] = 0 := by
  have h1 := way_at hg ht i hi
  have hs := slack_at hg ht h1.1
  -- what is left behind the way up to it is its tail less its time
  have hsum : sumT ts ((wayT ls l ts).take (i + 1)) + (atI (tailsL ls l ts) (wayT ls l ts)[i] - atI ts (wayT ls l ts)[i]) = endT (tailsL ls l ts) := by
    have : ∀ (f : Nat) cs x, (∀ k ∈ cs, 0 ≤ k ∧ k < (ls.length : Int)) → ∀ j (hj : j < (wayF (atI (tailsL ls l ts)) (usersL ls) (atI ts) f cs x).length), sumT ts ((wayF (atI (tailsL ls l ts)) (usersL ls) (atI ts) f cs x).take (j + 1)) + (atI (tailsL ls l ts) (wayF (atI (tailsL ls l ts)) (usersL ls) (atI ts) f cs x)[j] - atI ts (wayF (atI (tailsL ls l ts)) (usersL ls) (atI ts) f cs x)[j]) = x := by
      intro f
      induction f with
      | zero => intro cs x _ j hj; simp [wayF] at hj
      | succ f ih =>
        intro cs x hr j hj
        rcases hn : nextW (atI (tailsL ls l ts)) cs x with _ | z
        · rw [wayF_none hn] at hj; simp at hj
        · have he := (nextW_mem hn).2
          have hw := wayF_some (ts := atI ts) (us := usersL ls) (f := f) hn
          rw [hw] at hj
          rcases j with _ | j
          · simp only [hw]
            rw [List.take_succ_cons, List.take_zero, sumT_cons]
            show atI ts z + 0 + (atI (tailsL ls l ts) z - atI ts z) = x
            omega
          · have hj' : j < (wayF (atI (tailsL ls l ts)) (usersL ls) (atI ts) f (usersL ls z) (x - atI ts z)).length := by simpa using hj
            have h := ih (usersL ls z) (x - atI ts z) (fun k hk => (mem_users.1 hk).1) j hj'
            simp only [hw]
            rw [List.take_succ_cons, sumT_cons]
            show atI ts z + sumT ts ((wayF (atI (tailsL ls l ts)) (usersL ls) (atI ts) f (usersL ls z) (x - atI ts z)).take (j + 1)) + (atI (tailsL ls l ts) (wayF (atI (tailsL ls l ts)) (usersL ls) (atI ts) f (usersL ls z) (x - atI ts z))[j] - atI ts (wayF (atI (tailsL ls l ts)) (usersL ls) (atI ts) f (usersL ls z) (x - atI ts z))[j]) = x
            omega
    exact this 1000 (rootsL ls) _ (fun _ hk => (mem_roots.1 hk).1) i hi
  have h2 := h1.2.1
  omega
end Go.Proofs.Ytgolhfmmlanmlaa

/- Walks: a time made more, of both programs. -/
namespace Go.Proofs.Ytgolhfmmlanmlaa
open Go.RowKit Pth

/-- Whether a time may be so much more; the times then. -/
def withB (ts : List Int) (k m : Int) : Bool := decide (ts.length ≤ 10 ∧ allB 1 100 ts = true ∧ (0 ≤ k ∧ k < (ts.length : Int)) ∧ (0 ≤ m ∧ m ≤ 99) ∧ atI ts k + m ≤ 100)
def withA (ts : List Int) (k m : Int) : List Int := ifL (withB ts k m) (ts.set k.toNat (atI ts k + m))
theorem withA_short (ts : List Int) (k m : Int) : (withA ts k m).length ≤ 1000000 := by
  unfold withA
  rcases h : withB ts k m with _ | _
  · show ([] : List Int).length ≤ _; simp
  · show (ts.set k.toNat (atI ts k + m)).length ≤ _
    rw [List.length_set]
    have := (of_decide_eq_true h).1
    omega
theorem clone_any (ts : List Int) (v : Value) (w : World) (hrow : RowV w v (I ts)) (hne : 0 < ts.length) (hl : ts.length ≤ 1000) :
    Calls Try.prog 58 #[v] w (IntsPost w.heap.size ts w) := by
  obtain ⟨tm, tc, rfl, ht1, ht2, htt⟩ := hrow.ints
  obtain ⟨g, o, rfl, hg, _⟩ := htt 0 hne
  refine (Try.slices_Clone_int g o ts.length tc ts w (Nat.le_refl _) (by omega) (fun j hj => ?_)).mono ?_
  · obtain ⟨g', o', hA, _, hc⟩ := htt j hj
    obtain ⟨rfl, rfl⟩ := addr_inj hA
    rw [hc, List.getD_eq_getElem?_getD, List.getElem?_eq_getElem hj]
    rfl
  · rintro e w' ⟨v', rfl, ho, _, hb⟩
    rw [List.take_length] at ho
    exact ⟨v', rfl, ho, hb⟩

set_option maxRecDepth 20000 in
set_option maxHeartbeats 8000000 in
theorem specWith_any (ts : List Int) (k m : Int) (u : Value) (w : World) (hrow : RowV w u (I ts)) :
    Calls Try.prog 29 #[u, .int .i64 k, .int .i64 m] w (ListOk (withA ts k m) (withB ts k m) w) := by
  have HR := Lib.hid hrow
  obtain ⟨tm, tc, rfl, ht1, ht2, htt⟩ := hrow.ints
  unfold maxLen at ht2
  have HTT := Lib.hid htt
  clear hrow htt
  unfold withA
  have HL0 := l1All_any ts 1 100 (.slice tm ts.length tc) w HR.out
  by_cases h1 : ts.length ≤ 10
  case neg =>
    have hd : decide ((ts.length : Int) > 10) = true := by simp; omega
    clear HL0
    have hB : withB ts k m = false := decide_eq_false (fun h => h1 h.1)
    rw [hB]
    clear hB HTT HR
    go_enter Try.func29, Try.ntmps29
    go_wp2_with fail
    go_ret2
    exact ⟨_, rfl, none_ownZ _ _ _, Below.refl _ _⟩
  have hd : decide ((ts.length : Int) > 10) = false := by simp; omega
  rcases h2 : allB 1 100 ts with _ | _
  · rw [h2] at HL0
    have HL := Lib.hid HL0
    clear HL0
    have hB : withB ts k m = false := decide_eq_false (fun h => by rw [h2] at h; exact absurd h.2.1 (by simp))
    rw [hB]
    clear hB HTT HR
    go_enter Try.func29, Try.ntmps29
    go_wp2_with fail
    refine HL.out.mono ?_
    rintro e w1 ⟨rfl, rfl⟩
    go_wp2_with fail
    go_ret2
    exact ⟨_, rfl, none_ownZ _ _ _, Below.refl _ _⟩
  rw [h2] at HL0
  have HL := Lib.hid HL0
  clear HL0
  by_cases h3 : 0 ≤ k ∧ k < (ts.length : Int)
  case neg =>
    have HI := Lib.hid (l1In_task (w := w) (show (decide (0 ≤ k) && decide (k < (ts.length : Int))) = false by rw [Bool.eq_false_iff]; intro h; rw [Bool.and_eq_true, decide_eq_true_iff, decide_eq_true_iff] at h; exact h3 h))
    have hB : withB ts k m = false := decide_eq_false (fun h => h3 h.2.2.1)
    rw [hB]
    clear hB HTT HR
    go_enter Try.func29, Try.ntmps29
    go_wp2_with fail
    refine HL.out.mono ?_
    rintro e w1 ⟨rfl, rfl⟩
    go_wp2_with fail
    refine HI.out.mono ?_
    rintro e w1 ⟨rfl, rfl⟩
    go_wp2_with fail
    go_ret2
    exact ⟨_, rfl, none_ownZ _ _ _, Below.refl _ _⟩
  have HI := Lib.hid (l1In_task (w := w) (show (decide (0 ≤ k) && decide (k < (ts.length : Int))) = true by simp [h3]))
  by_cases h4 : 0 ≤ m ∧ m ≤ 99
  case neg =>
    have hm0 : (decide (0 ≤ m) && decide (m ≤ 99)) = false := by rw [Bool.eq_false_iff]; intro h; rw [Bool.and_eq_true, decide_eq_true_iff, decide_eq_true_iff] at h; exact h4 h
    have HM := l1In_any m 0 99 w
    rw [hm0] at HM
    have HMM := Lib.hid HM
    clear HM hm0
    have hB : withB ts k m = false := decide_eq_false (fun h => h4 h.2.2.2.1)
    rw [hB]
    clear hB HTT HR
    go_enter Try.func29, Try.ntmps29
    go_wp2_with fail
    refine HL.out.mono ?_
    rintro e w1 ⟨rfl, rfl⟩
    go_wp2_with fail
    refine HI.out.mono ?_
    rintro e w1 ⟨rfl, rfl⟩
    go_wp2_with fail
    refine HMM.out.mono ?_
    rintro e w1 ⟨rfl, rfl⟩
    go_wp2_with fail
    go_ret2
    exact ⟨_, rfl, none_ownZ _ _ _, Below.refl _ _⟩
  have hm0 : (decide (0 ≤ m) && decide (m ≤ 99)) = true := by simp [h4]
  have HM := l1In_any m 0 99 w
  rw [hm0] at HM
  have HMM := Lib.hid HM
  have htb := (show ∀ x ∈ ts, 1 ≤ x ∧ x ≤ 100 from of_decide_eq_true h2)
  have hab : 1 ≤ atI ts k ∧ atI ts k ≤ 100 := htb _ (atI_mem h3)
  clear HM hm0 htb
  obtain ⟨kn, rfl⟩ : ∃ kn : Nat, k = kn := ⟨k.toNat, by omega⟩
  have hkl : kn < ts.length := by omega
  have hkz : (kn : Int) < (ts.length : Int) := by omega
  obtain ⟨tg, tf, hto, htg, htc0⟩ := HTT.out kn hkl
  subst hto
  have htc : w.cell? ⟨tg, tf + kn, none⟩ = some (.int .i64 (atI ts (kn : Int))) := by rw [htc0, atI_get hkl]
  have hsum : IntKind.i64.wrap (atI ts (kn : Int) + m) = atI ts (kn : Int) + m := by rw [IntKind.wrap_i64]; omega
  by_cases h5 : atI ts (kn : Int) + m ≤ 100
  case neg =>
    have hB : withB ts (kn : Int) m = false := decide_eq_false (fun h => h5 h.2.2.2.2)
    rw [hB]
    have hgt : decide (atI ts (kn : Int) + m > 100) = true := by simp; omega
    clear hB HTT htc0 h2
    generalize atI ts (kn : Int) = tt at *
    go_enter Try.func29, Try.ntmps29
    go_wp2_with fail
    refine HL.out.mono ?_
    rintro e w1 ⟨rfl, rfl⟩
    go_wp2_with fail
    refine HI.out.mono ?_
    rintro e w1 ⟨rfl, rfl⟩
    go_wp2_with fail
    refine HMM.out.mono ?_
    rintro e w1 ⟨rfl, rfl⟩
    go_wp2_with fail
    go_ret2
    exact ⟨_, rfl, none_ownZ _ _ _, Below.refl _ _⟩
  have hB : withB ts (kn : Int) m = true := decide_eq_true ⟨h1, h2, h3, h4, h5⟩
  rw [hB]
  have hgt : decide (atI ts (kn : Int) + m > 100) = false := by simp; omega
  obtain ⟨qa, qc, w2, run2, o2, b2⟩ := lit_row ts (some ⟨tg, tf, none⟩) tc w _ rfl HR.out (by omega) 24
  have hq : ∃ gq, qa = some ⟨gq, 0, none⟩ ∧ w.heap.size ≤ gq := by
    rcases o2.2 with ⟨h0, h1⟩ | ⟨g, cap, cur, hv, hg, _⟩
    · omega
    · injection hv with h1 _ h3
      exact ⟨g, h1, hg⟩
  obtain ⟨gq, rfl, hgq⟩ := hq
  have HRUN := Lib.hid run2
  have hcu : w2.cell? ⟨gq, kn, none⟩ = some (.int .i64 (atI ts (kn : Int))) := by rw [o2.cellAt kn (by omega), I_atE hkl, atI_get hkl]
  have hf2 := o2.frozenAt kn
  have hst := o2.stored kn (.int .i64 (atI ts (kn : Int) + m))
  rw [I_setE] at hst
  have HO1 := Lib.hid hst.1
  have HB1 := Lib.hid (b2.trans (only_below hst.2 hgq b2.size))
  clear hB HTT htc0 h2 run2 o2 b2 hst
  go_enter Try.func29, Try.ntmps29
  go_wp2_with fail
  refine HL.out.mono ?_
  rintro e w1 ⟨rfl, rfl⟩
  go_wp2_with fail
  refine HI.out.mono ?_
  rintro e w1 ⟨rfl, rfl⟩
  go_wp2_with fail
  refine HMM.out.mono ?_
  rintro e w1 ⟨rfl, rfl⟩
  go_upto_region 3 with fail
  go_upto_region 4 with (at_builtin; refine wpList_runApp rfl _ _ rfl rfl rfl HRUN.out ?_)
  go_wp2_with fail
  go_ret2
  exact ⟨_, rfl, by rw [show (ifL true (ts.set ((kn : Int)).toNat (atI ts (kn : Int) + m))).length = ts.length from List.length_set]; exact HO1.out, HB1.out⟩

set_option maxRecDepth 20000 in
set_option maxHeartbeats 8000000 in
theorem implWith_any (ts : List Int) (k m : Int) (u : Value) (w : World) (hrow : RowV w u (I ts)) :
    Calls Try.prog 27 #[u, .int .i64 k, .int .i64 m] w (ListOk (withA ts k m) (withB ts k m) w) := by
  have HR := Lib.hid hrow
  obtain ⟨tm, tc, rfl, ht1, ht2, htt⟩ := hrow.ints
  unfold maxLen at ht2
  have HTT := Lib.hid htt
  clear hrow htt
  unfold withA
  have HL0 := areTimes_any ts (.slice tm ts.length tc) w HR.out
  by_cases h1 : ts.length ≤ 10 ∧ allB 1 100 ts = true
  case neg =>
    have hb : (decide (ts.length ≤ 10) && allB 1 100 ts) = false := by rw [Bool.eq_false_iff]; intro h; rw [Bool.and_eq_true, decide_eq_true_iff] at h; exact h1 h
    rw [hb] at HL0
    have HL := Lib.hid HL0
    clear HL0 hb
    have hB : withB ts k m = false := decide_eq_false (fun h => h1 ⟨h.1, h.2.1⟩)
    rw [hB]
    clear hB HTT HR
    go_enter Try.func27, Try.ntmps27
    go_wp2_with fail
    refine HL.out.mono ?_
    rintro e w1 ⟨rfl, hb1⟩
    have HB := Lib.hid hb1
    clear hb1
    go_wp2_with fail
    go_ret2
    exact ⟨_, rfl, none_ownZ _ _ _, HB.out⟩
  have hb : (decide (ts.length ≤ 10) && allB 1 100 ts) = true := by rw [h1.2, decide_eq_true h1.1]; rfl
  rw [hb] at HL0
  have HL := Lib.hid HL0
  have htb := (show ∀ x ∈ ts, 1 ≤ x ∧ x ≤ 100 from of_decide_eq_true h1.2)
  have h10 := h1.1
  have HALL := Lib.hid h1.2
  clear HL0 hb h1
  by_cases chd1 : 0 ≤ k
  case neg =>
    have hd1 : decide (k < 0) = true := by simp; omega
    clear HALL
    have hB : withB ts k m = false := decide_eq_false (fun h => chd1 h.2.2.1.1)
    rw [hB]
    clear hB HTT HR
    go_enter Try.func27, Try.ntmps27
    go_wp2_with fail
    refine HL.out.mono ?_
    rintro e w1 ⟨rfl, hb1⟩
    have HB := Lib.hid hb1
    clear hb1
    go_wp2_with fail
    go_ret2
    exact ⟨_, rfl, none_ownZ _ _ _, HB.out⟩
  have hd1 : decide (k < 0) = false := by simp; omega
  by_cases chd2 : k < (ts.length : Int)
  case neg =>
    have hd2 : decide (k ≥ (ts.length : Int)) = true := by simp; omega
    clear HALL
    have hB : withB ts k m = false := decide_eq_false (fun h => chd2 h.2.2.1.2)
    rw [hB]
    clear hB HTT HR
    go_enter Try.func27, Try.ntmps27
    go_wp2_with fail
    refine HL.out.mono ?_
    rintro e w1 ⟨rfl, hb1⟩
    have HB := Lib.hid hb1
    clear hb1
    go_wp2_with fail
    go_ret2
    exact ⟨_, rfl, none_ownZ _ _ _, HB.out⟩
  have hd2 : decide (k ≥ (ts.length : Int)) = false := by simp; omega
  by_cases chd3 : 0 ≤ m
  case neg =>
    have hd3 : decide (m < 0) = true := by simp; omega
    clear HALL
    have hB : withB ts k m = false := decide_eq_false (fun h => chd3 h.2.2.2.1.1)
    rw [hB]
    clear hB HTT HR
    go_enter Try.func27, Try.ntmps27
    go_wp2_with fail
    refine HL.out.mono ?_
    rintro e w1 ⟨rfl, hb1⟩
    have HB := Lib.hid hb1
    clear hb1
    go_wp2_with fail
    go_ret2
    exact ⟨_, rfl, none_ownZ _ _ _, HB.out⟩
  have hd3 : decide (m < 0) = false := by simp; omega
  by_cases chd4 : m ≤ 99
  case neg =>
    have hd4 : decide (m ≥ 100) = true := by simp; omega
    clear HALL
    have hB : withB ts k m = false := decide_eq_false (fun h => chd4 h.2.2.2.1.2)
    rw [hB]
    clear hB HTT HR
    go_enter Try.func27, Try.ntmps27
    go_wp2_with fail
    refine HL.out.mono ?_
    rintro e w1 ⟨rfl, hb1⟩
    have HB := Lib.hid hb1
    clear hb1
    go_wp2_with fail
    go_ret2
    exact ⟨_, rfl, none_ownZ _ _ _, HB.out⟩
  have hd4 : decide (m ≥ 100) = false := by simp; omega
  have h3 : 0 ≤ k ∧ k < (ts.length : Int) := ⟨chd1, chd2⟩
  have hab : 1 ≤ atI ts k ∧ atI ts k ≤ 100 := htb _ (atI_mem h3)
  clear htb
  obtain ⟨kn, rfl⟩ : ∃ kn : Nat, k = kn := ⟨k.toNat, by omega⟩
  have hkl : kn < ts.length := by omega
  have hkz : (kn : Int) < (ts.length : Int) := by omega
  obtain ⟨tg, tf, hto, htg, htc0⟩ := HTT.out kn hkl
  subst hto
  have htc : w.cell? ⟨tg, tf + kn, none⟩ = some (.int .i64 (atI ts (kn : Int))) := by rw [htc0, atI_get hkl]
  have hsum : IntKind.i64.wrap (atI ts (kn : Int) + m) = atI ts (kn : Int) + m := by rw [IntKind.wrap_i64]; omega
  by_cases h5 : atI ts (kn : Int) + m ≤ 100
  case neg =>
    have hB : withB ts (kn : Int) m = false := decide_eq_false (fun h => h5 h.2.2.2.2)
    rw [hB]
    have hgt : decide (atI ts (kn : Int) + m > 100) = true := by simp; omega
    have HTC := Lib.hid (fun W (h : Below w.heap.size w W) => (h.cell (p := ⟨tg, tf + kn, none⟩) htg).trans htc)
    clear hB HTT htc0 HALL htc
    generalize atI ts (kn : Int) = tt at *
    go_enter Try.func27, Try.ntmps27
    go_wp2_with fail
    refine HL.out.mono ?_
    rintro e w1 ⟨rfl, hb1⟩
    have HB := Lib.hid hb1
    clear hb1
    have htc := HTC.out w1 HB.out
    go_wp2_with fail
    go_ret2
    exact ⟨_, rfl, none_ownZ _ _ _, HB.out⟩
  have hB : withB ts (kn : Int) m = true := decide_eq_true ⟨h10, HALL.out, h3, ⟨chd3, chd4⟩, h5⟩
  rw [hB]
  have hgt : decide (atI ts (kn : Int) + m > 100) = false := by simp; omega
  have HTC := Lib.hid (fun W (h : Below w.heap.size w W) => (h.cell (p := ⟨tg, tf + kn, none⟩) htg).trans htc)
  clear hB HTT htc0 HALL htc
  go_enter Try.func27, Try.ntmps27
  go_wp2_with fail
  refine HL.out.mono ?_
  rintro e w1 ⟨rfl, hb1⟩
  have HB := Lib.hid hb1
  clear hb1
  have htc := HTC.out w1 HB.out
  have HC := Lib.hid (clone_any ts _ w1 (HR.out.below HB.out) (by omega) (by omega))
  go_wp2_with fail
  refine HC.out.mono ?_
  rintro e w2 ⟨v2, rfl, o2, b2⟩
  have hq : ∃ gq cq, v2 = .slice (some ⟨gq, 0, none⟩) ts.length cq ∧ w1.heap.size ≤ gq := by
    rcases o2.2 with ⟨h0, h1⟩ | ⟨g, cap, cur, hv, hg, _⟩
    · omega
    · exact ⟨g, cap, hv, hg⟩
  obtain ⟨gq, cq, rfl, hgq⟩ := hq
  have hcu : w2.cell? ⟨gq, kn, none⟩ = some (.int .i64 (atI ts (kn : Int))) := by rw [o2.cellAt kn (by omega), I_atE hkl, atI_get hkl]
  have hf2 := o2.frozenAt kn
  have hst := o2.stored kn (.int .i64 (atI ts (kn : Int) + m))
  rw [I_setE] at hst
  have HO1 := Lib.hid hst.1
  have HB1 := Lib.hid ((bth HB.out b2 (Nat.le_refl _)).trans (only_below hst.2 (Nat.le_trans HB.out.size hgq) (Nat.le_trans HB.out.size b2.size)))
  have hs1 := HB.out.size
  clear o2 b2 hst htc HC
  go_wp2_with fail
  go_ret2
  exact ⟨_, rfl, by rw [show (ifL true (ts.set ((kn : Int)).toNat (atI ts (kn : Int) + m))).length = ts.length from List.length_set]; exact own_base HO1.out hs1, HB1.out⟩

end Go.Proofs.Ytgolhfmmlanmlaa

/- Walks: a number out of bytes; times, a task and a more are drawn. -/
namespace Go.Proofs.Ytgolhfmmlanmlaa
open Go.RowKit Pth

set_option maxRecDepth 20000 in
set_option maxHeartbeats 4000000 in
theorem numberOf_any (A : Option Addr) (n c : Nat) (w : World) (hby : BytesIn w A n) (hn : n ≤ 2000000) :
    Calls Try.prog 26 #[.slice A n c] w fun e w' => ∃ z : Int, e = .returned (.int .i64 z) ∧ 0 ≤ z ∧ w' = w := by
  have HBY := Lib.hid hby
  clear hby
  go_enter Try.func26, Try.ntmps26
  go_wp2_with fail
  go_loop [3, 8] (fun q i => ∃ (k : Nat) (z : Int), k ≤ n ∧ i = .int .i64 (k : Int) ∧ q = .int .i64 z ∧ 0 ≤ z ∧ z < 1000003) (fun _ i => n - (intOf i).toNat)
  case atStart => exact ⟨0, 0, Nat.zero_le _, rfl, rfl, Int.le_refl _, by omega⟩
  case round =>
    obtain ⟨k, z, hk, rfl, rfl, h0, h1⟩ := hrel
    by_cases hlt : k < n
    · obtain ⟨g, o, x, rfl, hg, hc, hx0, hx1⟩ := HBY.out k hlt
      have hltz : (k : Int) < (n : Int) := by omega
      have hmul : IntKind.i64.wrap (31 * z) = 31 * z := by rw [IntKind.wrap_i64]; omega
      have hcv : IntKind.i64.wrap x = x := by rw [IntKind.wrap_i64]; omega
      have hadd : IntKind.i64.wrap (31 * z + x) = 31 * z + x := by rw [IntKind.wrap_i64]; omega
      have hnn : 0 ≤ 31 * z + x := by omega
      have hd0 := Int.emod_nonneg (31 * z + x) (b := 1000003) (by omega)
      have hd1 := Int.emod_lt_of_pos (31 * z + x) (b := 1000003) (by omega)
      go_wp2_with fail
      go_round
      case rel => exact ⟨k + 1, (31 * z + x) % 1000003, by omega, by go_num, rfl, hd0, hd1⟩
      case measure => simp [intOf]; omega
    · go_wp2_with fail
      go_ret
      exact ⟨z, rfl, h0, rfl⟩
/-- Five times and two numbers. -/
def WTPost (w : World) (e : Ending) (w' : World) : Prop :=
  ∃ tv ts, ∃ x y : Int, e = .returned (.tuple #[tv, .int .i64 x, .int .i64 y]) ∧ w'.ownsRow w.heap.size 3 1 tv ts.length (I ts) ∧ Below w.heap.size w w'

set_option maxRecDepth 20000 in
set_option maxHeartbeats 8000000 in
theorem drawWith_any (A : Option Addr) (n c : Nat) (w : World) (hby : BytesIn w A n) (hn : n ≤ 2000000) :
    Calls Try.prog 28 #[.slice A n c] w (WTPost w) := by
  obtain ⟨w1, hw1⟩ : ∃ w1, w1 = w.alloc (.cells #[.slice A n c, .int .i64 0, .int .u64 0] 65) := ⟨_, rfl⟩
  have hz1 : w.heap.size < w1.heap.size := by rw [hw1]; simp
  have b1 : Below w.heap.size w w1 := by rw [hw1]; exact (Below.refl _ w).alloc (Nat.le_refl _) _
  have hC1 : CurL w.heap.size w.heap.size A n c 0 w1 := ⟨0, Nat.le_refl _, by rw [hw1]; exact cur_new hby⟩
  have HT := Lib.hid (times_any w.heap.size w.heap.size A n c 0 5 w1 hC1 hn (by omega) (by omega))
  have HB1 := Lib.hid b1
  have HW1 := Lib.hid hw1
  have h5 : ((5 : Nat) : Int) = 5 := rfl
  rw [h5] at HT
  clear hw1 b1 hC1 hby h5
  go_enter Try.func28, Try.ntmps28
  go_wp2_with fail
  rw [← HW1.out]
  refine HT.out.mono ?_
  rintro e w2 ⟨tv, ts, rfl, hown, -, -, hC2, hg2⟩
  have HP := Lib.hid (pickL_any w.heap.size w.heap.size A n c (0 + 100) 7 w2 hC2 hn (by omega) (by omega))
  have h7 : ((7 : Nat) : Int) = 7 := rfl
  rw [h7] at HP
  have HO2 := Lib.hid hown
  have HC2 := Lib.hid hC2
  have HB2 := Lib.hid (below_reader HB1.out hg2 (Nat.le_refl _) (Nat.le_of_lt hz1))
  obtain ⟨qa, qc, hq⟩ := own_slice hown
  subst hq
  clear hown hC2 hg2 h7 HT
  go_wp2_with fail
  refine HP.out.mono ?_
  rintro e w3 ⟨p, hp, rfl, hC3, hg3⟩
  have HO3 := Lib.hid (own_reader HO2.out HC2.out hg3 hz1)
  have HB3 := Lib.hid (below_reader HB2.out hg3 (Nat.le_refl _) HB2.out.size)
  obtain ⟨w4, hw4⟩ : ∃ w4, w4 = w3.alloc (.cells #[.int .i64 (-1), .int .i64 0, .int .i64 3, .int .i64 99, .int .i64 100] 3) := ⟨_, rfl⟩
  have hb4 : Below w3.heap.size w3 w4 := by rw [hw4]; exact (Below.refl _ w3).alloc (Nat.le_refl _) _
  have hlt3 := hC3.lt
  have HA := Lib.hid (amongL_any [-1, 0, 3, 99, 100] w3.heap.size 5 w.heap.size w.heap.size A n c (0 + 100 + 1) w4 (hC3.below hb4) hn (by omega) (by simp) (by simp) (by rw [hw4]; exact heap_alloc_new w3 _) (by omega))
  have HC4 := Lib.hid (hC3.below hb4)
  have HO4 := Lib.hid (own_below HO3.out hb4)
  have HB4 := Lib.hid (bth HB3.out hb4 (Nat.le_refl _))
  have HW4 := Lib.hid hw4
  have hsub : IntKind.i64.wrap ((p : Int) - 1) = (p : Int) - 1 := by rw [IntKind.wrap_i64]; omega
  obtain ⟨y, hy⟩ : ∃ y : Int, y = (p : Int) - 1 := ⟨_, rfl⟩
  rw [← hy] at hsub
  clear hC3 hg3 hw4 hb4 hp HP
  rw [hy] at hsub
  have hsub2 : IntKind.i64.wrap ((p : Int) - 1) = y := by rw [hsub, hy]
  clear hsub hy
  go_wp2_with fail
  rw [← HW4.out]
  refine HA.out.mono ?_
  rintro e w5 ⟨z, _, rfl, hC5, hg5⟩
  have HO5 := Lib.hid (own_base (own_reader HO4.out HC4.out hg5 hz1) (Nat.le_of_lt hz1))
  have HB5 := Lib.hid (below_reader HB4.out hg5 (Nat.le_refl _) HB4.out.size)
  clear hC5 hg5 HA
  go_wp2_with fail
  go_ret3
  exact ⟨_, ts, _, _, rfl, HO5.out, HB5.out⟩
end Go.Proofs.Ytgolhfmmlanmlaa

/- Walks: the law that a task that is late by its slack makes nothing late. -/
namespace Go.Proofs.Ytgolhfmmlanmlaa
open Go.RowKit Pth

theorem slackL_shortS (ls : List (List Int)) (l ts : List Int) : (ifL (timesG ls l ts) (slackL ls l ts)).length ≤ 1000000 := lenS (slackL_len _ _ _)
theorem latestL_shortS (ls : List (List Int)) (l ts : List Int) : (ifL (timesG ls l ts) (latestL ls l ts)).length ≤ 1000000 := lenS (latestL_len _ _ _)
theorem withB_late {ls : List (List Int)} {l ts : List Int} (hg : GoodG ls l) (ht : TimesT ls.length ts) {k : Nat} (hk : k < ls.length) {m : Int} (h : withB ts (k : Int) m = true) : timesG ls l (ts.set k (atI ts (k : Int) + m)) = true ∧ atI ts (k : Int) + m ≤ 100 := by
  obtain ⟨_, _, _, h4, h5⟩ := of_decide_eq_true h
  have h2 := late_times ht hk h4.1 h5
  refine ⟨?_, h5⟩
  unfold timesG
  rw [goodG_iff.2 hg, decide_eq_true h2.len]
  exact decide_eq_true h2.each

set_option maxRecDepth 20000 in
set_option maxHeartbeats 32000000 in
theorem fnSlack_any (A1 A2 : Option Addr) (n1 c1 n2 c2 : Nat) (w : World) (hi1 : BytesIn w A1 n1) (hi2 : BytesIn w A2 n2) (hn1 : n1 ≤ 140737488355328) (hn2 : n2 ≤ 140737488355328) :
    Calls Try.prog 4 #[.slice A1 n1 c1, .slice A2 n2 c2] w (YesZ w) := by
  have hadd : IntKind.i64.wrap ((n1 : Int) + (n2 : Int)) = ((n1 + n2 : Nat) : Int) := by rw [IntKind.wrap_i64]; omega
  by_cases hbig : 1048576 < n1 + n2
  · have hgt : decide (((n1 + n2 : Nat) : Int) > 1048576) = true := decide_eq_true (by omega)
    clear hi1 hi2
    generalize n1 + n2 = nn at *
    go_enter Try.func4, Try.ntmps4
    go_wp2_with fail
    go_ret
    exact ⟨rfl, Below.refl _ _⟩
  have hgt : decide (((n1 + n2 : Nat) : Int) > 1048576) = false := decide_eq_false (by omega)
  have HD1 := Lib.hid (drawSlack_any A1 n1 c1 w hi1 (by omega))
  have HD2 := Lib.hid (fun W (h : Below w.heap.size w W) => drawWith_any A2 n2 c2 W (bytes_below hi2 h) (by omega))
  have HNO := Lib.hid (fun W (h : Below w.heap.size w W) => numberOf_any A2 n2 c2 W (bytes_below hi2 h) (by omega))
  clear hi1 hi2 hbig hn1 hn2
  generalize n1 + n2 = nn at *
  go_enter Try.func4, Try.ntmps4
  go_wp2_with fail
  refine HD1.out.mono ?_
  rintro e w1 ⟨v, ls, l, tv, ts, rfl, hgo, hsg, hown, hlen, hx, hb1⟩
  have HGV := Lib.hid hgo.view
  have HRV := Lib.hid (RowV.of_own hown)
  obtain ⟨an, cn, ao, co, rfl⟩ := hgo.slices
  obtain ⟨tm, tc, hz⟩ := own_slice hown
  subst hz
  have KW1 := Lib.hid hb1
  obtain ⟨w2, hw2⟩ : ∃ w2, w2 = w1.alloc (.cells #[.slice an ls.length cn, .slice ao l.length co] 26) := ⟨_, rfl⟩
  have P2 : Hid (Blk2 w2 w1.heap.size 26 (.slice an ls.length cn) (.slice ao l.length co)) := by rw [hw2]; exact Blk2.new
  have b2 : Below w1.heap.size w1 w2 := by rw [hw2]; exact (Below.refl _ w1).alloc (Nat.le_refl _) _
  have hsz2 : w1.heap.size < w2.heap.size := by rw [hw2]; simp
  have KW2 := Lib.hid (bth KW1.out b2 (Nat.le_refl _))
  have K2 := Lib.hid (Below.refl w2.heap.size w2)
  have HGW := Lib.hid (fun W (h : Below w2.heap.size w2 W) => HGV.out.below (bth b2 h (Nat.le_refl _)))
  have HRW := Lib.hid (fun W (h : Below w2.heap.size w2 W) => HRV.out.below (bth b2 h (Nat.le_refl _)))
  have HW2 := Lib.hid hw2
  have hsh1 := slackL_shortS ls l ts
  have hsh2 := latestL_shortS ls l ts
  obtain ⟨c0, c1⟩ := P2.out.cells
  clear hgo hsg hown hlen hx hb1 b2 hw2 HD1
  rcases hT : timesG ls l ts with _ | _
  · have HI3 := Lib.hid (fun W (h : Below w2.heap.size w2 W) => implSlack_any ls l ts _ _ W (HGW.out W h) (HRW.out W h))
    have HI4 := Lib.hid (fun W (h : Below w2.heap.size w2 W) => specSlack_any ls l ts _ _ W (HGW.out W h) (HRW.out W h))
    have HI5 := Lib.hid (fun W (h : Below w2.heap.size w2 W) => implLatest_any ls l ts _ _ W (HGW.out W h) (HRW.out W h))
    have HI6 := Lib.hid (fun W (h : Below w2.heap.size w2 W) => specLatest_any ls l ts _ _ W (HGW.out W h) (HRW.out W h))
    rw [hT] at HI3 HI4 HI5 HI6 hsh1 hsh2
    rw [show ifL false (slackL ls l ts) = [] from rfl] at HI3 HI4
    rw [show ifL false (latestL ls l ts) = [] from rfl, show ifN false (endT (tailsL ls l ts)) = 0 from rfl] at HI5 HI6
    clear hsh1 hsh2
    clear hT
    go_upto_region 4 with fail
    rw [← HW2.out]
    go_wp2_with fail
    refine (HI3.out w2 K2.out).mono ?_
    rintro e w3 ⟨v3, rfl, ho3', hb3⟩
    have HO3 := Lib.hid (RowV.of_own ho3')
    have K3 := Lib.hid (bth K2.out hb3 (Nat.le_refl _))
    obtain ⟨a3, k3, hv3⟩ := own_slice ho3'
    subst hv3
    have X3 := Lib.hid hb3
    clear ho3' hb3 c0 c1
    obtain ⟨c0, c1⟩ := (P2.out.below K3.out hsz2).cells
    go_wp2_with fail
    refine (HI4.out w3 K3.out).mono ?_
    rintro e w4 ⟨v4, rfl, ho4', hb4⟩
    have HO4 := Lib.hid (RowV.of_own ho4')
    have K4 := Lib.hid (bth K3.out hb4 (Nat.le_refl _))
    obtain ⟨a4, k4, hv4⟩ := own_slice ho4'
    subst hv4
    have X4 := Lib.hid hb4
    clear ho4' hb4 c0 c1
    obtain ⟨c0, c1⟩ := (P2.out.below K4.out hsz2).cells
    go_wp2_with fail
    refine (HI5.out w4 K4.out).mono ?_
    rintro e w5 ⟨v5, rfl, ho5', hb5⟩
    have HO5 := Lib.hid (RowV.of_own ho5')
    have K5 := Lib.hid (bth K4.out hb5 (Nat.le_refl _))
    obtain ⟨a5, k5, hv5⟩ := own_slice ho5'
    subst hv5
    have X5 := Lib.hid hb5
    clear ho5' hb5 c0 c1
    obtain ⟨c0, c1⟩ := (P2.out.below K5.out hsz2).cells
    go_wp2_with fail
    refine (HI6.out w5 K5.out).mono ?_
    rintro e w6 ⟨v6, rfl, ho6', hb6⟩
    have HO6 := Lib.hid (RowV.of_own ho6')
    have K6 := Lib.hid (bth K5.out hb6 (Nat.le_refl _))
    obtain ⟨a6, k6, hv6⟩ := own_slice ho6'
    subst hv6
    have X6 := Lib.hid hb6
    clear ho6' hb6 c0 c1
    obtain ⟨c0, c1⟩ := (P2.out.below K6.out hsz2).cells
    have HS1 := Lib.hid (sameInts_any [] _ _ w6 (HO3.out.below (bth X4.out (bth X5.out X6.out (Nat.le_refl _)) (Nat.le_refl _))) (HO4.out.below (bth X5.out X6.out (Nat.le_refl _))) (by simp))
    have HS2 := Lib.hid (fun W (h : Below w6.heap.size w6 W) => sameInts_any [] _ _ W (HO5.out.below (bth X6.out h (Nat.le_refl _))) (HO6.out.below h) (by simp))
    clear c0 c1
    go_wp2_with fail
    refine HS1.out.mono ?_
    rintro e w7 ⟨rfl, hb7⟩
    have X7 := Lib.hid hb7
    have K7 := Lib.hid (bth K6.out hb7 (Nat.le_refl _))
    clear hb7
    go_wp2_with fail
    refine (HS2.out w7 X7.out).mono ?_
    rintro e w8 ⟨rfl, hb8⟩
    have X8 := Lib.hid (bth X6.out (bth X7.out hb8 (Nat.le_refl _)) (Nat.le_refl _))
    have K8 := Lib.hid (bth K7.out hb8 (Nat.le_refl _))
    clear hb8
    have KZ := Lib.hid (bth KW2.out K8.out (Nat.le_refl _))
    go_wp2_with fail
    refine (HD2.out _ KZ.out).mono ?_
    rintro e z1 ⟨ztv, ts2, zx, zy, rfl, hown2, hb21⟩
    have HRV2 := Lib.hid (RowV.of_own hown2)
    obtain ⟨tm2, tc2, hz⟩ := own_slice hown2
    subst hz
    have KZ1 := Lib.hid (bth KZ.out hb21 (Nat.le_refl _))
    have HC1 := Lib.hid (implWith_any ts2 zx zy _ z1 HRV2.out)
    have HC2 := Lib.hid (fun W (h : Below z1.heap.size z1 W) => specWith_any ts2 zx zy _ W (HRV2.out.below h))
    have hts2 := withA_short ts2 zx zy
    clear hown2 hb21
    generalize withB ts2 zx zy = b2 at *
    generalize withA ts2 zx zy = R2 at *
    have hbb2 : (b2 == b2) = true := by simp
    go_wp2_with fail
    refine HC1.out.mono ?_
    rintro e z3 ⟨q3, rfl, hq3, hbz3⟩
    have HQ3 := Lib.hid (RowV.of_own hq3)
    have KZ3 := Lib.hid (bth KZ1.out hbz3 (Nat.le_refl _))
    have HC3 := Lib.hid (HC2.out z3 hbz3)
    obtain ⟨qa3, qc3, hz⟩ := own_slice hq3
    subst hz
    clear hq3 hbz3 HC1 HC2
    go_wp2_with fail
    refine HC3.out.mono ?_
    rintro e z4 ⟨q4, rfl, hq4, hbz4⟩
    have HQ4 := Lib.hid (RowV.of_own hq4)
    have HS4 := Lib.hid (sameInts_any R2 _ _ z4 (HQ3.out.below hbz4) (RowV.of_own hq4) hts2)
    have KZ4 := Lib.hid (bth KZ3.out hbz4 (Nat.le_refl _))
    obtain ⟨qa4, qc4, hz⟩ := own_slice hq4
    subst hz
    clear hq4 hbz4 HC3
    generalize R2.length = m2 at *
    go_wp2_with fail
    refine HS4.out.mono ?_
    rintro e z5 ⟨rfl, hbz5⟩
    have KZ5 := Lib.hid (bth KZ4.out hbz5 (Nat.le_refl _))
    clear hbz5
    go_wp2_with fail
    go_ret
    exact ⟨rfl, KZ5.out⟩
  · have HI3 := Lib.hid (fun W (h : Below w2.heap.size w2 W) => implSlack_any ls l ts _ _ W (HGW.out W h) (HRW.out W h))
    have HI4 := Lib.hid (fun W (h : Below w2.heap.size w2 W) => specSlack_any ls l ts _ _ W (HGW.out W h) (HRW.out W h))
    have HI5 := Lib.hid (fun W (h : Below w2.heap.size w2 W) => implLatest_any ls l ts _ _ W (HGW.out W h) (HRW.out W h))
    have HI6 := Lib.hid (fun W (h : Below w2.heap.size w2 W) => specLatest_any ls l ts _ _ W (HGW.out W h) (HRW.out W h))
    rw [hT] at HI3 HI4 HI5 HI6 hsh1 hsh2
    obtain ⟨hG, hTT⟩ := timesG_yes hT
    have HG := Lib.hid hG
    have HTM := Lib.hid hTT
    have hea := end_at hG.toP hTT
    have HTL := Lib.hid hTT.len
    have HSL := Lib.hid (fun y hy => slack_at (y := y) hG.toP hTT hy)
    have HIW := Lib.hid (fun W (h : Below w2.heap.size w2 W) => implWay_any ls l ts _ _ W (HGW.out W h) (HRW.out W h))
    rw [hT] at HIW
    obtain ⟨W1, hW1, hwa⟩ : ∃ W1, wayT ls l ts = W1 ∧ (∀ (i : Nat) (hi : i < W1.length), (0 ≤ W1[i] ∧ W1[i] < (ls.length : Int)) ∧ atI (slackL ls l ts) W1[i] = 0) := ⟨_, rfl, fun i hi => ⟨(way_at hG.toP hTT i hi).1, way_tight hG.toP hTT i hi⟩⟩
    obtain ⟨E1, hE1⟩ : ∃ E1, endT (tailsL ls l ts) = E1 := ⟨_, rfl⟩
    have HTWO : Hid (∀ (k : Nat), k < ls.length → withB ts (k : Int) (atI (slackL ls l ts) (k : Int)) = true → timesG ls l (ts.set k (atI ts (k : Int) + atI (slackL ls l ts) (k : Int))) = true ∧ endT (tailsL ls l (ts.set k (atI ts (k : Int) + atI (slackL ls l ts) (k : Int)))) = E1) := fun k hk h => by
      obtain ⟨h1, h2⟩ := withB_late hG hTT hk h
      exact ⟨h1, by rw [← hE1]; exact end_slack hG.toP hTT hk h2⟩
    have HTHR : Hid (∀ (k : Nat), k < ls.length → withB ts (k : Int) (atI (slackL ls l ts) (k : Int) + 1) = true → timesG ls l (ts.set k (atI ts (k : Int) + (atI (slackL ls l ts) (k : Int) + 1))) = true ∧ endT (tailsL ls l (ts.set k (atI ts (k : Int) + (atI (slackL ls l ts) (k : Int) + 1)))) = E1 + 1) := fun k hk h => by
      obtain ⟨h1, h2⟩ := withB_late hG hTT hk h
      exact ⟨h1, by rw [← hE1]; exact end_more hG.toP hTT hk h2⟩
    rw [show ifL true (slackL ls l ts) = slackL ls l ts from rfl] at HI3 HI4 hsh1
    rw [show ifL true (latestL ls l ts) = latestL ls l ts from rfl] at HI5 HI6 hsh2
    rw [show ifN true (endT (tailsL ls l ts)) = E1 from hE1] at HI5 HI6 HIW
    rw [show ifL true (wayT ls l ts) = W1 from hW1] at HIW
    rw [hE1] at hea
    have HWA := Lib.hid hwa
    have HLL := Lib.hid (slackL_len ls l ts)
    clear hG hTT hW1 hE1 hwa
    clear hT
    go_upto_region 4 with fail
    rw [← HW2.out]
    go_wp2_with fail
    refine (HI3.out w2 K2.out).mono ?_
    rintro e w3 ⟨v3, rfl, ho3', hb3⟩
    have HO3 := Lib.hid (RowV.of_own ho3')
    have K3 := Lib.hid (bth K2.out hb3 (Nat.le_refl _))
    obtain ⟨a3, k3, hv3⟩ := own_slice ho3'
    subst hv3
    have X3 := Lib.hid hb3
    clear ho3' hb3 c0 c1
    obtain ⟨c0, c1⟩ := (P2.out.below K3.out hsz2).cells
    go_wp2_with fail
    refine (HI4.out w3 K3.out).mono ?_
    rintro e w4 ⟨v4, rfl, ho4', hb4⟩
    have HO4 := Lib.hid (RowV.of_own ho4')
    have K4 := Lib.hid (bth K3.out hb4 (Nat.le_refl _))
    obtain ⟨a4, k4, hv4⟩ := own_slice ho4'
    subst hv4
    have X4 := Lib.hid hb4
    clear ho4' hb4 c0 c1
    obtain ⟨c0, c1⟩ := (P2.out.below K4.out hsz2).cells
    go_wp2_with fail
    refine (HI5.out w4 K4.out).mono ?_
    rintro e w5 ⟨v5, rfl, ho5', hb5⟩
    have HO5 := Lib.hid (RowV.of_own ho5')
    have K5 := Lib.hid (bth K4.out hb5 (Nat.le_refl _))
    obtain ⟨a5, k5, hv5⟩ := own_slice ho5'
    subst hv5
    have X5 := Lib.hid hb5
    clear ho5' hb5 c0 c1
    obtain ⟨c0, c1⟩ := (P2.out.below K5.out hsz2).cells
    go_wp2_with fail
    refine (HI6.out w5 K5.out).mono ?_
    rintro e w6 ⟨v6, rfl, ho6', hb6⟩
    have HO6 := Lib.hid (RowV.of_own ho6')
    have K6 := Lib.hid (bth K5.out hb6 (Nat.le_refl _))
    obtain ⟨a6, k6, hv6⟩ := own_slice ho6'
    subst hv6
    have X6 := Lib.hid hb6
    clear ho6' hb6 c0 c1
    obtain ⟨c0, c1⟩ := (P2.out.below K6.out hsz2).cells
    have HS1 := Lib.hid (sameInts_any (slackL ls l ts) _ _ w6 (HO3.out.below (bth X4.out (bth X5.out X6.out (Nat.le_refl _)) (Nat.le_refl _))) (HO4.out.below (bth X5.out X6.out (Nat.le_refl _))) hsh1)
    have HS2 := Lib.hid (fun W (h : Below w6.heap.size w6 W) => sameInts_any (latestL ls l ts) _ _ W (HO5.out.below (bth X6.out h (Nat.le_refl _))) (HO6.out.below h) hsh2)
    clear c0 c1
    go_wp2_with fail
    refine HS1.out.mono ?_
    rintro e w7 ⟨rfl, hb7⟩
    have X7 := Lib.hid hb7
    have K7 := Lib.hid (bth K6.out hb7 (Nat.le_refl _))
    clear hb7
    go_wp2_with fail
    refine (HS2.out w7 X7.out).mono ?_
    rintro e w8 ⟨rfl, hb8⟩
    have X8 := Lib.hid (bth X6.out (bth X7.out hb8 (Nat.le_refl _)) (Nat.le_refl _))
    have K8 := Lib.hid (bth K7.out hb8 (Nat.le_refl _))
    clear hb8
    have H3 := Lib.hid (HO3.out.below (bth X4.out (bth X5.out X8.out (Nat.le_refl _)) (Nat.le_refl _)))
    have KW8 := Lib.hid (bth KW2.out K8.out (Nat.le_refl _))
    obtain ⟨x3, y3, hx3, hy31, hy32, hw3⟩ := H3.out.ints
    injection hx3 with e1 e3 e2
    clear e3
    subst e1 e2
    unfold maxLen at hy32
    have H3T := Lib.hid hw3
    have P8 := Lib.hid (P2.out.below K8.out hsz2)
    have hsz8 := Nat.lt_of_lt_of_le hsz2 K8.out.size
    have h10 := HG.out.high
    have hlow := HG.out.low
    have hway : W1.length ≤ 1000 ∨ True := .inr trivial
    clear hw3 hsh1 hsh2 hway
    -- a task
    go_wp2_with fail
    refine (HNO.out w8 KW8.out).mono ?_
    rintro e w9 ⟨z, rfl, hz0, rfl⟩
    have htl : ts.length = ls.length := HTL.out
    have hd0 := Int.emod_nonneg z (b := (ts.length : Int)) (by omega)
    have hd1 := Int.emod_lt_of_pos z (b := (ts.length : Int)) (by omega)
    obtain ⟨kn, hkn⟩ : ∃ kn : Nat, z % (ts.length : Int) = (kn : Int) := ⟨(z % (ts.length : Int)).toNat, by omega⟩
    have hkl : kn < ls.length := by omega
    have hkz : (kn : Int) < ((slackL ls l ts).length : Int) := by rw [HLL.out]; omega
    have hks : kn < (slackL ls l ts).length := by rw [HLL.out]; exact hkl
    have hnz : ((ts.length : Int) == 0) = false := by simp only [beq_eq_false_iff_ne, ne_eq]; omega
    have hnz2 : ¬ (ts.length : Int) = 0 := by omega
    obtain ⟨g3, o3, hg3, hl3, hc3⟩ := H3T.out kn hks
    subst hg3
    have HCS : Hid (∀ W, Below w9.heap.size w9 W → W.cell? ⟨g3, o3 + kn, none⟩ = some (.int .i64 (atI (slackL ls l ts) (kn : Int)))) := fun W h => by rw [h.cell (p := ⟨g3, o3 + kn, none⟩) hl3, hc3, atI_get hks]
    have hsk := HSL.out (kn : Int) (by omega)
    have hs0 := hsk.2.1
    have hs1 := hsk.2.2
    have hadd1 : IntKind.i64.wrap (atI (slackL ls l ts) (kn : Int) + 1) = atI (slackL ls l ts) (kn : Int) + 1 := by rw [IntKind.wrap_i64]; omega
    have HWI := Lib.hid (fun W (h : Below w9.heap.size w9 W) m => implWith_any ts (kn : Int) m _ W (HRW.out W (bth K8.out h (Nat.le_refl _))))
    have H2 := Lib.hid (HTWO.out kn hkl)
    have H3B := Lib.hid (HTHR.out kn hkl)
    have q3 := HCS.out w9 (Below.refl _ _)
    have htoN : ((kn : Int)).toNat = kn := by omega
    have HTN := Lib.hid htoN
    clear hc3 hsk htl htoN
    obtain ⟨sk, hsk⟩ : ∃ sk, atI (slackL ls l ts) (kn : Int) = sk := ⟨_, rfl⟩
    rw [hsk] at HCS hs0 hs1 hadd1 H2 H3B q3
    clear hsk
    go_wp2_with fail
    refine (HWI.out w9 (Below.refl _ _) sk).mono ?_
    rintro e y1 ⟨va, rfl, hoa, hba⟩
    have HA1 := Lib.hid (RowV.of_own hoa)
    have Y1 := Lib.hid hba
    have q3 := HCS.out y1 hba
    obtain ⟨aa, ka, hva⟩ := own_slice hoa
    subst hva
    clear hoa hba
    generalize (withA ts (kn : Int) sk).length = La at *
    go_wp2_with fail
    refine (HWI.out y1 Y1.out (sk + 1)).mono ?_
    rintro e y2 ⟨vb, rfl, hob, hbb⟩
    have HB1 := Lib.hid (RowV.of_own hob)
    have HA2 := Lib.hid (HA1.out.below hbb)
    have Y2 := Lib.hid (bth Y1.out hbb (Nat.le_refl _))
    obtain ⟨ab, kb, hvb⟩ := own_slice hob
    subst hvb
    clear hob hbb q3 HA1
    generalize (withA ts (kn : Int) (sk + 1)).length = Lb at *
    unfold withA at HA2 HB1
    rw [HTN.out] at HA2 HB1
    generalize withB ts (kn : Int) sk = B1 at *
    generalize withB ts (kn : Int) (sk + 1) = B2 at *
    have KE2 := Lib.hid (bth K8.out Y2.out (Nat.le_refl _))
    obtain ⟨c0, c1⟩ := (P8.out.below Y2.out hsz8).cells
    clear HWI
    cases B1 with
    | false =>
      have HBX := HB1
      cases B2 with
      | false =>
        -- the longest way has no slack
        go_wp2_with fail
        refine (HIW.out y2 KE2.out).mono ?_
        rintro e u1 ⟨vw, rfl, how, hbw⟩
        have HW := Lib.hid (RowV.of_own how).ints
        have U1 := Lib.hid (bth Y2.out hbw (Nat.le_refl _))
        obtain ⟨aw, kw, hvw⟩ := own_slice how
        subst hvw
        obtain ⟨aw', kw', hvw, _, hkw2, hwt⟩ := HW.out
        injection hvw with e1 e3 e2
        clear e3
        subst e1 e2
        unfold maxLen at hkw2
        have HWT := Lib.hid hwt
        clear how hbw hwt HW
        go_wp2_with fail
        go_loopw [173] (fun i wr => ∃ k : Nat, k ≤ W1.length ∧ i = .int .i64 (k : Int) ∧ Hid (Below u1.heap.size u1 wr)) (fun i _ => W1.length - (intOf i).toNat)
        case atStart => exact ⟨0, Nat.zero_le _, rfl, Below.refl _ _⟩
        case round =>
          obtain ⟨k, hk, rfl, HB⟩ := hrel
          by_cases hlt : k < W1.length
          · have hltz : (k : Int) < (W1.length : Int) := by omega
            obtain ⟨hxr, hxs⟩ := HWA.out k hlt
            obtain ⟨xn, hxn⟩ : ∃ xn : Nat, W1[k] = xn := ⟨W1[k].toNat, by omega⟩
            rw [hxn] at hxr hxs
            have hxk : xn < (slackL ls l ts).length := by rw [HLL.out]; omega
            obtain ⟨gw, ow, hgw, hlw, hcw⟩ := HWT.out k hlt
            subst hgw
            obtain ⟨g3', o3', hA, hl3', hc3'⟩ := H3T.out xn hxk
            obtain ⟨rfl, rfl⟩ := addr_inj hA
            have qw : wr.cell? ⟨gw, ow + k, none⟩ = some (.int .i64 (xn : Int)) := by rw [HB.out.cell (p := ⟨gw, ow + k, none⟩) hlw, hcw, hxn]
            have qs : wr.cell? ⟨g3, o3 + xn, none⟩ = some (.int .i64 0) := by rw [(bth U1.out HB.out (Nat.le_refl _)).cell (p := ⟨g3, o3 + xn, none⟩) hl3', hc3', ← atI_get hxk, hxs]
            have hx0 : decide ((xn : Int) < 0) = false := decide_eq_false (by omega)
            have hxz : (xn : Int) < ((slackL ls l ts).length : Int) := by omega
            have hx1 : decide ((xn : Int) ≥ ((slackL ls l ts).length : Int)) = false := decide_eq_false (by omega)
            clear hxs hcw hA hc3' hxn
            go_wp2_with fail
            go_roundw
            case rel => exact ⟨k + 1, by omega, by go_num, HB⟩
            case measure => simp [intOf]; omega
          · have HBQ := HB
            go_wp2_with fail
            go_loopw [195] (fun i wz => ∃ k : Nat, k ≤ (slackL ls l ts).length ∧ i = .int .i64 (k : Int) ∧ Hid (Below u1.heap.size u1 wz)) (fun i _ => (slackL ls l ts).length - (intOf i).toNat)
            case atStart => exact ⟨0, Nat.zero_le _, rfl, HBQ⟩
            case round =>
              clear HB HBQ
              obtain ⟨k, hk2, rfl, HB⟩ := hrel
              by_cases hlt2 : k < (slackL ls l ts).length
              · have hltz : (k : Int) < ((slackL ls l ts).length : Int) := by omega
                obtain ⟨g3', o3', hA, hl3', hc3'⟩ := H3T.out k hlt2
                obtain ⟨rfl, rfl⟩ := addr_inj hA
                have qs : wr.cell? ⟨g3, o3 + k, none⟩ = some (.int .i64 (atI (slackL ls l ts) (k : Int))) := by rw [(bth U1.out HB.out (Nat.le_refl _)).cell (p := ⟨g3, o3 + k, none⟩) hl3', hc3', atI_get hlt2]
                have hsk9 := (HSL.out (k : Int) (by have := HLL.out; omega)).2.1
                have hx0 : decide (atI (slackL ls l ts) (k : Int) < 0) = false := decide_eq_false (by omega)
                clear hA hc3' hsk9
                generalize atI (slackL ls l ts) (k : Int) = sv at *
                go_wp2_with fail
                go_roundw
                case rel => exact ⟨k + 1, by omega, by go_num, HB⟩
                case measure => simp [intOf]; omega
              · have KZ := Lib.hid (bth KW8.out (bth U1.out HB.out (Nat.le_refl _)) (Nat.le_refl _))
                go_wp2_with fail
                refine (HD2.out _ KZ.out).mono ?_
                rintro e z1 ⟨ztv, ts2, zx, zy, rfl, hown2, hb21⟩
                have HRV2 := Lib.hid (RowV.of_own hown2)
                obtain ⟨tm2, tc2, hz⟩ := own_slice hown2
                subst hz
                have KZ1 := Lib.hid (bth KZ.out hb21 (Nat.le_refl _))
                have HC1 := Lib.hid (implWith_any ts2 zx zy _ z1 HRV2.out)
                have HC2 := Lib.hid (fun W (h : Below z1.heap.size z1 W) => specWith_any ts2 zx zy _ W (HRV2.out.below h))
                have hts2 := withA_short ts2 zx zy
                clear hown2 hb21
                generalize withB ts2 zx zy = b2 at *
                generalize withA ts2 zx zy = R2 at *
                have hbb2 : (b2 == b2) = true := by simp
                go_wp2_with fail
                refine HC1.out.mono ?_
                rintro e z3 ⟨q3, rfl, hq3, hbz3⟩
                have HQ3 := Lib.hid (RowV.of_own hq3)
                have KZ3 := Lib.hid (bth KZ1.out hbz3 (Nat.le_refl _))
                have HC3 := Lib.hid (HC2.out z3 hbz3)
                obtain ⟨qa3, qc3, hz⟩ := own_slice hq3
                subst hz
                clear hq3 hbz3 HC1 HC2
                go_wp2_with fail
                refine HC3.out.mono ?_
                rintro e z4 ⟨q4, rfl, hq4, hbz4⟩
                have HQ4 := Lib.hid (RowV.of_own hq4)
                have HS4 := Lib.hid (sameInts_any R2 _ _ z4 (HQ3.out.below hbz4) (RowV.of_own hq4) hts2)
                have KZ4 := Lib.hid (bth KZ3.out hbz4 (Nat.le_refl _))
                obtain ⟨qa4, qc4, hz⟩ := own_slice hq4
                subst hz
                clear hq4 hbz4 HC3
                generalize R2.length = m2 at *
                go_wp2_with fail
                refine HS4.out.mono ?_
                rintro e z5 ⟨rfl, hbz5⟩
                have KZ5 := Lib.hid (bth KZ4.out hbz5 (Nat.le_refl _))
                clear hbz5
                go_wp2_with fail
                go_ret
                exact ⟨rfl, KZ5.out⟩
      | true =>
        have HL9 := implLatest_any ls l (ts.set kn (atI ts (kn : Int) + (sk + 1))) _ _ y2 (HGW.out y2 KE2.out) HBX.out
        rw [(H3B.out rfl).1, show ifN true (endT (tailsL ls l (ts.set kn (atI ts (kn : Int) + (sk + 1))))) = E1 + 1 from (H3B.out rfl).2] at HL9
        have HLQ := Lib.hid HL9
        have hadd9 : IntKind.i64.wrap (E1 + 1) = E1 + 1 := by rw [IntKind.wrap_i64]; omega
        have hne9 : ((E1 + 1) != (E1 + 1)) = false := by simp
        clear HL9
        go_wp2_with fail
        refine HLQ.out.mono ?_
        rintro e t2 ⟨vt, rfl, hot, hbt⟩
        have T2 := Lib.hid (bth Y2.out hbt (Nat.le_refl _))
        have KT2 := Lib.hid (bth KE2.out hbt (Nat.le_refl _))
        obtain ⟨at9, kt9, hvt⟩ := own_slice hot
        subst hvt
        clear hot hbt c0 c1
        obtain ⟨c0, c1⟩ := (P8.out.below T2.out hsz8).cells
        -- the longest way has no slack
        go_wp2_with fail
        refine (HIW.out t2 KT2.out).mono ?_
        rintro e u1 ⟨vw, rfl, how, hbw⟩
        have HW := Lib.hid (RowV.of_own how).ints
        have U1 := Lib.hid (bth T2.out hbw (Nat.le_refl _))
        obtain ⟨aw, kw, hvw⟩ := own_slice how
        subst hvw
        obtain ⟨aw', kw', hvw, _, hkw2, hwt⟩ := HW.out
        injection hvw with e1 e3 e2
        clear e3
        subst e1 e2
        unfold maxLen at hkw2
        have HWT := Lib.hid hwt
        clear how hbw hwt HW
        go_wp2_with fail
        go_loopw [173] (fun i wr => ∃ k : Nat, k ≤ W1.length ∧ i = .int .i64 (k : Int) ∧ Hid (Below u1.heap.size u1 wr)) (fun i _ => W1.length - (intOf i).toNat)
        case atStart => exact ⟨0, Nat.zero_le _, rfl, Below.refl _ _⟩
        case round =>
          obtain ⟨k, hk, rfl, HB⟩ := hrel
          by_cases hlt : k < W1.length
          · have hltz : (k : Int) < (W1.length : Int) := by omega
            obtain ⟨hxr, hxs⟩ := HWA.out k hlt
            obtain ⟨xn, hxn⟩ : ∃ xn : Nat, W1[k] = xn := ⟨W1[k].toNat, by omega⟩
            rw [hxn] at hxr hxs
            have hxk : xn < (slackL ls l ts).length := by rw [HLL.out]; omega
            obtain ⟨gw, ow, hgw, hlw, hcw⟩ := HWT.out k hlt
            subst hgw
            obtain ⟨g3', o3', hA, hl3', hc3'⟩ := H3T.out xn hxk
            obtain ⟨rfl, rfl⟩ := addr_inj hA
            have qw : wr.cell? ⟨gw, ow + k, none⟩ = some (.int .i64 (xn : Int)) := by rw [HB.out.cell (p := ⟨gw, ow + k, none⟩) hlw, hcw, hxn]
            have qs : wr.cell? ⟨g3, o3 + xn, none⟩ = some (.int .i64 0) := by rw [(bth U1.out HB.out (Nat.le_refl _)).cell (p := ⟨g3, o3 + xn, none⟩) hl3', hc3', ← atI_get hxk, hxs]
            have hx0 : decide ((xn : Int) < 0) = false := decide_eq_false (by omega)
            have hxz : (xn : Int) < ((slackL ls l ts).length : Int) := by omega
            have hx1 : decide ((xn : Int) ≥ ((slackL ls l ts).length : Int)) = false := decide_eq_false (by omega)
            clear hxs hcw hA hc3' hxn
            go_wp2_with fail
            go_roundw
            case rel => exact ⟨k + 1, by omega, by go_num, HB⟩
            case measure => simp [intOf]; omega
          · have HBQ := HB
            go_wp2_with fail
            go_loopw [195] (fun i wz => ∃ k : Nat, k ≤ (slackL ls l ts).length ∧ i = .int .i64 (k : Int) ∧ Hid (Below u1.heap.size u1 wz)) (fun i _ => (slackL ls l ts).length - (intOf i).toNat)
            case atStart => exact ⟨0, Nat.zero_le _, rfl, HBQ⟩
            case round =>
              clear HB HBQ
              obtain ⟨k, hk2, rfl, HB⟩ := hrel
              by_cases hlt2 : k < (slackL ls l ts).length
              · have hltz : (k : Int) < ((slackL ls l ts).length : Int) := by omega
                obtain ⟨g3', o3', hA, hl3', hc3'⟩ := H3T.out k hlt2
                obtain ⟨rfl, rfl⟩ := addr_inj hA
                have qs : wr.cell? ⟨g3, o3 + k, none⟩ = some (.int .i64 (atI (slackL ls l ts) (k : Int))) := by rw [(bth U1.out HB.out (Nat.le_refl _)).cell (p := ⟨g3, o3 + k, none⟩) hl3', hc3', atI_get hlt2]
                have hsk9 := (HSL.out (k : Int) (by have := HLL.out; omega)).2.1
                have hx0 : decide (atI (slackL ls l ts) (k : Int) < 0) = false := decide_eq_false (by omega)
                clear hA hc3' hsk9
                generalize atI (slackL ls l ts) (k : Int) = sv at *
                go_wp2_with fail
                go_roundw
                case rel => exact ⟨k + 1, by omega, by go_num, HB⟩
                case measure => simp [intOf]; omega
              · have KZ := Lib.hid (bth KW8.out (bth U1.out HB.out (Nat.le_refl _)) (Nat.le_refl _))
                go_wp2_with fail
                refine (HD2.out _ KZ.out).mono ?_
                rintro e z1 ⟨ztv, ts2, zx, zy, rfl, hown2, hb21⟩
                have HRV2 := Lib.hid (RowV.of_own hown2)
                obtain ⟨tm2, tc2, hz⟩ := own_slice hown2
                subst hz
                have KZ1 := Lib.hid (bth KZ.out hb21 (Nat.le_refl _))
                have HC1 := Lib.hid (implWith_any ts2 zx zy _ z1 HRV2.out)
                have HC2 := Lib.hid (fun W (h : Below z1.heap.size z1 W) => specWith_any ts2 zx zy _ W (HRV2.out.below h))
                have hts2 := withA_short ts2 zx zy
                clear hown2 hb21
                generalize withB ts2 zx zy = b2 at *
                generalize withA ts2 zx zy = R2 at *
                have hbb2 : (b2 == b2) = true := by simp
                go_wp2_with fail
                refine HC1.out.mono ?_
                rintro e z3 ⟨q3, rfl, hq3, hbz3⟩
                have HQ3 := Lib.hid (RowV.of_own hq3)
                have KZ3 := Lib.hid (bth KZ1.out hbz3 (Nat.le_refl _))
                have HC3 := Lib.hid (HC2.out z3 hbz3)
                obtain ⟨qa3, qc3, hz⟩ := own_slice hq3
                subst hz
                clear hq3 hbz3 HC1 HC2
                go_wp2_with fail
                refine HC3.out.mono ?_
                rintro e z4 ⟨q4, rfl, hq4, hbz4⟩
                have HQ4 := Lib.hid (RowV.of_own hq4)
                have HS4 := Lib.hid (sameInts_any R2 _ _ z4 (HQ3.out.below hbz4) (RowV.of_own hq4) hts2)
                have KZ4 := Lib.hid (bth KZ3.out hbz4 (Nat.le_refl _))
                obtain ⟨qa4, qc4, hz⟩ := own_slice hq4
                subst hz
                clear hq4 hbz4 HC3
                generalize R2.length = m2 at *
                go_wp2_with fail
                refine HS4.out.mono ?_
                rintro e z5 ⟨rfl, hbz5⟩
                have KZ5 := Lib.hid (bth KZ4.out hbz5 (Nat.le_refl _))
                clear hbz5
                go_wp2_with fail
                go_ret
                exact ⟨rfl, KZ5.out⟩
    | true =>
      have HL8 := implLatest_any ls l (ts.set kn (atI ts (kn : Int) + sk)) _ _ y2 (HGW.out y2 KE2.out) HA2.out
      rw [(H2.out rfl).1, show ifN true (endT (tailsL ls l (ts.set kn (atI ts (kn : Int) + sk)))) = E1 from (H2.out rfl).2] at HL8
      have HLP := Lib.hid HL8
      have hne8 : (E1 != E1) = false := by simp
      clear HL8
      go_wp2_with fail
      refine HLP.out.mono ?_
      rintro e t1 ⟨vs, rfl, hos, hbs⟩
      have T1 := Lib.hid (bth Y2.out hbs (Nat.le_refl _))
      have KT1 := Lib.hid (bth KE2.out hbs (Nat.le_refl _))
      have HBX := Lib.hid (HB1.out.below hbs)
      obtain ⟨as9, ks9, hvs⟩ := own_slice hos
      subst hvs
      clear hos hbs c0 c1
      obtain ⟨c0, c1⟩ := (P8.out.below T1.out hsz8).cells
      cases B2 with
      | false =>
        -- the longest way has no slack
        go_wp2_with fail
        refine (HIW.out t1 KT1.out).mono ?_
        rintro e u1 ⟨vw, rfl, how, hbw⟩
        have HW := Lib.hid (RowV.of_own how).ints
        have U1 := Lib.hid (bth T1.out hbw (Nat.le_refl _))
        obtain ⟨aw, kw, hvw⟩ := own_slice how
        subst hvw
        obtain ⟨aw', kw', hvw, _, hkw2, hwt⟩ := HW.out
        injection hvw with e1 e3 e2
        clear e3
        subst e1 e2
        unfold maxLen at hkw2
        have HWT := Lib.hid hwt
        clear how hbw hwt HW
        go_wp2_with fail
        go_loopw [173] (fun i wr => ∃ k : Nat, k ≤ W1.length ∧ i = .int .i64 (k : Int) ∧ Hid (Below u1.heap.size u1 wr)) (fun i _ => W1.length - (intOf i).toNat)
        case atStart => exact ⟨0, Nat.zero_le _, rfl, Below.refl _ _⟩
        case round =>
          obtain ⟨k, hk, rfl, HB⟩ := hrel
          by_cases hlt : k < W1.length
          · have hltz : (k : Int) < (W1.length : Int) := by omega
            obtain ⟨hxr, hxs⟩ := HWA.out k hlt
            obtain ⟨xn, hxn⟩ : ∃ xn : Nat, W1[k] = xn := ⟨W1[k].toNat, by omega⟩
            rw [hxn] at hxr hxs
            have hxk : xn < (slackL ls l ts).length := by rw [HLL.out]; omega
            obtain ⟨gw, ow, hgw, hlw, hcw⟩ := HWT.out k hlt
            subst hgw
            obtain ⟨g3', o3', hA, hl3', hc3'⟩ := H3T.out xn hxk
            obtain ⟨rfl, rfl⟩ := addr_inj hA
            have qw : wr.cell? ⟨gw, ow + k, none⟩ = some (.int .i64 (xn : Int)) := by rw [HB.out.cell (p := ⟨gw, ow + k, none⟩) hlw, hcw, hxn]
            have qs : wr.cell? ⟨g3, o3 + xn, none⟩ = some (.int .i64 0) := by rw [(bth U1.out HB.out (Nat.le_refl _)).cell (p := ⟨g3, o3 + xn, none⟩) hl3', hc3', ← atI_get hxk, hxs]
            have hx0 : decide ((xn : Int) < 0) = false := decide_eq_false (by omega)
            have hxz : (xn : Int) < ((slackL ls l ts).length : Int) := by omega
            have hx1 : decide ((xn : Int) ≥ ((slackL ls l ts).length : Int)) = false := decide_eq_false (by omega)
            clear hxs hcw hA hc3' hxn
            go_wp2_with fail
            go_roundw
            case rel => exact ⟨k + 1, by omega, by go_num, HB⟩
            case measure => simp [intOf]; omega
          · have HBQ := HB
            go_wp2_with fail
            go_loopw [195] (fun i wz => ∃ k : Nat, k ≤ (slackL ls l ts).length ∧ i = .int .i64 (k : Int) ∧ Hid (Below u1.heap.size u1 wz)) (fun i _ => (slackL ls l ts).length - (intOf i).toNat)
            case atStart => exact ⟨0, Nat.zero_le _, rfl, HBQ⟩
            case round =>
              clear HB HBQ
              obtain ⟨k, hk2, rfl, HB⟩ := hrel
              by_cases hlt2 : k < (slackL ls l ts).length
              · have hltz : (k : Int) < ((slackL ls l ts).length : Int) := by omega
                obtain ⟨g3', o3', hA, hl3', hc3'⟩ := H3T.out k hlt2
                obtain ⟨rfl, rfl⟩ := addr_inj hA
                have qs : wr.cell? ⟨g3, o3 + k, none⟩ = some (.int .i64 (atI (slackL ls l ts) (k : Int))) := by rw [(bth U1.out HB.out (Nat.le_refl _)).cell (p := ⟨g3, o3 + k, none⟩) hl3', hc3', atI_get hlt2]
                have hsk9 := (HSL.out (k : Int) (by have := HLL.out; omega)).2.1
                have hx0 : decide (atI (slackL ls l ts) (k : Int) < 0) = false := decide_eq_false (by omega)
                clear hA hc3' hsk9
                generalize atI (slackL ls l ts) (k : Int) = sv at *
                go_wp2_with fail
                go_roundw
                case rel => exact ⟨k + 1, by omega, by go_num, HB⟩
                case measure => simp [intOf]; omega
              · have KZ := Lib.hid (bth KW8.out (bth U1.out HB.out (Nat.le_refl _)) (Nat.le_refl _))
                go_wp2_with fail
                refine (HD2.out _ KZ.out).mono ?_
                rintro e z1 ⟨ztv, ts2, zx, zy, rfl, hown2, hb21⟩
                have HRV2 := Lib.hid (RowV.of_own hown2)
                obtain ⟨tm2, tc2, hz⟩ := own_slice hown2
                subst hz
                have KZ1 := Lib.hid (bth KZ.out hb21 (Nat.le_refl _))
                have HC1 := Lib.hid (implWith_any ts2 zx zy _ z1 HRV2.out)
                have HC2 := Lib.hid (fun W (h : Below z1.heap.size z1 W) => specWith_any ts2 zx zy _ W (HRV2.out.below h))
                have hts2 := withA_short ts2 zx zy
                clear hown2 hb21
                generalize withB ts2 zx zy = b2 at *
                generalize withA ts2 zx zy = R2 at *
                have hbb2 : (b2 == b2) = true := by simp
                go_wp2_with fail
                refine HC1.out.mono ?_
                rintro e z3 ⟨q3, rfl, hq3, hbz3⟩
                have HQ3 := Lib.hid (RowV.of_own hq3)
                have KZ3 := Lib.hid (bth KZ1.out hbz3 (Nat.le_refl _))
                have HC3 := Lib.hid (HC2.out z3 hbz3)
                obtain ⟨qa3, qc3, hz⟩ := own_slice hq3
                subst hz
                clear hq3 hbz3 HC1 HC2
                go_wp2_with fail
                refine HC3.out.mono ?_
                rintro e z4 ⟨q4, rfl, hq4, hbz4⟩
                have HQ4 := Lib.hid (RowV.of_own hq4)
                have HS4 := Lib.hid (sameInts_any R2 _ _ z4 (HQ3.out.below hbz4) (RowV.of_own hq4) hts2)
                have KZ4 := Lib.hid (bth KZ3.out hbz4 (Nat.le_refl _))
                obtain ⟨qa4, qc4, hz⟩ := own_slice hq4
                subst hz
                clear hq4 hbz4 HC3
                generalize R2.length = m2 at *
                go_wp2_with fail
                refine HS4.out.mono ?_
                rintro e z5 ⟨rfl, hbz5⟩
                have KZ5 := Lib.hid (bth KZ4.out hbz5 (Nat.le_refl _))
                clear hbz5
                go_wp2_with fail
                go_ret
                exact ⟨rfl, KZ5.out⟩
      | true =>
        have HL9 := implLatest_any ls l (ts.set kn (atI ts (kn : Int) + (sk + 1))) _ _ t1 (HGW.out t1 KT1.out) HBX.out
        rw [(H3B.out rfl).1, show ifN true (endT (tailsL ls l (ts.set kn (atI ts (kn : Int) + (sk + 1))))) = E1 + 1 from (H3B.out rfl).2] at HL9
        have HLQ := Lib.hid HL9
        have hadd9 : IntKind.i64.wrap (E1 + 1) = E1 + 1 := by rw [IntKind.wrap_i64]; omega
        have hne9 : ((E1 + 1) != (E1 + 1)) = false := by simp
        clear HL9
        go_wp2_with fail
        refine HLQ.out.mono ?_
        rintro e t2 ⟨vt, rfl, hot, hbt⟩
        have T2 := Lib.hid (bth T1.out hbt (Nat.le_refl _))
        have KT2 := Lib.hid (bth KT1.out hbt (Nat.le_refl _))
        obtain ⟨at9, kt9, hvt⟩ := own_slice hot
        subst hvt
        clear hot hbt c0 c1
        obtain ⟨c0, c1⟩ := (P8.out.below T2.out hsz8).cells
        -- the longest way has no slack
        go_wp2_with fail
        refine (HIW.out t2 KT2.out).mono ?_
        rintro e u1 ⟨vw, rfl, how, hbw⟩
        have HW := Lib.hid (RowV.of_own how).ints
        have U1 := Lib.hid (bth T2.out hbw (Nat.le_refl _))
        obtain ⟨aw, kw, hvw⟩ := own_slice how
        subst hvw
        obtain ⟨aw', kw', hvw, _, hkw2, hwt⟩ := HW.out
        injection hvw with e1 e3 e2
        clear e3
        subst e1 e2
        unfold maxLen at hkw2
        have HWT := Lib.hid hwt
        clear how hbw hwt HW
        go_wp2_with fail
        go_loopw [173] (fun i wr => ∃ k : Nat, k ≤ W1.length ∧ i = .int .i64 (k : Int) ∧ Hid (Below u1.heap.size u1 wr)) (fun i _ => W1.length - (intOf i).toNat)
        case atStart => exact ⟨0, Nat.zero_le _, rfl, Below.refl _ _⟩
        case round =>
          obtain ⟨k, hk, rfl, HB⟩ := hrel
          by_cases hlt : k < W1.length
          · have hltz : (k : Int) < (W1.length : Int) := by omega
            obtain ⟨hxr, hxs⟩ := HWA.out k hlt
            obtain ⟨xn, hxn⟩ : ∃ xn : Nat, W1[k] = xn := ⟨W1[k].toNat, by omega⟩
            rw [hxn] at hxr hxs
            have hxk : xn < (slackL ls l ts).length := by rw [HLL.out]; omega
            obtain ⟨gw, ow, hgw, hlw, hcw⟩ := HWT.out k hlt
            subst hgw
            obtain ⟨g3', o3', hA, hl3', hc3'⟩ := H3T.out xn hxk
            obtain ⟨rfl, rfl⟩ := addr_inj hA
            have qw : wr.cell? ⟨gw, ow + k, none⟩ = some (.int .i64 (xn : Int)) := by rw [HB.out.cell (p := ⟨gw, ow + k, none⟩) hlw, hcw, hxn]
            have qs : wr.cell? ⟨g3, o3 + xn, none⟩ = some (.int .i64 0) := by rw [(bth U1.out HB.out (Nat.le_refl _)).cell (p := ⟨g3, o3 + xn, none⟩) hl3', hc3', ← atI_get hxk, hxs]
            have hx0 : decide ((xn : Int) < 0) = false := decide_eq_false (by omega)
            have hxz : (xn : Int) < ((slackL ls l ts).length : Int) := by omega
            have hx1 : decide ((xn : Int) ≥ ((slackL ls l ts).length : Int)) = false := decide_eq_false (by omega)
            clear hxs hcw hA hc3' hxn
            go_wp2_with fail
            go_roundw
            case rel => exact ⟨k + 1, by omega, by go_num, HB⟩
            case measure => simp [intOf]; omega
          · have HBQ := HB
            go_wp2_with fail
            go_loopw [195] (fun i wz => ∃ k : Nat, k ≤ (slackL ls l ts).length ∧ i = .int .i64 (k : Int) ∧ Hid (Below u1.heap.size u1 wz)) (fun i _ => (slackL ls l ts).length - (intOf i).toNat)
            case atStart => exact ⟨0, Nat.zero_le _, rfl, HBQ⟩
            case round =>
              clear HB HBQ
              obtain ⟨k, hk2, rfl, HB⟩ := hrel
              by_cases hlt2 : k < (slackL ls l ts).length
              · have hltz : (k : Int) < ((slackL ls l ts).length : Int) := by omega
                obtain ⟨g3', o3', hA, hl3', hc3'⟩ := H3T.out k hlt2
                obtain ⟨rfl, rfl⟩ := addr_inj hA
                have qs : wr.cell? ⟨g3, o3 + k, none⟩ = some (.int .i64 (atI (slackL ls l ts) (k : Int))) := by rw [(bth U1.out HB.out (Nat.le_refl _)).cell (p := ⟨g3, o3 + k, none⟩) hl3', hc3', atI_get hlt2]
                have hsk9 := (HSL.out (k : Int) (by have := HLL.out; omega)).2.1
                have hx0 : decide (atI (slackL ls l ts) (k : Int) < 0) = false := decide_eq_false (by omega)
                clear hA hc3' hsk9
                generalize atI (slackL ls l ts) (k : Int) = sv at *
                go_wp2_with fail
                go_roundw
                case rel => exact ⟨k + 1, by omega, by go_num, HB⟩
                case measure => simp [intOf]; omega
              · have KZ := Lib.hid (bth KW8.out (bth U1.out HB.out (Nat.le_refl _)) (Nat.le_refl _))
                go_wp2_with fail
                refine (HD2.out _ KZ.out).mono ?_
                rintro e z1 ⟨ztv, ts2, zx, zy, rfl, hown2, hb21⟩
                have HRV2 := Lib.hid (RowV.of_own hown2)
                obtain ⟨tm2, tc2, hz⟩ := own_slice hown2
                subst hz
                have KZ1 := Lib.hid (bth KZ.out hb21 (Nat.le_refl _))
                have HC1 := Lib.hid (implWith_any ts2 zx zy _ z1 HRV2.out)
                have HC2 := Lib.hid (fun W (h : Below z1.heap.size z1 W) => specWith_any ts2 zx zy _ W (HRV2.out.below h))
                have hts2 := withA_short ts2 zx zy
                clear hown2 hb21
                generalize withB ts2 zx zy = b2 at *
                generalize withA ts2 zx zy = R2 at *
                have hbb2 : (b2 == b2) = true := by simp
                go_wp2_with fail
                refine HC1.out.mono ?_
                rintro e z3 ⟨q3, rfl, hq3, hbz3⟩
                have HQ3 := Lib.hid (RowV.of_own hq3)
                have KZ3 := Lib.hid (bth KZ1.out hbz3 (Nat.le_refl _))
                have HC3 := Lib.hid (HC2.out z3 hbz3)
                obtain ⟨qa3, qc3, hz⟩ := own_slice hq3
                subst hz
                clear hq3 hbz3 HC1 HC2
                go_wp2_with fail
                refine HC3.out.mono ?_
                rintro e z4 ⟨q4, rfl, hq4, hbz4⟩
                have HQ4 := Lib.hid (RowV.of_own hq4)
                have HS4 := Lib.hid (sameInts_any R2 _ _ z4 (HQ3.out.below hbz4) (RowV.of_own hq4) hts2)
                have KZ4 := Lib.hid (bth KZ3.out hbz4 (Nat.le_refl _))
                obtain ⟨qa4, qc4, hz⟩ := own_slice hq4
                subst hz
                clear hq4 hbz4 HC3
                generalize R2.length = m2 at *
                go_wp2_with fail
                refine HS4.out.mono ?_
                rintro e z5 ⟨rfl, hbz5⟩
                have KZ5 := Lib.hid (bth KZ4.out hbz5 (Nat.le_refl _))
                clear hbz5
                go_wp2_with fail
                go_ret
                exact ⟨rfl, KZ5.out⟩

end Go.Proofs.Ytgolhfmmlanmlaa
