/- The reference's clean paths (chapter 1), under a namespace of their own. -/
import Derived.Test.YtoahfhidekmodaaDoorPr
import Derived.Deep.LoopGhost
import Derived.Deep.DeepMust
import Derived.BigQuiet
import Derived.Lib.Hide
namespace Go.Proofs.YtoahfhidekmodaaDoor.C1
open Go.RowKit Pth

theorem infoS : (Tryd.prog.info? 9).map (fun i => (i.zero, i.size, i.bytes)) = some (some (.string ByteArray.empty), 1, 16) := by kernel_rfl
theorem ret_bool {a b : Bool} (h : a = b) : Ending.returned (.bool a) = .returned (.bool b) := by rw [h]

set_option maxHeartbeats 400000 in
theorem l1Rooted_any (s : ByteArray) (w : World) (hs : s.size ≤ maxLen) :
    Calls Tryd.prog 46 #[.string s] w fun e w' => e = .returned (.bool (rootedL s.data.toList)) ∧ w = w' := by
  unfold maxLen at hs
  by_cases h0 : 0 < s.size
  · have hr := rooted_pos h0
    have HR : Hid (rootedL s.data.toList = ((s[0].toNat : Int) == 47)) := hr
    clear hr
    go_enter Tryd.func46, Tryd.ntmps46
    go_wp2
    all_goals
      go_ret
      exact ⟨ret_bool (by rw [HR.out]), rfl⟩
  · have HR : Hid (rootedL s.data.toList = false) := rooted_nil (by omega)
    go_enter Tryd.func46, Tryd.ntmps46
    go_wp2
    all_goals
      go_ret
      exact ⟨ret_bool (by rw [HR.out]), rfl⟩


/-- Texts as cells. -/
def S (l : List (List UInt8)) : List Value := l.map fun x => .string ⟨x.toArray⟩
theorem S_len (l : List (List UInt8)) : (S l).length = l.length := by simp [S]
theorem S_snoc (l : List (List UInt8)) (x : List UInt8) : S (l ++ [x]) = S l ++ [.string ⟨x.toArray⟩] := by simp [S]

/-- A list of texts is handed back in memory of the call's own. -/
def RowPost (B : Nat) (l : List (List UInt8)) (w : World) (e : Ending) (w' : World) : Prop :=
  ∃ v, e = .returned v ∧ w'.ownsRow B 9 1 v l.length (S l) ∧ Below B w w'

theorem extract_mid (s : ByteArray) (f k : Nat) : s.extract f k = ⟨(mid s.data.toList f k).toArray⟩ := by
  apply ByteArray.ext
  apply Array.ext'
  simp [mid, ByteArray.data_extract, List.extract_eq_take_drop, List.drop_take]

/-- A text put behind a list of the call's own. -/
theorem wpApp {ops : Array Oper} {rest : List Oper} {o : Oper} {a : Act} {Q : Exit → Act → World → Prop} {w : World} {z : ByteArray} (hgd : o.guard = none) (s x : Operand)
    (ho : o.op = .call { callee := .builtin .append, args := #[s, x], argTypes := #[29, 29] })
    (B : Nat) (v : Value) (l : List (List UInt8)) (y : List UInt8) (hz : z = ⟨y.toArray⟩) (hs : a.eval s = v) (hown : w.ownsRow B 9 1 v l.length (S l)) (N : Nat) (hx : a.eval x = .slice (some ⟨N, 0, none⟩) 1 1) (hN : N = w.heap.size)
    (hlen : l.length ≤ 1000000) (hB : B ≤ w.heap.size)
    (h : ∀ v' w', w'.ownsRow B 9 1 v' (l ++ [y]).length (S (l ++ [y])) → Below B w w' → w.grownBy w' v.ownBlock → wpList Tryd.prog ops Q rest (a.put o.dst v') w') :
    wpList Tryd.prog ops Q (o :: rest) a (w.alloc (.cells #[.string z] 9)) := by
  subst hz hN
  obtain ⟨i0, hi, hz0, hz1, hz2⟩ := info_parts infoS
  refine wpList_append_own _ hgd s x 29 ho B 9 i0 (.string ByteArray.empty) 1 16 Tryd.underlying29 hi hz0 hz1 hz2 rfl (by decide) v l.length (S l) hs (hown.alloc _) ⟨w.heap.size, 0, none⟩ 1 1 [.string ⟨y.toArray⟩] hx rfl (one_new w _ _) ?_ ?_ ?_ ?_ ?_
  · intro u hu; simp at hu; subst hu; rfl
  · unfold maxLen; omega
  · omega
  · simp; omega
  · intro v' w' h1 h2 _
    have hg : w.grownBy w' v.ownBlock := ⟨h2.os, h2.tape, h2.output, Nat.le_trans (by simp) h2.size, fun k hk hne => (h2.block k (by simp; omega) hne).trans (Below.heap_alloc _ _ _ hk)⟩
    refine h v' w' (by simpa [S_snoc] using h1) ?_ hg
    exact (Below.refl B w).grown hg hB (fun k hk => (hown.lt k hk).1)

set_option maxHeartbeats 1000000 in
theorem l1Split_any (s : ByteArray) (w : World) (hs : s.size ≤ 1000) :
    Calls Tryd.prog 52 #[.string s, .int .u8 47] w (RowPost w.heap.size (splitL s.data.toList) w) := by
  go_enter Tryd.func52, Tryd.ntmps52
  go_wp2
  go_loopw [5, 6, 7] (fun v f i wr => ∃ (acc : List (List UInt8)) (a k : Nat), a ≤ k ∧ k ≤ s.size ∧ acc.length ≤ k ∧ f = .int .i64 a ∧ i = .int .i64 k ∧ wr.ownsRow w.heap.size 9 1 v acc.length (S acc) ∧ Below w.heap.size w wr ∧
     Hid (splitL s.data.toList = acc ++ splitAux (mid s.data.toList a k).reverse (s.data.toList.drop k))) (fun _ _ i _ => s.size - (intOf i).toNat)
  case atStart => exact ⟨[], 0, 0, Nat.le_refl _, Nat.zero_le _, by simp, rfl, rfl, World.ownsRow_nil _ _ _ _, Below.refl _ _, split_start s⟩
  case round =>
    obtain ⟨acc, a, k, hak, hk, hal, rfl, rfl, hown, hb, HS⟩ := hrel
    have hbs := hb.size
    by_cases hlt : k < s.size
    · by_cases hc : s[k].toNat = 47
      · have hc1 : ((s[k].toNat : Int) == 47) = true := by simp [hc]
        have HC : Hid (s[k].toNat = 47) := hc
        clear hc
        go_wp2_with (at_builtin; go_must (refine wpApp rfl _ _ rfl w.heap.size _ acc (mid s.data.toList a k) (extract_mid s a k) rfl hown _ rfl rfl (by omega) hbs ?_); intro v' w2 hown2 hb2 hg2)
        go_roundw
        case rel => exact ⟨acc ++ [mid s.data.toList a k], k + 1, k + 1, by omega, by omega, by simp; omega, by go_num, by go_num, hown2, hb.trans hb2, split_slash hlt HC.out HS.out⟩
        case measure => simp [intOf]; omega
      · have hc1 : ((s[k].toNat : Int) == 47) = false := by simp; omega
        have HC : Hid (¬ s[k].toNat = 47) := hc
        clear hc
        go_wp2_with fail
        go_roundw
        case rel => exact ⟨acc, a, k + 1, by omega, by omega, by omega, rfl, by go_num, hown, hb, split_other hak hlt HC.out HS.out⟩
        case measure => simp [intOf]; omega
    · go_wp2_with (at_builtin; refine wpApp rfl _ _ rfl w.heap.size _ acc (mid s.data.toList a s.size) (extract_mid s a s.size) rfl hown _ rfl rfl (by omega) hbs ?_; intro v' w2 hown2 hb2 hg2)
      go_ret
      exact ⟨_, rfl, by rw [split_end (k := k) (by omega) HS.out]; exact hown2, hb.trans hb2⟩

theorem S_at {l : List (List UInt8)} {k : Nat} (hk : k < l.length) : (S l)[k]? = some (.string ⟨(l[k]).toArray⟩) := by
  simp [S, hk]

theorem own_at {w : World} {B n : Nat} {v : Value} {l : List (List UInt8)} (h : w.ownsRow B 9 1 v n (S l)) (k : Nat) (hk : k < l.length) :
    ∃ g cap, v = .slice (some ⟨g, 0, none⟩) n cap ∧ B ≤ g ∧ g < w.heap.size ∧ n ≤ cap ∧ cap ≤ maxLen ∧ w.cell? ⟨g, k, none⟩ = some (.string ⟨(l[k]).toArray⟩) := by
  have hn : n = l.length := by have := h.1; rw [S_len] at this; omega
  rcases h.2 with ⟨_, h0⟩ | ⟨g, cap, cur, hv, hB, hh, hnc, hcm, _⟩
  · omega
  · refine ⟨g, cap, hv, hB, lt_of_block hh, hnc, hcm, ?_⟩
    have := h.cells (g := g) (by rw [hv]; rfl) k _ (S_at hk)
    have e : (⟨g, 0, none⟩ : Addr).add k = ⟨g, k, none⟩ := by unfold Addr.add; split <;> simp_all
    rw [e] at this
    exact this

theorem own_pop {w : World} {B g c : Nat} {a : List (List UInt8)} {q : List UInt8} (h : w.ownsRow B 9 1 (.slice (some ⟨g, 0, none⟩) (a.length + 1) c) (a.length + 1) (S (a ++ [q]))) :
    w.ownsRow B 9 1 (.slice (some ⟨g, 0, none⟩) a.length c) a.length (S a) := by
  rcases h.2 with ⟨h0, _⟩ | ⟨g', cap', cur, hv, hB, hh, hn, hcap, hsz, htake⟩
  · cases h0
  · cases hv
    refine ⟨by rw [S_len]; omega, .inr ⟨g, c, cur, rfl, hB, hh, by omega, hcap, hsz, ?_⟩⟩
    have h3 : (cur.toList.take ((a.length + 1) * 1)).take (a.length * 1) = (S (a ++ [q])).take (a.length * 1) := by rw [htake]
    rw [List.take_take, Nat.min_eq_left (by omega)] at h3
    rw [h3, S_snoc, Nat.mul_one]
    have e : a.length = (S a).length := (S_len a).symm
    rw [e]
    simp

theorem l1Rooted_eq {b : Bool} (s : ByteArray) (w : World) (hs : s.size ≤ 1000) (hb : Hid (rootedL s.data.toList = b)) :
    Calls Tryd.prog 46 #[.string s] w fun e w' => e = .returned (.bool b) ∧ w = w' := by
  have h := l1Rooted_any s w (by unfold maxLen; omega)
  rw [hb.out] at h
  exact h

theorem own_base {w : World} {B B' n : Nat} {v : Value} {xs : List Value} (h : w.ownsRow B 9 1 v n xs) (hB : B' ≤ B) : w.ownsRow B' 9 1 v n xs := by
  refine ⟨h.1, ?_⟩
  rcases h.2 with h0 | ⟨g, cap, cur, hv, hg, r⟩
  · exact .inl h0
  · exact .inr ⟨g, cap, cur, hv, by omega, r⟩

/-- The last one of a list, where it has one. -/
theorem last_of (acc : List (List UInt8)) : acc = [] ∨ ∃ a q, acc = a ++ [q] := by
  rcases List.eq_nil_or_concat acc with h | ⟨a, q, h⟩
  · exact .inl h
  · exact .inr ⟨a, q, by rw [h, List.concat_eq_append]⟩

theorem own_last {w : World} {B n : Nat} {v : Value} {a : List (List UInt8)} {q : List UInt8} (h : w.ownsRow B 9 1 v n (S (a ++ [q]))) :
    ∃ g cap, v = .slice (some ⟨g, 0, none⟩) n cap ∧ B ≤ g ∧ g < w.heap.size ∧ n ≤ cap ∧ cap ≤ maxLen ∧ w.cell? ⟨g, a.length, none⟩ = some (.string ⟨q.toArray⟩) := by
  have := own_at h a.length (by simp)
  simpa using this

set_option maxHeartbeats 2000000 in
theorem l1Parts_any (s : ByteArray) (w : World) (hs : s.size ≤ 1000) :
    Calls Tryd.prog 45 #[.string s] w (RowPost w.heap.size (partsL s.data.toList) w) := by
  go_enter Tryd.func45, Tryd.ntmps45
  go_wp2_with (go_at_call 52; refine (l1Split_any s _ hs).mono ?_)
  rintro e w1 ⟨v1, rfl, hown1, hb1⟩
  obtain ⟨ao, cap, rfl⟩ := own_slice hown1
  have hb1s := hb1.size
  have hls := split_len s
  go_wp2_with fail
  go_loopw [3, 10] (fun v i wr => ∃ (acc : List (List UInt8)) (k : Nat), k ≤ (splitL s.data.toList).length ∧ acc.length ≤ k ∧ i = .int .i64 k ∧ wr.ownsRow w1.heap.size 9 1 v acc.length (S acc) ∧ Below w1.heap.size w1 wr ∧
     Hid (partsL s.data.toList = partsFrom (rootedL s.data.toList) acc ((splitL s.data.toList).drop k))) (fun _ i _ => (splitL s.data.toList).length - (intOf i).toNat)
  case atStart => exact ⟨[], 0, Nat.zero_le _, by simp, rfl, World.ownsRow_nil _ _ _ _, Below.refl _ _, rfl⟩
  case round =>
    obtain ⟨acc, k, hk, hal, rfl, hown, hb, HS⟩ := hrel
    have hbs := hb.size
    by_cases hlt : k < (splitL s.data.toList).length
    · obtain ⟨g, cap', hv, hg1, hg2, _, _, hcell⟩ := own_at hown1 k hlt
      injection hv with hv1 hv2 hv3
      subst hv1
      have hcr : wr.cell? ⟨g, k, none⟩ = some (.string ⟨((splitL s.data.toList)[k]).toArray⟩) := by rw [hb.cell (p := ⟨g, k, none⟩) hg2]; exact hcell
      clear hv3 hcell
      have HS2 : Hid (partsL s.data.toList = partsFrom (rootedL s.data.toList) (pstep (rootedL s.data.toList) acc ((splitL s.data.toList)[k])) ((splitL s.data.toList).drop (k + 1))) := parts_step hlt rfl HS.out
      generalize (splitL s.data.toList)[k] = p at hcr HS2
      clear HS
      by_cases hp0 : p = [] ∨ p = [46]
      · rw [pstep_skip hp0] at HS2
        obtain ⟨sv, sc, hsv⟩ := own_slice hown
        subst hsv
        rcases hp0 with hp0 | hp0
        all_goals
          subst hp0
          go_wp2_with fail
          go_roundw
          case rel => exact ⟨acc, k + 1, by omega, by omega, by go_num, hown, hb, HS2⟩
          case measure => simp [intOf]; omega
      · by_cases hp1 : p = dots
        · subst hp1
          unfold dots at hcr
          clear hp0
          rcases last_of acc with hacc | ⟨a, q, hacc⟩
          · subst hacc
            obtain ⟨sv, sc, hsv⟩ := own_slice hown
            subst hsv
            rcases hr : rootedL s.data.toList with _ | _
            · rw [hr, pstep_up0] at HS2
              have HR : Hid (rootedL s.data.toList = false) := hr
              clear hr
              go_wp2_with (first | (go_at_call 46; refine (l1Rooted_eq s _ hs HR).mono ?_; rintro e w' ⟨rfl, rfl⟩) | (at_builtin; refine wpApp rfl _ _ rfl w1.heap.size _ [] dots rfl rfl hown _ rfl rfl (by simp) hbs ?_; intro v' w2 hown2 hb2 hg2))
              go_roundw
              case rel => exact ⟨[] ++ [dots], k + 1, by omega, by simp, by go_num, hown2, hb.trans hb2, HS2⟩
              case measure => simp [intOf]; omega
            · rw [hr, pstep_stay0] at HS2
              have HR : Hid (rootedL s.data.toList = true) := hr
              clear hr
              go_wp2_with (go_at_call 46; refine (l1Rooted_eq s _ hs HR).mono ?_; rintro e w' ⟨rfl, rfl⟩)
              go_roundw
              case rel => exact ⟨[], k + 1, by omega, by simp, by go_num, hown, hb, HS2⟩
              case measure => simp [intOf]; omega
          · subst hacc
            have hn : (a ++ [q]).length = a.length + 1 := by simp
            rw [hn] at hown hal
            obtain ⟨g2, c2, hsv, hg3, hg4, hc3, hc4, hlast⟩ := own_last hown
            unfold maxLen at hc4
            subst hsv
            clear hn
            by_cases hq : q = dots
            · subst hq
              unfold dots at hlast
              rcases hr : rootedL s.data.toList with _ | _
              · rw [hr, pstep_up] at HS2
                have HR : Hid (rootedL s.data.toList = false) := hr
                clear hr
                go_wp2_with (first | (go_at_call 46; refine (l1Rooted_eq s _ hs HR).mono ?_; rintro e w' ⟨rfl, rfl⟩) | (at_builtin; refine wpApp rfl _ _ rfl w1.heap.size _ (a ++ [dots]) dots rfl rfl (by rw [List.length_append]; exact hown) _ rfl rfl (by simp; omega) hbs ?_; intro v' w2 hown2 hb2 hg2))
                go_roundw
                case rel => exact ⟨(a ++ [dots]) ++ [dots], k + 1, by omega, by simp; omega, by go_num, hown2, hb.trans hb2, HS2⟩
                case measure => simp [intOf]; omega
              · rw [hr, pstep_stay] at HS2
                have HR : Hid (rootedL s.data.toList = true) := hr
                clear hr
                go_wp2_with (go_at_call 46; refine (l1Rooted_eq s _ hs HR).mono ?_; rintro e w' ⟨rfl, rfl⟩)
                go_roundw
                case rel => exact ⟨a ++ [dots], k + 1, by omega, by simp; omega, by go_num, by rw [List.length_append]; exact hown, hb, HS2⟩
                case measure => simp [intOf]; omega
            · rw [pstep_drop hq] at HS2
              have hq1 : ¬ q = [46, 46] := hq
              have hq2 : (q == [46, 46]) = false := by simpa using hq1
              clear hq
              go_wp2_with fail
              go_roundw
              case rel => exact ⟨a, k + 1, by omega, by omega, by go_num, own_pop hown, hb, HS2⟩
              case measure => simp [intOf]; omega
        · have hp2 : ¬ p = [] := fun h => hp0 (.inl h)
          have hp3 : ¬ p = [46] := fun h => hp0 (.inr h)
          rw [pstep_name hp2 hp3 hp1] at HS2
          have hp4 : p.isEmpty = false := by simpa using hp2
          have hp5 : (p == [46]) = false := by simpa using hp3
          have hp6 : (p == [46, 46]) = false := by simpa [dots] using hp1
          have hp7 : ¬ p = [46, 46] := hp1
          clear hp0 hp1
          obtain ⟨sv, sc, hsv⟩ := own_slice hown
          subst hsv
          go_wp2_with (at_builtin; refine wpApp rfl _ _ rfl w1.heap.size _ acc p rfl rfl hown _ rfl rfl (by omega) hbs ?_; intro v' w2 hown2 hb2 hg2)
          go_roundw
          case rel => exact ⟨acc ++ [p], k + 1, by omega, by simp; omega, by go_num, hown2, hb.trans hb2, HS2⟩
          case measure => simp [intOf]; omega
    · go_wp2_with fail
      go_ret
      exact ⟨_, rfl, by rw [parts_end (k := k) (by omega) HS.out]; exact own_base hown hb1s, hb1.trans (hb.mono hb1s)⟩

/-- How many bytes the parts and their slashes are. -/
def weigh : List (List UInt8) → Nat
  | [] => 0
  | p :: r => p.length + 1 + weigh r
theorem weigh_take (l : List (List UInt8)) (k : Nat) (h : k < l.length) : weigh (l.take (k + 1)) = weigh (l.take k) + l[k].length + 1 := by
  induction l generalizing k with
  | nil => simp at h
  | cons p r ih =>
    cases k with
    | zero => simp [weigh]
    | succ k =>
      have := ih k (by simpa using h)
      simp only [List.take_succ_cons, weigh, List.getElem_cons_succ] at this ⊢
      omega
theorem weigh_le (l : List (List UInt8)) (k : Nat) : weigh (l.take k) ≤ weigh l := by
  induction l generalizing k with
  | nil => simp
  | cons p r ih =>
    cases k with
    | zero => simp [weigh]
    | succ k => have := ih k; simp only [List.take_succ_cons, weigh]; omega
theorem glue_len (l : List (List UInt8)) : (glue l).length ≤ weigh l := by
  induction l with
  | nil => simp [glue, weigh]
  | cons p r ih =>
    cases r with
    | nil => simp [glue, weigh]
    | cons q t => simp only [glue, weigh, List.length_append, List.length_cons] at ih ⊢; omega
theorem glue_take (l : List (List UInt8)) (k : Nat) (h : k < l.length) : glue (l.take (k + 1)) = if k = 0 then l[k] else glue (l.take k) ++ 47 :: l[k] := by
  rw [List.take_succ_eq_append_getElem h, glue_snoc]
  by_cases hk : k = 0
  · subst hk; simp
  · rw [if_neg hk, if_neg]
    intro h0
    have := congrArg List.length h0
    rw [List.length_take, List.length_nil] at this
    omega

/-- A text is handed back; below B nothing has turned. -/
def TextPost (B : Nat) (t : List UInt8) (w : World) (e : Ending) (w' : World) : Prop := e = .returned (.string ⟨t.toArray⟩) ∧ Below B w w'

theorem cat0 (p : List UInt8) : Value.string (⟨#[]⟩ ++ ⟨p.toArray⟩) = .string ⟨p.toArray⟩ := by
  rw [show (⟨#[]⟩ : ByteArray) = ⟨([] : List UInt8).toArray⟩ from rfl, ByteArray.mk_append_mk]; rfl
theorem cat1 (p : List UInt8) : Ending.returned (Value.string (⟨#[47]⟩ ++ ⟨p.toArray⟩)) = .returned (.string ⟨(47 :: p).toArray⟩) := by
  rw [show (⟨#[47]⟩ : ByteArray) = ⟨([47] : List UInt8).toArray⟩ from rfl, ByteArray.mk_append_mk]; rfl
theorem cat2 (a p : List UInt8) : Value.string (⟨a.toArray⟩ ++ ⟨#[47]⟩ ++ ⟨p.toArray⟩) = .string ⟨(a ++ 47 :: p).toArray⟩ := by
  rw [show (⟨#[47]⟩ : ByteArray) = ⟨([47] : List UInt8).toArray⟩ from rfl, ByteArray.mk_append_mk, ByteArray.mk_append_mk, List.append_assoc]; rfl

set_option maxHeartbeats 1000000 in
theorem l1Join_any (l : List (List UInt8)) (b : Bool) (B : Nat) (v : Value) (w : World) (hown : w.ownsRow B 9 1 v l.length (S l)) (hl : l.length ≤ 1000000) (hl2 : weigh l ≤ 1000000) :
    Calls Tryd.prog 44 #[v, .bool b] w fun e w' => e = .returned (.string ⟨(joinL l b).toArray⟩) ∧ w = w' := by
  obtain ⟨sv, sc, hsv⟩ := own_slice hown
  subst hsv
  go_enter Tryd.func44, Tryd.ntmps44
  go_wp2
  go_loop [5, 10] (fun t i => ∃ (k : Nat), k ≤ l.length ∧ i = .int .i64 k ∧ t = .string ⟨(glue (l.take k)).toArray⟩) (fun _ i => l.length - (intOf i).toNat)
  case atStart => exact ⟨0, Nat.zero_le _, rfl, rfl⟩
  case round =>
    obtain ⟨k, hk, rfl, rfl⟩ := hrel
    have hw1 := weigh_le l k
    have hw2 := glue_len (l.take k)
    have hgl : (glue (l.take k)).length ≤ 1000000 := by omega
    clear hw2
    by_cases hlt : k < l.length
    · obtain ⟨g, cap', hv, hg1, hg2, _, _, hcell⟩ := own_at hown k hlt
      injection hv with hv1 hv2 hv3
      subst hv1
      have HG := Lib.hid (glue_take l k hlt)
      have hw3 := weigh_take l k hlt
      have hw4 := weigh_le l (k + 1)
      generalize l[k] = p at hcell HG hw3
      have hpl : p.length ≤ 1000000 := by omega
      clear hv2 hv3 hw1 hw3 hw4
      by_cases hk0 : k = 0
      · subst hk0
        have hgk : Hid ((glue (l.take 1)) = p) := HG.out
        have g0 : glue (l.take 0) = [] := rfl
        rw [g0]
        clear HG g0 hgl
        go_wp2
        go_round
        case rel => exact ⟨1, by omega, rfl, by rw [hgk.out]; exact cat0 p⟩
        case measure => simp [intOf]; omega
      · have hgk : Hid ((glue (l.take (k + 1))) = glue (l.take k) ++ 47 :: p) := by have := HG.out; rw [if_neg hk0] at this; exact this
        have hk1 : 0 < k := by omega
        clear HG hk0
        go_wp2
        go_round
        case rel => exact ⟨k + 1, by omega, by go_num, by rw [hgk.out]; exact cat2 _ p⟩
        case measure => simp [intOf]; omega
    · have hkl : l.take k = l := List.take_of_length_le (by omega)
      rw [hkl] at hgl ⊢
      clear hkl hw1
      rcases b with _ | _
      · by_cases h0 : glue l = []
        · have HJ : Hid (joinL l false = [46]) := by simp [Hid, joinL, h0]
          rw [h0]
          clear h0 hgl
          go_wp2
          go_ret
          exact ⟨by rw [HJ.out] <;> rfl, rfl⟩
        · have HJ : Hid (joinL l false = glue l) := by simp [Hid, joinL, h0]
          have h1 : (glue l).isEmpty = false := by simpa using h0
          go_wp2
          go_ret
          exact ⟨by rw [HJ.out] <;> rfl, rfl⟩
      · have HJ : Hid (joinL l true = 47 :: glue l) := by simp [Hid, joinL]
        go_wp2
        go_ret
        exact ⟨by rw [HJ.out]; exact cat1 _, rfl⟩

theorem weigh_append (a b : List (List UInt8)) : weigh (a ++ b) = weigh a + weigh b := by
  induction a with
  | nil => simp [weigh]
  | cons p r ih => simp only [List.cons_append, weigh, ih]; omega
theorem weigh_splitAux (l : List UInt8) : ∀ cur, weigh (splitAux cur l) = cur.length + l.length + 1 := by
  induction l with
  | nil => intro cur; simp [splitAux, weigh]
  | cons c r ih =>
    intro cur
    rw [splitAux]
    split
    · simp only [weigh, ih, List.length_reverse, List.length_cons, List.length_nil]; omega
    · rw [ih]; simp only [List.length_cons]; omega
theorem weigh_pstep (b : Bool) (acc : List (List UInt8)) (p : List UInt8) : weigh (pstep b acc p) ≤ weigh acc + p.length + 1 := by
  unfold pstep
  split
  · omega
  · split
    · split
      · rcases last_of acc with h | ⟨a, q, h⟩
        · rw [h]; simp [weigh]
        · rw [h, List.dropLast_concat, weigh_append]; omega
      · split
        · omega
        · rw [weigh_append]; simp [weigh]; omega
    · rw [weigh_append]; simp [weigh]; omega
theorem weigh_from (b : Bool) (r : List (List UInt8)) : ∀ acc, weigh (partsFrom b acc r) ≤ weigh acc + weigh r := by
  induction r with
  | nil => intro acc; simp [partsFrom, weigh]
  | cons p t ih =>
    intro acc
    rw [partsFrom]
    have := ih (pstep b acc p)
    have := weigh_pstep b acc p
    simp only [weigh]
    omega
theorem weigh_parts (s : ByteArray) : weigh (partsL s.data.toList) ≤ s.size + 1 := by
  have h := weigh_from (rootedL s.data.toList) (splitL s.data.toList) []
  have h2 := weigh_splitAux s.data.toList []
  rw [len_eq] at h2
  simp only [weigh, List.length_nil] at h h2
  unfold partsL
  unfold splitL at h ⊢
  omega
theorem len_weigh (l : List (List UInt8)) : l.length ≤ weigh l := by
  induction l with
  | nil => simp [weigh]
  | cons p r ih => simp only [weigh, List.length_cons]; omega

set_option maxHeartbeats 1000000 in
theorem l1Clean_any (s : ByteArray) (w : World) (hs : s.size ≤ 1000) :
    Calls Tryd.prog 37 #[.string s] w (TextPost w.heap.size (cleanL s.data.toList) w) := by
  have hw1 := weigh_parts s
  have hw2 := len_weigh (partsL s.data.toList)
  go_enter Tryd.func37, Tryd.ntmps37
  go_wp2_with fail
  refine (l1Parts_any s _ hs).mono ?_
  rintro e w1 ⟨v1, rfl, hown1, hb1⟩
  go_wp2_with fail
  refine (l1Rooted_any s _ (by unfold maxLen; omega)).mono ?_
  rintro e w' ⟨rfl, rfl⟩
  go_wp2_with fail
  refine (l1Join_any _ _ _ _ _ hown1 (by omega) (by omega)).mono ?_
  rintro e w' ⟨rfl, rfl⟩
  go_wp2_with fail
  go_ret
  exact ⟨rfl, hb1⟩

end Go.Proofs.YtoahfhidekmodaaDoor.C1
