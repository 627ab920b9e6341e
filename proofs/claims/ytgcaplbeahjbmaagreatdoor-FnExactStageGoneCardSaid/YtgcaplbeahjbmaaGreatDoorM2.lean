/- Texts of one claim, joined in their order. -/
import Derived.Deep.LoopGhost
import Derived.Deep.DeepMust
import Derived.BigQuiet
import Derived.Lib.Hide
import Derived.WalkKit
import Derived.Deep.Quiet
import Derived.StillTail
import Derived.Test.YtgcaplbeahjbmaaGreatDoorRows
import Derived.Deep.RegionHeld3
import Derived.Test.YtgcaplbeahjbmaaGreatDoorM1

/- The reference's clean paths (chapter 1), under a namespace of their own. -/
namespace Go.Proofs.YtgcaplbeahjbmaaGreatDoor.C1
open Go.RowKit Pth

theorem infoS : (Tryz.prog.info? 9).map (fun i => (i.zero, i.size, i.bytes)) = some (some (.string ByteArray.empty), 1, 16) := by kernel_rfl
theorem ret_bool {a b : Bool} (h : a = b) : Ending.returned (.bool a) = .returned (.bool b) := by rw [h]

set_option maxHeartbeats 400000 in
theorem l1Rooted_any (s : ByteArray) (w : World) (hs : s.size ≤ maxLen) :
    Calls Tryz.prog 59 #[.string s] w fun e w' => e = .returned (.bool (rootedL s.data.toList)) ∧ w = w' := by
  unfold maxLen at hs
  by_cases h0 : 0 < s.size
  · have hr := rooted_pos h0
    have HR : Hid (rootedL s.data.toList = ((s[0].toNat : Int) == 47)) := hr
    clear hr
    go_enter Tryz.func59, Tryz.ntmps59
    go_wp2
    all_goals
      go_ret
      exact ⟨ret_bool (by rw [HR.out]), rfl⟩
  · have HR : Hid (rootedL s.data.toList = false) := rooted_nil (by omega)
    go_enter Tryz.func59, Tryz.ntmps59
    go_wp2
    all_goals
      go_ret
      exact ⟨ret_bool (by rw [HR.out]), rfl⟩


/-- Texts as cells. -/
def S (l : List (List UInt8)) : List Value := l.map fun x => .string ⟨x.toArray⟩
theorem S_len (l : List (List UInt8)) : (S l).length = l.length := by simp [S]
theorem S_snoc (l : List (List UInt8)) (x : List UInt8) : S (l ++ [x]) = S l ++ [.string ⟨x.toArray⟩] := by simp [S]

/-- A list of texts is handed back in memory of the call's own. -/
def RowPost (B : Nat) (l : List (List UInt8)) (w : World) (e : Ending) (w' : World) : Prop :=
  ∃ v, e = .returned v ∧ w'.ownsRow B 9 1 v l.length (S l) ∧ Below B w w'

theorem extract_mid (s : ByteArray) (f k : Nat) : s.extract f k = ⟨(mid s.data.toList f k).toArray⟩ := by
  apply ByteArray.ext
  apply Array.ext'
  simp [mid, ByteArray.data_extract, List.extract_eq_take_drop, List.drop_take]

/-- A text put behind a list of the call's own. -/
theorem wpApp {ops : Array Oper} {rest : List Oper} {o : Oper} {a : Act} {Q : Exit → Act → World → Prop} {w : World} {z : ByteArray} (hgd : o.guard = none) (s x : Operand)
    (ho : o.op = .call { callee := .builtin .append, args := #[s, x], argTypes := #[23, 23] })
    (B : Nat) (v : Value) (l : List (List UInt8)) (y : List UInt8) (hz : z = ⟨y.toArray⟩) (hs : a.eval s = v) (hown : w.ownsRow B 9 1 v l.length (S l)) (N : Nat) (hx : a.eval x = .slice (some ⟨N, 0, none⟩) 1 1) (hN : N = w.heap.size)
    (hlen : l.length ≤ 1000000) (hB : B ≤ w.heap.size)
    (h : ∀ v' w', w'.ownsRow B 9 1 v' (l ++ [y]).length (S (l ++ [y])) → Below B w w' → w.grownBy w' v.ownBlock → wpList Tryz.prog ops Q rest (a.put o.dst v') w') :
    wpList Tryz.prog ops Q (o :: rest) a (w.alloc (.cells #[.string z] 9)) := by
  subst hz hN
  obtain ⟨i0, hi, hz0, hz1, hz2⟩ := info_parts infoS
  refine wpList_append_own _ hgd s x 23 ho B 9 i0 (.string ByteArray.empty) 1 16 Tryz.underlying23 hi hz0 hz1 hz2 rfl (by decide) v l.length (S l) hs (hown.alloc _) ⟨w.heap.size, 0, none⟩ 1 1 [.string ⟨y.toArray⟩] hx rfl (one_new w _ _) ?_ ?_ ?_ ?_ ?_
  · intro u hu; simp at hu; subst hu; rfl
  · unfold maxLen; omega
  · omega
  · simp; omega
  · intro v' w' h1 h2 _
    have hg : w.grownBy w' v.ownBlock := ⟨h2.os, h2.tape, h2.output, Nat.le_trans (by simp) h2.size, fun k hk hne => (h2.block k (by simp; omega) hne).trans (Below.heap_alloc _ _ _ hk)⟩
    refine h v' w' (by simpa [S_snoc] using h1) ?_ hg
    exact (Below.refl B w).grown hg hB (fun k hk => (hown.lt k hk).1)

set_option maxHeartbeats 1000000 in
theorem l1Split_any (s : ByteArray) (w : World) (hs : s.size ≤ 1000) :
    Calls Tryz.prog 66 #[.string s, .int .u8 47] w (RowPost w.heap.size (splitL s.data.toList) w) := by
  go_enter Tryz.func66, Tryz.ntmps66
  go_wp2
  go_loopw [5, 6, 7] (fun v f i wr => ∃ (acc : List (List UInt8)) (a k : Nat), a ≤ k ∧ k ≤ s.size ∧ acc.length ≤ k ∧ f = .int .i64 a ∧ i = .int .i64 k ∧ wr.ownsRow w.heap.size 9 1 v acc.length (S acc) ∧ Below w.heap.size w wr ∧
     Hid (splitL s.data.toList = acc ++ splitAux (mid s.data.toList a k).reverse (s.data.toList.drop k))) (fun _ _ i _ => s.size - (intOf i).toNat)
  case atStart => exact ⟨[], 0, 0, Nat.le_refl _, Nat.zero_le _, by simp, rfl, rfl, World.ownsRow_nil _ _ _ _, Below.refl _ _, split_start s⟩
  case round =>
    obtain ⟨acc, a, k, hak, hk, hal, rfl, rfl, hown, hb, HS⟩ := hrel
    have hbs := hb.size
    by_cases hlt : k < s.size
    · by_cases hc : s[k].toNat = 47
      · have hc1 : ((s[k].toNat : Int) == 47) = true := by simp [hc]
        have HC : Hid (s[k].toNat = 47) := hc
        clear hc
        go_wp2_with (at_builtin; go_must (refine wpApp rfl _ _ rfl w.heap.size _ acc (mid s.data.toList a k) (extract_mid s a k) rfl hown _ rfl rfl (by omega) hbs ?_); intro v' w2 hown2 hb2 hg2)
        go_roundw
        case rel => exact ⟨acc ++ [mid s.data.toList a k], k + 1, k + 1, by omega, by omega, by simp; omega, by go_num, by go_num, hown2, hb.trans hb2, split_slash hlt HC.out HS.out⟩
        case measure => simp [intOf]; omega
      · have hc1 : ((s[k].toNat : Int) == 47) = false := by simp; omega
        have HC : Hid (¬ s[k].toNat = 47) := hc
        clear hc
        go_wp2_with fail
        go_roundw
        case rel => exact ⟨acc, a, k + 1, by omega, by omega, by omega, rfl, by go_num, hown, hb, split_other hak hlt HC.out HS.out⟩
        case measure => simp [intOf]; omega
    · go_wp2_with (at_builtin; refine wpApp rfl _ _ rfl w.heap.size _ acc (mid s.data.toList a s.size) (extract_mid s a s.size) rfl hown _ rfl rfl (by omega) hbs ?_; intro v' w2 hown2 hb2 hg2)
      go_ret
      exact ⟨_, rfl, by rw [split_end (k := k) (by omega) HS.out]; exact hown2, hb.trans hb2⟩

theorem S_at {l : List (List UInt8)} {k : Nat} (hk : k < l.length) : (S l)[k]? = some (.string ⟨(l[k]).toArray⟩) := by
  simp [S, hk]

theorem own_at {w : World} {B n : Nat} {v : Value} {l : List (List UInt8)} (h : w.ownsRow B 9 1 v n (S l)) (k : Nat) (hk : k < l.length) :
    ∃ g cap, v = .slice (some ⟨g, 0, none⟩) n cap ∧ B ≤ g ∧ g < w.heap.size ∧ n ≤ cap ∧ cap ≤ maxLen ∧ w.cell? ⟨g, k, none⟩ = some (.string ⟨(l[k]).toArray⟩) := by
  have hn : n = l.length := by have := h.1; rw [S_len] at this; omega
  rcases h.2 with ⟨_, h0⟩ | ⟨g, cap, cur, hv, hB, hh, hnc, hcm, _⟩
  · omega
  · refine ⟨g, cap, hv, hB, lt_of_block hh, hnc, hcm, ?_⟩
    have := h.cells (g := g) (by rw [hv]; rfl) k _ (S_at hk)
    have e : (⟨g, 0, none⟩ : Addr).add k = ⟨g, k, none⟩ := by unfold Addr.add; split <;> simp_all
    rw [e] at this
    exact this

theorem own_pop {w : World} {B g c : Nat} {a : List (List UInt8)} {q : List UInt8} (h : w.ownsRow B 9 1 (.slice (some ⟨g, 0, none⟩) (a.length + 1) c) (a.length + 1) (S (a ++ [q]))) :
    w.ownsRow B 9 1 (.slice (some ⟨g, 0, none⟩) a.length c) a.length (S a) := by
  rcases h.2 with ⟨h0, _⟩ | ⟨g', cap', cur, hv, hB, hh, hn, hcap, hsz, htake⟩
  · cases h0
  · cases hv
    refine ⟨by rw [S_len]; omega, .inr ⟨g, c, cur, rfl, hB, hh, by omega, hcap, hsz, ?_⟩⟩
    have h3 : (cur.toList.take ((a.length + 1) * 1)).take (a.length * 1) = (S (a ++ [q])).take (a.length * 1) := by rw [htake]
    rw [List.take_take, Nat.min_eq_left (by omega)] at h3
    rw [h3, S_snoc, Nat.mul_one]
    have e : a.length = (S a).length := (S_len a).symm
    rw [e]
    simp

theorem l1Rooted_eq {b : Bool} (s : ByteArray) (w : World) (hs : s.size ≤ 1000) (hb : Hid (rootedL s.data.toList = b)) :
    Calls Tryz.prog 59 #[.string s] w fun e w' => e = .returned (.bool b) ∧ w = w' := by
  have h := l1Rooted_any s w (by unfold maxLen; omega)
  rw [hb.out] at h
  exact h

theorem own_base {w : World} {B B' n : Nat} {v : Value} {xs : List Value} (h : w.ownsRow B 9 1 v n xs) (hB : B' ≤ B) : w.ownsRow B' 9 1 v n xs := by
  refine ⟨h.1, ?_⟩
  rcases h.2 with h0 | ⟨g, cap, cur, hv, hg, r⟩
  · exact .inl h0
  · exact .inr ⟨g, cap, cur, hv, by omega, r⟩

/-- The last one of a list, where it has one. -/
theorem last_of (acc : List (List UInt8)) : acc = [] ∨ ∃ a q, acc = a ++ [q] := by
  rcases List.eq_nil_or_concat acc with h | ⟨a, q, h⟩
  · exact .inl h
  · exact .inr ⟨a, q, by rw [h, List.concat_eq_append]⟩

theorem own_last {w : World} {B n : Nat} {v : Value} {a : List (List UInt8)} {q : List UInt8} (h : w.ownsRow B 9 1 v n (S (a ++ [q]))) :
    ∃ g cap, v = .slice (some ⟨g, 0, none⟩) n cap ∧ B ≤ g ∧ g < w.heap.size ∧ n ≤ cap ∧ cap ≤ maxLen ∧ w.cell? ⟨g, a.length, none⟩ = some (.string ⟨q.toArray⟩) := by
  have := own_at h a.length (by simp)
  simpa using this

set_option maxHeartbeats 2000000 in
theorem l1Parts_any (s : ByteArray) (w : World) (hs : s.size ≤ 1000) :
    Calls Tryz.prog 58 #[.string s] w (RowPost w.heap.size (partsL s.data.toList) w) := by
  go_enter Tryz.func58, Tryz.ntmps58
  go_wp2_with (go_at_call 66; refine (l1Split_any s _ hs).mono ?_)
  rintro e w1 ⟨v1, rfl, hown1, hb1⟩
  obtain ⟨ao, cap, rfl⟩ := own_slice hown1
  have hb1s := hb1.size
  have hls := split_len s
  go_wp2_with fail
  go_loopw [3, 10] (fun v i wr => ∃ (acc : List (List UInt8)) (k : Nat), k ≤ (splitL s.data.toList).length ∧ acc.length ≤ k ∧ i = .int .i64 k ∧ wr.ownsRow w1.heap.size 9 1 v acc.length (S acc) ∧ Below w1.heap.size w1 wr ∧
     Hid (partsL s.data.toList = partsFrom (rootedL s.data.toList) acc ((splitL s.data.toList).drop k))) (fun _ i _ => (splitL s.data.toList).length - (intOf i).toNat)
  case atStart => exact ⟨[], 0, Nat.zero_le _, by simp, rfl, World.ownsRow_nil _ _ _ _, Below.refl _ _, rfl⟩
  case round =>
    obtain ⟨acc, k, hk, hal, rfl, hown, hb, HS⟩ := hrel
    have hbs := hb.size
    by_cases hlt : k < (splitL s.data.toList).length
    · obtain ⟨g, cap', hv, hg1, hg2, _, _, hcell⟩ := own_at hown1 k hlt
      injection hv with hv1 hv2 hv3
      subst hv1
      have hcr : wr.cell? ⟨g, k, none⟩ = some (.string ⟨((splitL s.data.toList)[k]).toArray⟩) := by rw [hb.cell (p := ⟨g, k, none⟩) hg2]; exact hcell
      clear hv3 hcell
      have HS2 : Hid (partsL s.data.toList = partsFrom (rootedL s.data.toList) (pstep (rootedL s.data.toList) acc ((splitL s.data.toList)[k])) ((splitL s.data.toList).drop (k + 1))) := parts_step hlt rfl HS.out
      generalize (splitL s.data.toList)[k] = p at hcr HS2
      clear HS
      by_cases hp0 : p = [] ∨ p = [46]
      · rw [pstep_skip hp0] at HS2
        obtain ⟨sv, sc, hsv⟩ := own_slice hown
        subst hsv
        rcases hp0 with hp0 | hp0
        all_goals
          subst hp0
          go_wp2_with fail
          go_roundw
          case rel => exact ⟨acc, k + 1, by omega, by omega, by go_num, hown, hb, HS2⟩
          case measure => simp [intOf]; omega
      · by_cases hp1 : p = dots
        · subst hp1
          unfold dots at hcr
          clear hp0
          rcases last_of acc with hacc | ⟨a, q, hacc⟩
          · subst hacc
            obtain ⟨sv, sc, hsv⟩ := own_slice hown
            subst hsv
            rcases hr : rootedL s.data.toList with _ | _
            · rw [hr, pstep_up0] at HS2
              have HR : Hid (rootedL s.data.toList = false) := hr
              clear hr
              go_wp2_with (first | (go_at_call 59; refine (l1Rooted_eq s _ hs HR).mono ?_; rintro e w' ⟨rfl, rfl⟩) | (at_builtin; refine wpApp rfl _ _ rfl w1.heap.size _ [] dots rfl rfl hown _ rfl rfl (by simp) hbs ?_; intro v' w2 hown2 hb2 hg2))
              go_roundw
              case rel => exact ⟨[] ++ [dots], k + 1, by omega, by simp, by go_num, hown2, hb.trans hb2, HS2⟩
              case measure => simp [intOf]; omega
            · rw [hr, pstep_stay0] at HS2
              have HR : Hid (rootedL s.data.toList = true) := hr
              clear hr
              go_wp2_with (go_at_call 59; refine (l1Rooted_eq s _ hs HR).mono ?_; rintro e w' ⟨rfl, rfl⟩)
              go_roundw
              case rel => exact ⟨[], k + 1, by omega, by simp, by go_num, hown, hb, HS2⟩
              case measure => simp [intOf]; omega
          · subst hacc
            have hn : (a ++ [q]).length = a.length + 1 := by simp
            rw [hn] at hown hal
            obtain ⟨g2, c2, hsv, hg3, hg4, hc3, hc4, hlast⟩ := own_last hown
            unfold maxLen at hc4
            subst hsv
            clear hn
            by_cases hq : q = dots
            · subst hq
              unfold dots at hlast
              rcases hr : rootedL s.data.toList with _ | _
              · rw [hr, pstep_up] at HS2
                have HR : Hid (rootedL s.data.toList = false) := hr
                clear hr
                go_wp2_with (first | (go_at_call 59; refine (l1Rooted_eq s _ hs HR).mono ?_; rintro e w' ⟨rfl, rfl⟩) | (at_builtin; refine wpApp rfl _ _ rfl w1.heap.size _ (a ++ [dots]) dots rfl rfl (by rw [List.length_append]; exact hown) _ rfl rfl (by simp; omega) hbs ?_; intro v' w2 hown2 hb2 hg2))
                go_roundw
                case rel => exact ⟨(a ++ [dots]) ++ [dots], k + 1, by omega, by simp; omega, by go_num, hown2, hb.trans hb2, HS2⟩
                case measure => simp [intOf]; omega
              · rw [hr, pstep_stay] at HS2
                have HR : Hid (rootedL s.data.toList = true) := hr
                clear hr
                go_wp2_with (go_at_call 59; refine (l1Rooted_eq s _ hs HR).mono ?_; rintro e w' ⟨rfl, rfl⟩)
                go_roundw
                case rel => exact ⟨a ++ [dots], k + 1, by omega, by simp; omega, by go_num, by rw [List.length_append]; exact hown, hb, HS2⟩
                case measure => simp [intOf]; omega
            · rw [pstep_drop hq] at HS2
              have hq1 : ¬ q = [46, 46] := hq
              have hq2 : (q == [46, 46]) = false := by simpa using hq1
              clear hq
              go_wp2_with fail
              go_roundw
              case rel => exact ⟨a, k + 1, by omega, by omega, by go_num, own_pop hown, hb, HS2⟩
              case measure => simp [intOf]; omega
        · have hp2 : ¬ p = [] := fun h => hp0 (.inl h)
          have hp3 : ¬ p = [46] := fun h => hp0 (.inr h)
          rw [pstep_name hp2 hp3 hp1] at HS2
          have hp4 : p.isEmpty = false := by simpa using hp2
          have hp5 : (p == [46]) = false := by simpa using hp3
          have hp6 : (p == [46, 46]) = false := by simpa [dots] using hp1
          have hp7 : ¬ p = [46, 46] := hp1
          clear hp0 hp1
          obtain ⟨sv, sc, hsv⟩ := own_slice hown
          subst hsv
          go_wp2_with (at_builtin; refine wpApp rfl _ _ rfl w1.heap.size _ acc p rfl rfl hown _ rfl rfl (by omega) hbs ?_; intro v' w2 hown2 hb2 hg2)
          go_roundw
          case rel => exact ⟨acc ++ [p], k + 1, by omega, by simp; omega, by go_num, hown2, hb.trans hb2, HS2⟩
          case measure => simp [intOf]; omega
    · go_wp2_with fail
      go_ret
      exact ⟨_, rfl, by rw [parts_end (k := k) (by omega) HS.out]; exact own_base hown hb1s, hb1.trans (hb.mono hb1s)⟩

/-- How many bytes the parts and their slashes are. -/
def weigh : List (List UInt8) → Nat
  | [] => 0
  | p :: r => p.length + 1 + weigh r
theorem weigh_take (l : List (List UInt8)) (k : Nat) (h : k < l.length) : weigh (l.take (k + 1)) = weigh (l.take k) + l[k].length + 1 := by
  induction l generalizing k with
  | nil => simp at h
  | cons p r ih =>
    cases k with
    | zero => simp [weigh]
    | succ k =>
      have := ih k (by simpa using h)
      simp only [List.take_succ_cons, weigh, List.getElem_cons_succ] at this ⊢
      omega
theorem weigh_le (l : List (List UInt8)) (k : Nat) : weigh (l.take k) ≤ weigh l := by
  induction l generalizing k with
  | nil => simp
  | cons p r ih =>
    cases k with
    | zero => simp [weigh]
    | succ k => have := ih k; simp only [List.take_succ_cons, weigh]; omega
theorem glue_len (l : List (List UInt8)) : (glue l).length ≤ weigh l := by
  induction l with
  | nil => simp [glue, weigh]
  | cons p r ih =>
    cases r with
    | nil => simp [glue, weigh]
    | cons q t => simp only [glue, weigh, List.length_append, List.length_cons] at ih ⊢; omega
theorem glue_take (l : List (List UInt8)) (k : Nat) (h : k < l.length) : glue (l.take (k + 1)) = if k = 0 then l[k] else glue (l.take k) ++ 47 :: l[k] := by
  rw [List.take_succ_eq_append_getElem h, glue_snoc]
  by_cases hk : k = 0
  · subst hk; simp
  · rw [if_neg hk, if_neg]
    intro h0
    have := congrArg List.length h0
    rw [List.length_take, List.length_nil] at this
    omega

/-- A text is handed back; below B nothing has turned. -/
def TextPost (B : Nat) (t : List UInt8) (w : World) (e : Ending) (w' : World) : Prop := e = .returned (.string ⟨t.toArray⟩) ∧ Below B w w'

theorem cat0 (p : List UInt8) : Value.string (⟨#[]⟩ ++ ⟨p.toArray⟩) = .string ⟨p.toArray⟩ := by
  rw [show (⟨#[]⟩ : ByteArray) = ⟨([] : List UInt8).toArray⟩ from rfl, ByteArray.mk_append_mk]; rfl
theorem cat1 (p : List UInt8) : Ending.returned (Value.string (⟨#[47]⟩ ++ ⟨p.toArray⟩)) = .returned (.string ⟨(47 :: p).toArray⟩) := by
  rw [show (⟨#[47]⟩ : ByteArray) = ⟨([47] : List UInt8).toArray⟩ from rfl, ByteArray.mk_append_mk]; rfl
theorem cat2 (a p : List UInt8) : Value.string (⟨a.toArray⟩ ++ ⟨#[47]⟩ ++ ⟨p.toArray⟩) = .string ⟨(a ++ 47 :: p).toArray⟩ := by
  rw [show (⟨#[47]⟩ : ByteArray) = ⟨([47] : List UInt8).toArray⟩ from rfl, ByteArray.mk_append_mk, ByteArray.mk_append_mk, List.append_assoc]; rfl

set_option maxHeartbeats 1000000 in
theorem l1Join_any (l : List (List UInt8)) (b : Bool) (B : Nat) (v : Value) (w : World) (hown : w.ownsRow B 9 1 v l.length (S l)) (hl : l.length ≤ 1000000) (hl2 : weigh l ≤ 1000000) :
    Calls Tryz.prog 57 #[v, .bool b] w fun e w' => e = .returned (.string ⟨(joinL l b).toArray⟩) ∧ w = w' := by
  obtain ⟨sv, sc, hsv⟩ := own_slice hown
  subst hsv
  go_enter Tryz.func57, Tryz.ntmps57
  go_wp2
  go_loop [5, 10] (fun t i => ∃ (k : Nat), k ≤ l.length ∧ i = .int .i64 k ∧ t = .string ⟨(glue (l.take k)).toArray⟩) (fun _ i => l.length - (intOf i).toNat)
  case atStart => exact ⟨0, Nat.zero_le _, rfl, rfl⟩
  case round =>
    obtain ⟨k, hk, rfl, rfl⟩ := hrel
    have hw1 := weigh_le l k
    have hw2 := glue_len (l.take k)
    have hgl : (glue (l.take k)).length ≤ 1000000 := by omega
    clear hw2
    by_cases hlt : k < l.length
    · obtain ⟨g, cap', hv, hg1, hg2, _, _, hcell⟩ := own_at hown k hlt
      injection hv with hv1 hv2 hv3
      subst hv1
      have HG := Lib.hid (glue_take l k hlt)
      have hw3 := weigh_take l k hlt
      have hw4 := weigh_le l (k + 1)
      generalize l[k] = p at hcell HG hw3
      have hpl : p.length ≤ 1000000 := by omega
      clear hv2 hv3 hw1 hw3 hw4
      by_cases hk0 : k = 0
      · subst hk0
        have hgk : Hid ((glue (l.take 1)) = p) := HG.out
        have g0 : glue (l.take 0) = [] := rfl
        rw [g0]
        clear HG g0 hgl
        go_wp2
        go_round
        case rel => exact ⟨1, by omega, rfl, by rw [hgk.out]; exact cat0 p⟩
        case measure => simp [intOf]; omega
      · have hgk : Hid ((glue (l.take (k + 1))) = glue (l.take k) ++ 47 :: p) := by have := HG.out; rw [if_neg hk0] at this; exact this
        have hk1 : 0 < k := by omega
        clear HG hk0
        go_wp2
        go_round
        case rel => exact ⟨k + 1, by omega, by go_num, by rw [hgk.out]; exact cat2 _ p⟩
        case measure => simp [intOf]; omega
    · have hkl : l.take k = l := List.take_of_length_le (by omega)
      rw [hkl] at hgl ⊢
      clear hkl hw1
      rcases b with _ | _
      · by_cases h0 : glue l = []
        · have HJ : Hid (joinL l false = [46]) := by simp [Hid, joinL, h0]
          rw [h0]
          clear h0 hgl
          go_wp2
          go_ret
          exact ⟨by rw [HJ.out] <;> rfl, rfl⟩
        · have HJ : Hid (joinL l false = glue l) := by simp [Hid, joinL, h0]
          have h1 : (glue l).isEmpty = false := by simpa using h0
          go_wp2
          go_ret
          exact ⟨by rw [HJ.out] <;> rfl, rfl⟩
      · have HJ : Hid (joinL l true = 47 :: glue l) := by simp [Hid, joinL]
        go_wp2
        go_ret
        exact ⟨by rw [HJ.out]; exact cat1 _, rfl⟩

theorem weigh_append (a b : List (List UInt8)) : weigh (a ++ b) = weigh a + weigh b := by
  induction a with
  | nil => simp [weigh]
  | cons p r ih => simp only [List.cons_append, weigh, ih]; omega
theorem weigh_splitAux (l : List UInt8) : ∀ cur, weigh (splitAux cur l) = cur.length + l.length + 1 := by
  induction l with
  | nil => intro cur; simp [splitAux, weigh]
  | cons c r ih =>
    intro cur
    rw [splitAux]
    split
    · simp only [weigh, ih, List.length_reverse, List.length_cons, List.length_nil]; omega
    · rw [ih]; simp only [List.length_cons]; omega
theorem weigh_pstep (b : Bool) (acc : List (List UInt8)) (p : List UInt8) : weigh (pstep b acc p) ≤ weigh acc + p.length + 1 := by
  unfold pstep
  split
  · omega
  · split
    · split
      · rcases last_of acc with h | ⟨a, q, h⟩
        · rw [h]; simp [weigh]
        · rw [h, List.dropLast_concat, weigh_append]; omega
      · split
        · omega
        · rw [weigh_append]; simp [weigh]; omega
    · rw [weigh_append]; simp [weigh]; omega
theorem weigh_from (b : Bool) (r : List (List UInt8)) : ∀ acc, weigh (partsFrom b acc r) ≤ weigh acc + weigh r := by
  induction r with
  | nil => intro acc; simp [partsFrom, weigh]
  | cons p t ih =>
    intro acc
    rw [partsFrom]
    have := ih (pstep b acc p)
    have := weigh_pstep b acc p
    simp only [weigh]
    omega
theorem weigh_parts (s : ByteArray) : weigh (partsL s.data.toList) ≤ s.size + 1 := by
  have h := weigh_from (rootedL s.data.toList) (splitL s.data.toList) []
  have h2 := weigh_splitAux s.data.toList []
  rw [len_eq] at h2
  simp only [weigh, List.length_nil] at h h2
  unfold partsL
  unfold splitL at h ⊢
  omega
theorem len_weigh (l : List (List UInt8)) : l.length ≤ weigh l := by
  induction l with
  | nil => simp [weigh]
  | cons p r ih => simp only [weigh, List.length_cons]; omega

set_option maxHeartbeats 1000000 in
theorem l1Clean_any (s : ByteArray) (w : World) (hs : s.size ≤ 1000) :
    Calls Tryz.prog 50 #[.string s] w (TextPost w.heap.size (cleanL s.data.toList) w) := by
  have hw1 := weigh_parts s
  have hw2 := len_weigh (partsL s.data.toList)
  go_enter Tryz.func50, Tryz.ntmps50
  go_wp2_with fail
  refine (l1Parts_any s _ hs).mono ?_
  rintro e w1 ⟨v1, rfl, hown1, hb1⟩
  go_wp2_with fail
  refine (l1Rooted_any s _ (by unfold maxLen; omega)).mono ?_
  rintro e w' ⟨rfl, rfl⟩
  go_wp2_with fail
  refine (l1Join_any _ _ _ _ _ hown1 (by omega) (by omega)).mono ?_
  rintro e w' ⟨rfl, rfl⟩
  go_wp2_with fail
  go_ret
  exact ⟨rfl, hb1⟩

end Go.Proofs.YtgcaplbeahjbmaaGreatDoor.C1

/- Walks: the reference's names and files: found, good. -/
namespace Go.Proofs.YtgcaplbeahjbmaaGreatDoor
open Go.RowKit Pth

set_option maxHeartbeats 1000000 in
theorem l1Path_any (s : ByteArray) (w : World) (hs : s.size ≤ maxLen) :
    Calls Tryz.prog 49 #[.string s] w fun e w' => e = .returned (.bool (pathL s.data.toList)) ∧ w = w' := by
  unfold maxLen at hs
  go_enter Tryz.func49, Tryz.ntmps49
  go_wp2
  go_loop [3] (fun i => ∃ k : Nat, k ≤ s.size ∧ i = .int .i64 k ∧ Hid (okL (s.data.toList.take k) = true)) (fun i => s.size - (intOf i).toNat)
  case atStart => exact ⟨0, Nat.zero_le _, rfl, rfl⟩
  case round =>
    obtain ⟨k, hk, rfl, HO⟩ := hrel
    by_cases hlt : k < s.size
    · go_wp2
      all_goals first
        | (go_round
           case rel => exact ⟨k + 1, by omega, by go_num, okL_next hlt HO.out (by clear HO; go_light; simp_all [pb] <;> omega)⟩
           case measure => simp [intOf]; omega)
        | (go_ret
           exact ⟨ret_bool (pathL_false k hlt (by clear HO; go_light; simp_all [pb] <;> omega)).symm, rfl⟩)
    · go_wp2
      go_ret
      exact ⟨ret_bool (by rw [pathL_end (k := k) (by omega) HO.out]; go_num), rfl⟩
theorem l1Path_l (x : List UInt8) (w : World) (hx : x.length ≤ maxLen) : Calls Tryz.prog 49 #[.string ⟨x.toArray⟩] w fun e w' => e = .returned (.bool (pathL x)) ∧ w = w' :=
  l1Path_any ⟨x.toArray⟩ w (by simpa [ByteArray.size] using hx)
theorem l1Clean_l (x : List UInt8) (w : World) (hx : x.length ≤ 1000) : Calls Tryz.prog 50 #[.string ⟨x.toArray⟩] w fun e w' => e = .returned (.string ⟨(cleanL x).toArray⟩) ∧ Below w.heap.size w w' :=
  C1.l1Clean_any ⟨x.toArray⟩ w (by simpa [ByteArray.size] using hx)

/-- A bool is handed back; what lay there lies there. -/
def BoolPost (b : Bool) (w : World) (e : Ending) (w' : World) : Prop := e = .returned (.bool b) ∧ Below w.heap.size w w'
theorem path_len {t : List UInt8} (h : pathL t = true) : t.length ≤ 60 := by
  simp only [pathL, Bool.and_eq_true, decide_eq_true_iff] at h
  exact h.2

set_option maxHeartbeats 1000000 in
theorem l3Name_any (n : List UInt8) (w : World) (hn : n.length ≤ maxLen) :
    Calls Tryz.prog 36 #[.string ⟨n.toArray⟩] w (BoolPost (nameOk n) w) := by
  have D := l1Path_l n w hn
  unfold maxLen at hn
  rcases h1 : pathL n with _ | _
  · have HT : Hid (nameOk n = false) := by rw [nameOk, h1]; rfl
    rw [h1] at D
    have HD := Lib.hid D
    clear h1 D
    go_enter Tryz.func36, Tryz.ntmps36
    go_wp2_with fail
    refine HD.out.mono ?_
    rintro e w1 ⟨rfl, rfl⟩
    go_wp2_with fail
    go_ret
    exact ⟨ret_bool HT.out.symm, Below.refl _ _⟩
  · have hl := path_len h1
    rw [h1] at D
    have HD := Lib.hid D
    by_cases h2 : n.length ≤ 20
    · have HT : Hid (nameOk n = (cleanL n == n)) := by rw [nameOk, h1, decide_eq_true h2]; rfl
      have hd : decide ((n.length : Int) ≤ 20) = true := decide_eq_true (by omega)
      have HC := Lib.hid (fun W => l1Clean_l n W (by omega))
      clear h1 D
      generalize cleanL n = c at HT HC
      go_enter Tryz.func36, Tryz.ntmps36
      go_wp2_with fail
      refine HD.out.mono ?_
      rintro e w1 ⟨rfl, rfl⟩
      go_wp2_with fail
      refine (HC.out w).mono ?_
      rintro e w1 ⟨rfl, hb1⟩
      have HB1 := Lib.hid hb1
      clear hb1
      go_wp2_with fail
      go_ret
      exact ⟨ret_bool HT.out.symm, HB1.out⟩
    · have HT : Hid (nameOk n = false) := by rw [nameOk, decide_eq_false h2]; simp [Hid]
      have hd : decide ((n.length : Int) ≤ 20) = false := decide_eq_false (by omega)
      clear h1 D
      go_enter Tryz.func36, Tryz.ntmps36
      go_wp2_with fail
      refine HD.out.mono ?_
      rintro e w1 ⟨rfl, rfl⟩
      go_wp2_with fail
      go_ret
      exact ⟨ret_bool HT.out.symm, Below.refl _ _⟩

set_option maxHeartbeats 1000000 in
theorem l3Find_any (l : List FileT) (n : List UInt8) (v : Value) (w : World) (hrow : RowF w v l) :
    Calls Tryz.prog 37 #[v, .string ⟨n.toArray⟩] w fun e w' => e = .returned (.int .i64 (findF l n)) ∧ Below w.heap.size w w' := by
  obtain ⟨a, cap, rfl, hc1, hc2, hat⟩ := hrow.files
  clear hrow
  unfold maxLen at hc2
  go_enter Tryz.func37, Tryz.ntmps37
  go_wp2_with fail
  go_loopw [9] (fun i wr => ∃ k : Nat, k ≤ l.length ∧ i = .int .i64 k ∧ Hid (Below w.heap.size w wr) ∧ Hid (∀ j (hj : j < k) (hl : j < l.length), l[j].1 ≠ n)) (fun i _ => l.length - (intOf i).toNat)
  case atStart => exact ⟨0, Nat.zero_le _, rfl, Below.refl _ _, fun j hj => absurd hj (by omega)⟩
  case round =>
    obtain ⟨k, hk, rfl, HB, HO⟩ := hrel
    have hbs := HB.out.size
    by_cases hlt : k < l.length
    · obtain ⟨g, o, rfl, hg, hcell1, hcell2⟩ := hat k hlt
      have hc1' : wr.cell? ⟨g, o + k * 2, none⟩ = some (.string ⟨(l[k]).1.toArray⟩) := by rw [HB.out.cell (p := ⟨g, o + k * 2, none⟩) hg]; exact hcell1
      have hc2' : wr.cell? ⟨g, o + k * 2 + 1, none⟩ = some (.string ⟨(l[k]).2.toArray⟩) := by rw [HB.out.cell (p := ⟨g, o + k * 2 + 1, none⟩) hg]; exact hcell2
      clear hcell1 hcell2 hat
      by_cases hx : l[k].1 = n
      · have HR : Hid (findF l n = (k : Int)) := find_hit hlt (fun j hj => HO.out j hj (by omega)) hx
        have hx1 : (l[k].1 == n) = true := by simpa using hx
        generalize l[k].1 = x at hc1' hx hx1
        generalize l[k].2 = y at hc2'
        clear HO hx
        go_wp2_with fail
        go_ret
        exact ⟨by rw [HR.out] <;> rfl, HB.out.alloc hbs _⟩
      · have HR : Hid (∀ j (hj : j < k + 1) (hl : j < l.length), l[j].1 ≠ n) := by
          intro j hj hl
          by_cases e : j = k
          · subst e; exact hx
          · exact HO.out j (by omega) hl
        have hx1 : (l[k].1 == n) = false := by simpa using hx
        generalize l[k].1 = x at hc1' hx hx1
        generalize l[k].2 = y at hc2'
        clear HO hx
        go_wp2_with fail
        go_roundw
        case rel => exact ⟨k + 1, by omega, by go_num, HB.out.alloc hbs _, HR⟩
        case measure => simp [intOf]; omega
    · have HR : Hid (findF l n = -1) := find_none (fun f hf => by
        obtain ⟨j, hj, rfl⟩ := List.mem_iff_getElem.1 hf
        exact HO.out j (by omega) hj)
      clear HO hat
      go_wp2_with fail
      go_ret
      exact ⟨by rw [HR.out] <;> rfl, HB.out⟩

end Go.Proofs.YtgcaplbeahjbmaaGreatDoor

/- A region that draws its order, whose first operations come in one forced order (a call that makes memory among them) and whose others only read: one walk in the order of the text. -/
namespace Go.Proofs.YtgcaplbeahjbmaaGreatDoor
open Go.RowKit

theorem oper_wp_Q {P : Program} {o : Oper} {a : Act} {w : World} {K : Act → World → Prop} {Q Q' : Exit → Act → World → Prop} (hq : ∀ e a w, e ≠ .normal → Q e a w → Q' e a w) (hh : o.wp P a w K Q) : o.wp P a w K Q' := by
  unfold Oper.wp at *
  generalize (execOp a.eval o).run P w = r at *
  cases r with
  | ok n w' =>
    cases n <;> simp only [Oper.upon] at hh ⊢ <;>
      first
        | exact hh
        | exact Calls.mono hh (fun e w'' he => by cases e <;> first | exact he | exact hq _ _ _ (by simp) he | exact (let ⟨a, w, h⟩ := he; ⟨a, w, hq _ _ _ (by simp) h⟩))
  | halt x w' => cases x <;> simp only [Oper.upon] at hh ⊢ <;> first | exact hh | exact hq _ _ _ (by simp) hh

theorem lets_Q {Q Q' : Exit → Act → World → Prop} (hq : ∀ e a w, e ≠ .normal → Q e a w → Q' e a w) (h : LetsOut Q) : LetsOut Q' :=
  let ⟨a, w, h⟩ := h; ⟨a, w, hq _ _ _ (by simp) h⟩

theorem wpOp_Q {P : Program} {ops : Array Oper} {i : Nat} {a : Act} {w : World} {K : Act → World → Prop} {Q Q' : Exit → Act → World → Prop} (hq : ∀ e a w, e ≠ .normal → Q e a w → Q' e a w) (hh : wpOp P ops Q i K a w) : wpOp P ops Q' i K a w := by
  unfold wpOp at *
  split
  · simpa [*] using hh
  · rename_i o ho
    simp only [ho] at hh
    split
    · rename_i hw; simp only [hw, if_true] at hh; exact hh.imp (oper_wp_Q hq) (fun h => ⟨h.1, lets_Q hq h.2⟩)
    · rename_i hw; simp only [hw] at hh; exact hh

/-- T behind the head, Q at whatever else. -/
def Then (T : Act → World → Prop) (Q : Exit → Act → World → Prop) : Exit → Act → World → Prop
  | .normal, a, w => T a w
  | e, a, w => Q e a w
theorem then_normal {T : Act → World → Prop} {Q : Exit → Act → World → Prop} {a : Act} {w : World} (h : T a w) : Then T Q .normal a w := h
theorem then_Q {T : Act → World → Prop} {Q : Exit → Act → World → Prop} : ∀ e a w, e ≠ .normal → Then T Q e a w → Q e a w := fun e a w he h => by
  cases e <;> first | exact absurd rfl he | exact h

def headB (ops : Array Oper) : Nat → Nat → Array Bool → Bool
  | 0, _, _ => true
  | g + 1, k, listed => decide (Region.ready .any ops listed = [k]) && headB ops g (k + 1) (listed.setIfInBounds k true)
def setAll : Nat → Nat → Array Bool → Array Bool
  | 0, _, listed => listed
  | g + 1, k, listed => setAll g (k + 1) (listed.setIfInBounds k true)

theorem wpAny_head {P : Program} {ops : Array Oper} {T : Act → World → Prop} {Q : Exit → Act → World → Prop} {r : Nat} : ∀ (l : List Oper) (k : Nat) (listed : Array Bool) (a : Act) (w : World), (∀ j, j < l.length → l[j]? = ops[k + j]?) →
    headB ops l.length k listed = true → (∀ a w, T a w → wpAny P .any ops Q r (setAll l.length k listed) a w) → wpList P ops (Then T Q) l a w → wpAny P .any ops Q (l.length + r) listed a w
  | [], _, _, _, _, _, _, hT, h => by
    simp only [List.length_nil, Nat.zero_add]
    exact hT _ _ h
  | o :: l, k, listed, a, w, hl, hB, hT, h => by
    have h0 : ops[k]? = some o := by have := hl 0 (by simp); simpa using this.symm
    simp only [List.length_cons, headB, Bool.and_eq_true, decide_eq_true_eq] at hB
    have e : (o :: l).length + r = (l.length + r) + 1 := by simp only [List.length_cons]; omega
    rw [e]
    refine ⟨fun h1 => (by rw [hB.1] at h1; cases h1), fun i hi => ?_⟩
    rw [hB.1] at hi
    have hik : i = k := by simpa using hi
    subst hik
    have hw : wpOp P ops (Then T Q) i (wpList P ops (Then T Q) l) a w := by unfold wpOp; simp only [h0]; exact h
    exact wpOp_Q then_Q (wpOp_mono (fun a' w' h' => wpAny_head l (i + 1) _ a' w' (fun j hj => by have := hl (j + 1) (by simp; omega); simpa [Nat.add_assoc, Nat.add_comm 1 j] using this) hB.2 hT h') hw)

theorem wp_region_head_quiet {P : Program} {id : Nat} {Q : Exit → Act → World → Prop} {a : Act} {w : World} {l : List Oper} (n : Nat) (hm : P.follows .mixedOrders = true) (hs : Region.noSelect l.toArray = true)
    (hH : headB l.toArray (l.take n).length 0 (Array.replicate l.toArray.size false) = true) (hL : Region.lexFrom .any l.toArray (l.drop n).length n (setAll (l.take n).length 0 (Array.replicate l.toArray.size false)) = true) (hn : n ≤ l.length)
    (h : wpList P l.toArray (Then (fun a' w' => wpQuiet P l.toArray (fun x => ∃ m, x = w'.drewN m) (fun a'' => ∀ x, (∃ m, x = w'.drewN m) → Q .normal a'' x) (l.drop n) a') Q) (l.take n) a { w with drawn := w.drawn + 1 }) : (Code.region id l.toArray true).wp P Q a w := by
  have htl : (l.take n).length = n := by rw [List.length_take]; omega
  refine wp_region_any hm ?_
  have H := wpAny_head (Q := Q) (r := (l.drop n).length) (l.take n) 0 (Array.replicate l.toArray.size false) a { w with drawn := w.drawn + 1 } (fun j hj => by
    rw [htl] at hj
    simp [hj]) hH (fun a' w' h' => ?_) h
  · have e : (l.take n).length + (l.drop n).length = l.toArray.size := by rw [htl, List.length_drop]; simp; omega
    rw [e] at H
    exact H
  · refine wpAny_of_quiet (C := fun x => ∃ m, x = w'.drewN m) (Q := fun a'' => ∀ x, (∃ m, x = w'.drewN m) → Q .normal a'' x) (fun a w hw h => h w hw) _ _ _ _ ⟨0, rfl⟩ ?_
    exact wpAnyQ_lex hs (l.drop n) n _ _ (fun j => by simp [List.getElem?_drop]) hL h'

end Go.Proofs.YtgcaplbeahjbmaaGreatDoor

/- Walks: the reference's good files. -/
namespace Go.Proofs.YtgcaplbeahjbmaaGreatDoor
open Go.RowKit Pth

theorem name_l {b : Bool} (n : List UInt8) (hn : n.length ≤ maxLen) (h : nameOk n = b) : ∀ w, Calls Tryz.prog 36 #[.string ⟨n.toArray⟩] w (BoolPost b w) := fun w => by
  have := l3Name_any n w hn
  rwa [h] at this
theorem goodF_bad {l : List FileT} {k : Nat} (hk : k < l.length) (h : fileOk l[k] = false) : goodF l = false := by
  have : l.all fileOk = false := by
    rw [List.all_eq_false]
    exact ⟨l[k], List.getElem_mem hk, by rw [h]; simp⟩
  rw [goodF, this]; rfl
theorem goodF_fall {l : List FileT} {k : Nat} (hk : k < l.length) (h0 : 0 < k) (h : ltT l[k - 1].1 l[k].1 = false) : goodF l = false := by
  have : riseN (l.map (·.1)) = false := riseN_fall (k := k) (by simpa using hk) h0 (by simpa using h)
  rw [goodF, this]; simp
theorem take_all_ok {l : List FileT} {k : Nat} (hk : k < l.length) (h0 : (l.take k).all fileOk = true) (h : fileOk l[k] = true) : (l.take (k + 1)).all fileOk = true := by
  rw [List.take_succ_eq_append_getElem hk, List.all_append, h0]; simp [h]
theorem take_rise {l : List FileT} {k : Nat} (hk : k < l.length) (h0 : riseN ((l.map (·.1)).take k) = true) (h : ∀ _ : 0 < k, ltT l[k - 1].1 l[k].1 = true) : riseN ((l.map (·.1)).take (k + 1)) = true :=
  riseN_next (by simpa using hk) h0 (fun h1 => by simpa using h h1)
theorem goodF_end {l : List FileT} {k : Nat} (hk : l.length ≤ k) (h0 : (l.take k).all fileOk = true) (h1 : riseN ((l.map (·.1)).take k) = true) : goodF l = decide (l.length ≤ 12) := by
  rw [List.take_of_length_le hk] at h0
  rw [List.take_of_length_le (by simpa using hk)] at h1
  rw [goodF, h0, h1]; rfl

set_option maxRecDepth 20000 in
set_option maxHeartbeats 4000000 in
theorem specGoodFiles_any (l : List FileT) (v : Value) (w : World) (hrow : RowF w v l) (hx : ∀ f ∈ l, f.1.length ≤ maxLen ∧ f.2.length ≤ maxLen) :
    Calls Tryz.prog 35 #[v] w (BoolPost (goodF l) w) := by
  obtain ⟨a, cap, rfl, hc1, hc2, hat⟩ := hrow.files
  clear hrow
  unfold maxLen at hc2
  go_enter Tryz.func35, Tryz.ntmps35
  go_wp2_with fail
  go_loopw [7] (fun i wr => ∃ k : Nat, k ≤ l.length ∧ i = .int .i64 k ∧ Hid (Below w.heap.size w wr) ∧ Hid ((l.take k).all fileOk = true) ∧ Hid (riseN ((l.map (·.1)).take k) = true)) (fun i _ => l.length - (intOf i).toNat)
  case atStart => exact ⟨0, Nat.zero_le _, rfl, Below.refl _ _, by simp [Hid], by simp [Hid, riseN]⟩
  case round =>
    obtain ⟨k, hk, rfl, HB, HO, HR⟩ := hrel
    have hbs := HB.out.size
    by_cases hlt : k < l.length
    · obtain ⟨g, o, rfl, hg, hcell1, hcell2⟩ := hat k hlt
      have hc1' : wr.cell? ⟨g, o + k * 2, none⟩ = some (.string ⟨(l[k]).1.toArray⟩) := by rw [HB.out.cell (p := ⟨g, o + k * 2, none⟩) hg]; exact hcell1
      have hc2' : wr.cell? ⟨g, o + k * 2 + 1, none⟩ = some (.string ⟨(l[k]).2.toArray⟩) := by rw [HB.out.cell (p := ⟨g, o + k * 2 + 1, none⟩) hg]; exact hcell2
      have hxl := hx l[k] (List.getElem_mem hlt)
      unfold maxLen at hxl
      have HBA := Lib.hid (HB.out.alloc hbs (.cells #[.string ⟨(l[k]).1.toArray⟩, .string ⟨(l[k]).2.toArray⟩] 44))
      have hfr : True := trivial
      by_cases hn : nameOk l[k].1 = true
      · have HC := Lib.hid (name_l _ hxl.1 hn)
        by_cases hy : 40 < l[k].2.length
        · have HT := Lib.hid (goodF_bad hlt (by rw [fileOk, decide_eq_false (by omega : ¬ l[k].2.length ≤ 40)]; simp))
          have hy1 : decide ((l[k].2.length : Int) > 40) = true := decide_eq_true (by omega)
          clear hcell1 hcell2 hat hx HO HR hn
          generalize l[k].1 = x at hc1' HC hxl HBA hfr
          generalize l[k].2 = y at hc2' hxl HBA hfr hy hy1
          go_wp2_with fail
          have hwa : wr.heap.size < (wr.alloc (.cells #[.string ⟨x.toArray⟩, .string ⟨y.toArray⟩] 44)).heap.size := by simp
          have s0 : (wr.alloc (.cells #[.string ⟨x.toArray⟩, .string ⟨y.toArray⟩] 44)).cell? ⟨wr.heap.size, 0, none⟩ = some (.string ⟨x.toArray⟩) ∧ (wr.alloc (.cells #[.string ⟨x.toArray⟩, .string ⟨y.toArray⟩] 44)).cell? ⟨wr.heap.size, 1, none⟩ = some (.string ⟨y.toArray⟩) := ⟨by simp, by simp⟩
          generalize wr.alloc (.cells #[.string ⟨x.toArray⟩, .string ⟨y.toArray⟩] 44) = wa at s0 HBA hwa
          obtain ⟨s0, s1⟩ := s0
          refine wp_region_head_quiet 3 (by kernel_rfl) (by kernel_rfl) (by kernel_rfl) (by kernel_rfl) (by decide) ?_
          simp only [List.take_succ_cons, List.take_zero, List.drop_succ_cons, List.drop_zero]
          go_wp2_with fail
          refine (HC.out _).mono ?_
          rintro e w5 ⟨rfl, hb5⟩
          have q0 := (hb5.cell (p := ⟨wr.heap.size, 0, none⟩) hwa).trans s0
          have q1 := (hb5.cell (p := ⟨wr.heap.size, 1, none⟩) hwa).trans s1
          have HB5 := Lib.hid ((Below.drew HBA.out).trans (hb5.mono HBA.out.size))
          clear hb5 s0 s1
          go_wp2_with fail
          refine then_normal ?_
          repeat (go_big_quiet_step (fail))
          refine wpQuiet_nil ?_
          intro _ hw'
          obtain ⟨nq, hw''⟩ := hw'
          subst hw''
          have HB6 := Lib.hid (below_drewN HB5.out nq)
          go_wp2_with fail
          go_ret
          exact ⟨ret_bool HT.out.symm, HB6.out⟩
        · have hy1 : decide ((l[k].2.length : Int) > 40) = false := decide_eq_false (by omega)
          have hfile : fileOk l[k] = true := by rw [fileOk, hn, decide_eq_true (by omega : l[k].2.length ≤ 40)]; rfl
          have HO2 := Lib.hid (take_all_ok hlt HO.out hfile)
          by_cases h0 : 0 < k
          · have hk0 : decide ((k : Int) > 0) = true := decide_eq_true (by omega)
            obtain ⟨g', o', hA, _, hp1, _⟩ := hat (k - 1) (by omega)
            obtain ⟨rfl, rfl⟩ := addr_inj hA
            have hp : wr.cell? ⟨g, o + (k - 1) * 2, none⟩ = some (.string ⟨(l[k - 1]).1.toArray⟩) := by rw [HB.out.cell (p := ⟨g, o + (k - 1) * 2, none⟩) hg]; exact hp1
            rcases hz : ltT l[k - 1].1 l[k].1 with _ | _
            · have HT := Lib.hid (goodF_fall hlt h0 hz)
              have hz1 : Op.bytesLess l[k - 1].1 l[k].1 = false := hz
              generalize l[k - 1].1 = z at hp hz hz1
              clear hcell1 hcell2 hat hx HO HR hn hp1 hfile HO2 hz hA
              generalize l[k].1 = x at hc1' HC hxl HBA hfr hz1
              generalize l[k].2 = y at hc2' hxl HBA hfr hy hy1
              go_wp2_with fail
              have hwa : wr.heap.size < (wr.alloc (.cells #[.string ⟨x.toArray⟩, .string ⟨y.toArray⟩] 44)).heap.size := by simp
              have s0 : (wr.alloc (.cells #[.string ⟨x.toArray⟩, .string ⟨y.toArray⟩] 44)).cell? ⟨wr.heap.size, 0, none⟩ = some (.string ⟨x.toArray⟩) ∧ (wr.alloc (.cells #[.string ⟨x.toArray⟩, .string ⟨y.toArray⟩] 44)).cell? ⟨wr.heap.size, 1, none⟩ = some (.string ⟨y.toArray⟩) ∧ (wr.alloc (.cells #[.string ⟨x.toArray⟩, .string ⟨y.toArray⟩] 44)).cell? ⟨g, o + (k - 1) * 2, none⟩ = some (.string ⟨z.toArray⟩) := ⟨by simp, by simp, by rw [World.cell?_alloc_lt _ _ _ (by show g < wr.heap.size; omega)]; exact hp⟩
              generalize wr.alloc (.cells #[.string ⟨x.toArray⟩, .string ⟨y.toArray⟩] 44) = wa at s0 HBA hwa
              obtain ⟨s0, s1, s2⟩ := s0
              refine wp_region_head_quiet 3 (by kernel_rfl) (by kernel_rfl) (by kernel_rfl) (by kernel_rfl) (by decide) ?_
              simp only [List.take_succ_cons, List.take_zero, List.drop_succ_cons, List.drop_zero]
              go_wp2_with fail
              refine (HC.out _).mono ?_
              rintro e w5 ⟨rfl, hb5⟩
              have q0 := (hb5.cell (p := ⟨wr.heap.size, 0, none⟩) hwa).trans s0
              have q1 := (hb5.cell (p := ⟨wr.heap.size, 1, none⟩) hwa).trans s1
              have q2 := (hb5.cell (p := ⟨g, o + (k - 1) * 2, none⟩) (by show g < wa.heap.size; omega)).trans s2
              have HB5 := Lib.hid ((Below.drew HBA.out).trans (hb5.mono HBA.out.size))
              clear hb5 s0 s1 s2
              go_wp2_with fail
              refine then_normal ?_
              repeat (go_big_quiet_step (fail))
              refine wpQuiet_nil ?_
              intro _ hw'
              obtain ⟨nq, hw''⟩ := hw'
              subst hw''
              have HB6 := Lib.hid (below_drewN HB5.out nq)
              go_wp2_with fail
              go_ret
              exact ⟨ret_bool HT.out.symm, HB6.out⟩
            · have HR2 := Lib.hid (take_rise hlt HR.out (fun _ => hz))
              have hz1 : Op.bytesLess l[k - 1].1 l[k].1 = true := hz
              generalize l[k - 1].1 = z at hp hz hz1
              clear hcell1 hcell2 hat hx HO HR hn hp1 hfile hz hA
              generalize l[k].1 = x at hc1' HC hxl HBA hfr hz1
              generalize l[k].2 = y at hc2' hxl HBA hfr hy hy1
              go_wp2_with fail
              have hwa : wr.heap.size < (wr.alloc (.cells #[.string ⟨x.toArray⟩, .string ⟨y.toArray⟩] 44)).heap.size := by simp
              have s0 : (wr.alloc (.cells #[.string ⟨x.toArray⟩, .string ⟨y.toArray⟩] 44)).cell? ⟨wr.heap.size, 0, none⟩ = some (.string ⟨x.toArray⟩) ∧ (wr.alloc (.cells #[.string ⟨x.toArray⟩, .string ⟨y.toArray⟩] 44)).cell? ⟨wr.heap.size, 1, none⟩ = some (.string ⟨y.toArray⟩) ∧ (wr.alloc (.cells #[.string ⟨x.toArray⟩, .string ⟨y.toArray⟩] 44)).cell? ⟨g, o + (k - 1) * 2, none⟩ = some (.string ⟨z.toArray⟩) := ⟨by simp, by simp, by rw [World.cell?_alloc_lt _ _ _ (by show g < wr.heap.size; omega)]; exact hp⟩
              generalize wr.alloc (.cells #[.string ⟨x.toArray⟩, .string ⟨y.toArray⟩] 44) = wa at s0 HBA hwa
              obtain ⟨s0, s1, s2⟩ := s0
              refine wp_region_head_quiet 3 (by kernel_rfl) (by kernel_rfl) (by kernel_rfl) (by kernel_rfl) (by decide) ?_
              simp only [List.take_succ_cons, List.take_zero, List.drop_succ_cons, List.drop_zero]
              go_wp2_with fail
              refine (HC.out _).mono ?_
              rintro e w5 ⟨rfl, hb5⟩
              have q0 := (hb5.cell (p := ⟨wr.heap.size, 0, none⟩) hwa).trans s0
              have q1 := (hb5.cell (p := ⟨wr.heap.size, 1, none⟩) hwa).trans s1
              have q2 := (hb5.cell (p := ⟨g, o + (k - 1) * 2, none⟩) (by show g < wa.heap.size; omega)).trans s2
              have HB5 := Lib.hid ((Below.drew HBA.out).trans (hb5.mono HBA.out.size))
              clear hb5 s0 s1 s2
              go_wp2_with fail
              refine then_normal ?_
              repeat (go_big_quiet_step (fail))
              refine wpQuiet_nil ?_
              intro _ hw'
              obtain ⟨nq, hw''⟩ := hw'
              subst hw''
              have HB6 := Lib.hid (below_drewN HB5.out nq)
              go_wp2_with fail
              go_roundw
              case rel => exact ⟨k + 1, by omega, by go_num, HB6, HO2, HR2⟩
              case measure => simp [intOf]; omega
          · have hk0 : decide ((k : Int) > 0) = false := decide_eq_false (by omega)
            have HR2 := Lib.hid (take_rise hlt HR.out (fun h => absurd h h0))
            clear hcell1 hcell2 hat hx HO HR hn hfile
            generalize l[k].1 = x at hc1' HC hxl HBA hfr
            generalize l[k].2 = y at hc2' hxl HBA hfr hy hy1
            go_wp2_with fail
            have hwa : wr.heap.size < (wr.alloc (.cells #[.string ⟨x.toArray⟩, .string ⟨y.toArray⟩] 44)).heap.size := by simp
            have s0 : (wr.alloc (.cells #[.string ⟨x.toArray⟩, .string ⟨y.toArray⟩] 44)).cell? ⟨wr.heap.size, 0, none⟩ = some (.string ⟨x.toArray⟩) ∧ (wr.alloc (.cells #[.string ⟨x.toArray⟩, .string ⟨y.toArray⟩] 44)).cell? ⟨wr.heap.size, 1, none⟩ = some (.string ⟨y.toArray⟩) := ⟨by simp, by simp⟩
            generalize wr.alloc (.cells #[.string ⟨x.toArray⟩, .string ⟨y.toArray⟩] 44) = wa at s0 HBA hwa
            obtain ⟨s0, s1⟩ := s0
            refine wp_region_head_quiet 3 (by kernel_rfl) (by kernel_rfl) (by kernel_rfl) (by kernel_rfl) (by decide) ?_
            simp only [List.take_succ_cons, List.take_zero, List.drop_succ_cons, List.drop_zero]
            go_wp2_with fail
            refine (HC.out _).mono ?_
            rintro e w5 ⟨rfl, hb5⟩
            have q0 := (hb5.cell (p := ⟨wr.heap.size, 0, none⟩) hwa).trans s0
            have q1 := (hb5.cell (p := ⟨wr.heap.size, 1, none⟩) hwa).trans s1
            have HB5 := Lib.hid ((Below.drew HBA.out).trans (hb5.mono HBA.out.size))
            clear hb5 s0 s1
            go_wp2_with fail
            refine then_normal ?_
            repeat (go_big_quiet_step (fail))
            refine wpQuiet_nil ?_
            intro _ hw'
            obtain ⟨nq, hw''⟩ := hw'
            subst hw''
            have HB6 := Lib.hid (below_drewN HB5.out nq)
            go_wp2_with fail
            go_roundw
            case rel => exact ⟨k + 1, by omega, by go_num, HB6, HO2, HR2⟩
            case measure => simp [intOf]; omega
      · have hn' : nameOk l[k].1 = false := by simpa using hn
        have HT := Lib.hid (goodF_bad hlt (by rw [fileOk, hn']; rfl))
        have HC := Lib.hid (name_l _ hxl.1 hn')
        clear hcell1 hcell2 hat hx HO HR hn hn'
        generalize l[k].1 = x at hc1' HC hxl HBA hfr
        generalize l[k].2 = y at hc2' hxl HBA hfr
        go_wp2_with fail
        have hwa : wr.heap.size < (wr.alloc (.cells #[.string ⟨x.toArray⟩, .string ⟨y.toArray⟩] 44)).heap.size := by simp
        have s0 : (wr.alloc (.cells #[.string ⟨x.toArray⟩, .string ⟨y.toArray⟩] 44)).cell? ⟨wr.heap.size, 0, none⟩ = some (.string ⟨x.toArray⟩) := by simp
        generalize wr.alloc (.cells #[.string ⟨x.toArray⟩, .string ⟨y.toArray⟩] 44) = wa at s0 HBA hwa
        refine wp_region_head_quiet 3 (by kernel_rfl) (by kernel_rfl) (by kernel_rfl) (by kernel_rfl) (by decide) ?_
        simp only [List.take_succ_cons, List.take_zero, List.drop_succ_cons, List.drop_zero]
        go_wp2_with fail
        refine (HC.out _).mono ?_
        rintro e w5 ⟨rfl, hb5⟩
        have q0 := (hb5.cell (p := ⟨wr.heap.size, 0, none⟩) hwa).trans s0
        have HB5 := Lib.hid ((Below.drew HBA.out).trans (hb5.mono HBA.out.size))
        clear hb5 s0
        go_wp2_with fail
        refine then_normal ?_
        repeat (go_big_quiet_step (fail))
        refine wpQuiet_nil ?_
        intro _ hw'
        obtain ⟨nq, hw''⟩ := hw'
        subst hw''
        have HB6 := Lib.hid (below_drewN HB5.out nq)
        go_wp2_with fail
        go_ret
        exact ⟨ret_bool HT.out.symm, HB6.out⟩
    · have HT := Lib.hid (goodF_end (by omega) HO.out HR.out)
      clear HO HR hat hx
      go_wp2_with fail
      go_ret
      exact ⟨ret_bool (by rw [HT.out]; go_num), HB.out⟩

end Go.Proofs.YtgcaplbeahjbmaaGreatDoor

/- Walks: a file put to its place, files without a name, names put and dropped (the reference). -/
namespace Go.Proofs.YtgcaplbeahjbmaaGreatDoor
open Go.RowKit Pth

theorem elemF : ElemG 27 44 (.agg #[.string ByteArray.empty, .string ByteArray.empty]) 2 32 := ⟨Tryz.underlying27, by kernel_rfl, rfl, by decide, by decide⟩

/-- Files are handed back, in memory of the call's own. -/
def FilesPost (l : List FileT) (w : World) (e : Ending) (w' : World) : Prop :=
  ∃ v, e = .returned v ∧ w'.ownsRow w.heap.size 44 2 v l.length (FC l) ∧ Below w.heap.size w w'

theorem RowF.of_own {w : World} {B : Nat} {v : Value} {l : List FileT} (h : w.ownsRow B 44 2 v l.length (FC l)) : RowF w v l := RowG.of_own h
theorem RowF.below {w w' : World} {v : Value} {l : List FileT} (h : RowF w v l) (hb : Below w.heap.size w w') : RowF w' v l := RowG.below h hb
theorem RowF.alloc {w : World} {v : Value} {l : List FileT} (h : RowF w v l) (o : Obj) : RowF (w.alloc o) v l := RowG.alloc h o

/-- A slice of files cut from k on. -/
theorem run_cutF (a : Option Addr) (n c k : Nat) (hk : k ≤ n) (_hc : n ≤ c) (W : World) :
    (Instr.slice 27 (.slice a n c) (some (.int .i64 (k : Int))) none none).run Tryz.prog W = .ok (.slice (if c = k then a else a.map (·.add (k * 2))) (n - k) (c - k)) W := by
  have h1 : (k : Int) ≤ n := by omega
  by_cases h : c = k
  · go_simp
  · go_simp
theorem backF {w : World} {a : Option Addr} {l : List FileT} {cap k : Nat} (h : RowF w (.slice a l.length cap) l) (hk : k ≤ l.length) (hc : l.length ≤ cap) :
    ∃ A1, (∀ W, (Instr.slice 27 (.slice a l.length cap) (some (.int .i64 (k : Int))) none none).run Tryz.prog W = .ok (.slice A1 (l.length - k) (cap - k)) W) ∧ RowG 2 w (.slice A1 (l.length - k) (cap - k)) (l.length - k) (FC (l.drop k)) := by
  have hD := RowG.back h k hk (by decide)
  rw [FC_drop] at hD
  exact ⟨_, run_cutF a l.length cap k hk hc, hD⟩
theorem frontF {w : World} {a : Option Addr} {l : List FileT} {cap k : Nat} (h : RowF w (.slice a l.length cap) l) (hk : k ≤ l.length) : RowG 2 w (.slice a k cap) k (FC (l.take k)) := by
  have hF := RowG.front h k hk
  rw [FC_take] at hF
  exact hF

theorem lit_nil (w : World) : (w.alloc (.cells #[] 44)).ownsRow w.heap.size 44 2 (.slice (some ⟨w.heap.size, 0, none⟩) 0 0) 0 [] := World.ownsRow_lit w #[] 0 (Nat.le_refl _) (by unfold maxLen; omega) rfl

theorem own_drewN {w : World} {B e n z : Nat} {v : Value} {xs : List Value} (h : w.ownsRow B e z v n xs) (m : Nat) : (w.drewN m).ownsRow B e z v n xs := h
theorem own_eq {w : World} {B e n m z : Nat} {v : Value} {xs ys : List Value} (h : w.ownsRow B e z v n xs) (hn : n = m) (hx : xs = ys) : w.ownsRow B e z v m ys := by subst hn hx; exact h

theorem put_cells {l : List FileT} {x y : List UInt8} {k j : Nat} (h : putF l (x, y) = (l.take k ++ [(x, y)]) ++ l.drop j) : [] ++ FC (l.take k) ++ [.string ⟨x.toArray⟩, .string ⟨y.toArray⟩] ++ FC (l.drop j) = FC (putF l (x, y)) := by
  rw [h, FC_append, FC_append]; rfl
theorem put_count {l : List FileT} {x y : List UInt8} {k j : Nat} (h : putF l (x, y) = (l.take k ++ [(x, y)]) ++ l.drop j) (hk : k ≤ l.length) : 0 + k + 1 + (l.length - j) = (putF l (x, y)).length := by
  rw [h]; simp only [List.length_append, List.length_take, List.length_drop, List.length_singleton]; omega

set_option maxRecDepth 20000 in
set_option maxHeartbeats 4000000 in
theorem l3Put_any (l : List FileT) (x y : List UInt8) (v : Value) (w : World) (hrow : RowF w v l) (hl : l.length ≤ 1000) :
    Calls Tryz.prog 18 #[v, .agg #[.string ⟨x.toArray⟩, .string ⟨y.toArray⟩]] w (FilesPost (putF l (x, y)) w) := by
  have HROW := Lib.hid hrow
  obtain ⟨a, cap, rfl, hc1, hc2, hat⟩ := hrow.files
  clear hrow
  unfold maxLen at hc2
  go_enter Tryz.func18, Tryz.ntmps18
  go_wp2_with fail
  have HB0 := Lib.hid (Below.refl (w.heap.size + 1) (w.alloc (.cells #[.string ⟨x.toArray⟩, .string ⟨y.toArray⟩] 44)))
  have s0 : (w.alloc (.cells #[.string ⟨x.toArray⟩, .string ⟨y.toArray⟩] 44)).cell? ⟨w.heap.size, 0, none⟩ = some (.string ⟨x.toArray⟩) := by simp
  have s1 : (w.alloc (.cells #[.string ⟨x.toArray⟩, .string ⟨y.toArray⟩] 44)).cell? ⟨w.heap.size, 1, none⟩ = some (.string ⟨y.toArray⟩) := by simp
  have HA := Lib.hid ((Below.refl w.heap.size w).alloc (Nat.le_refl _) (.cells #[.string ⟨x.toArray⟩, .string ⟨y.toArray⟩] 44))
  have hsz : (w.alloc (.cells #[.string ⟨x.toArray⟩, .string ⟨y.toArray⟩] 44)).heap.size = w.heap.size + 1 := by simp
  generalize w.alloc (.cells #[.string ⟨x.toArray⟩, .string ⟨y.toArray⟩] 44) = wa at HB0 s0 s1 HA hsz
  go_loopw [5] (fun i wr => ∃ k : Nat, k ≤ l.length ∧ i = .int .i64 k ∧ Hid (Below (w.heap.size + 1) wa wr) ∧ Hid (putF l (x, y) = l.take k ++ putF (l.drop k) (x, y))) (fun i _ => l.length - (intOf i).toNat)
  case atStart => exact ⟨0, Nat.zero_le _, rfl, HB0, putF_start l (x, y)⟩
  case round =>
    clear HB0
    obtain ⟨k, hk, rfl, HB, HO⟩ := hrel
    have q0 : wr.cell? ⟨w.heap.size, 0, none⟩ = some (.string ⟨x.toArray⟩) := (HB.out.cell (p := ⟨w.heap.size, 0, none⟩) (by show w.heap.size < w.heap.size + 1; omega)).trans s0
    have q1 : wr.cell? ⟨w.heap.size, 1, none⟩ = some (.string ⟨y.toArray⟩) := (HB.out.cell (p := ⟨w.heap.size, 1, none⟩) (by show w.heap.size < w.heap.size + 1; omega)).trans s1
    have HW := Lib.hid (HA.out.trans (HB.out.mono (by omega)))
    by_cases hlt : k < l.length
    · obtain ⟨g, o, rfl, hg, hcell1, _⟩ := hat k hlt
      have hc1' : wr.cell? ⟨g, o + k * 2, none⟩ = some (.string ⟨(l[k]).1.toArray⟩) := by rw [HW.out.cell (p := ⟨g, o + k * 2, none⟩) hg]; exact hcell1
      have hk0 : decide ((k : Int) < (l.length : Int)) = true := decide_eq_true (by omega)
      rcases hz : ltT l[k].1 x with _ | _
      · have hz1 : Op.bytesLess l[k].1 x = false := hz
        have hlw : w.heap.size < wr.heap.size := by have := HB.out.size; omega
        by_cases he : l[k].1 = x
        · have HP := Lib.hid (putF_there hlt HO.out he)
          have he1 : (l[k].1 == x) = true := by simpa using he
          generalize l[k].1 = z at hc1' hz hz1 he he1
          clear HO hz hat hcell1 he
          go_wp2_with fail
          go_quiet (fail)
          have HWq := Lib.hid (below_drewN HW.out nq)
          have q0q : (wr.drewN nq).cell? ⟨w.heap.size, 0, none⟩ = some (.string ⟨x.toArray⟩) := q0
          have q1q : (wr.drewN nq).cell? ⟨w.heap.size, 1, none⟩ = some (.string ⟨y.toArray⟩) := q1
          have hlq : w.heap.size < (wr.drewN nq).heap.size := hlw
          have cq : (wr.drewN nq).cell? ⟨g, o + k * 2, none⟩ = some (.string ⟨z.toArray⟩) := hc1'
          have hgq : g < (wr.drewN nq).heap.size := Nat.lt_of_lt_of_le hg HWq.out.size
          have HRq := Lib.hid (HROW.out.below HWq.out)
          clear q0 q1 hlw HB HW hc1'
          generalize wr.drewN nq = wq at HWq q0q q1q hlq HRq cq hgq
          have HF := Lib.hid (frontF HRq.out hk)
          go_wp2_with (at_builtin; first
            | (refine wpAppRowG elemF rfl _ _ rfl wq.heap.size _ 0 k [] (FC (l.take k)) _ rfl (lit_nil wq) rfl (HF.out.alloc _) (FC_one _) (by omega) (by simp) ?_
               intro v1 w1 hown1 hg1
               have HN1 := Lib.hid hown1
               have HB1 := Lib.hid (((Below.refl _ wq).alloc (Nat.le_refl _) _).trans (below_ownG (lit_nil wq) hg1 (by simp)))
               have q0w : w1.cell? ⟨w.heap.size, 0, none⟩ = some (.string ⟨x.toArray⟩) := (HB1.out.cell (p := ⟨w.heap.size, 0, none⟩) hlq).trans q0q
               have q1w : w1.cell? ⟨w.heap.size, 1, none⟩ = some (.string ⟨y.toArray⟩) := (HB1.out.cell (p := ⟨w.heap.size, 1, none⟩) hlq).trans q1q
               clear hown1 hg1)
            | (refine wpAppOneG elemF rfl _ _ rfl wq.heap.size _ (0 + k) ([] ++ FC (l.take k)) rfl HN1.out _ rfl rfl rfl (by intro u hu; simp at hu; rcases hu with rfl | rfl <;> rfl) (by omega) HB1.out.size ?_
               intro v2 w2 hown2 hg2
               have HN2 := Lib.hid hown2
               have HB2 := Lib.hid (HB1.out.trans (below_ownG HN1.out hg2 HB1.out.size))
               clear hown2 hg2 q0w q1w))
          have q0v : w2.cell? ⟨w.heap.size, 0, none⟩ = some (.string ⟨x.toArray⟩) := (HB2.out.cell (p := ⟨w.heap.size, 0, none⟩) hlq).trans q0q
          have cv : w2.cell? ⟨g, o + k * 2, none⟩ = some (.string ⟨z.toArray⟩) := (HB2.out.cell (p := ⟨g, o + k * 2, none⟩) hgq).trans cq
          go_quiet (fail)
          have HN3 := Lib.hid (own_drewN HN2.out nq)
          have HB3 := Lib.hid (below_drewN HB2.out nq)
          clear HN1 HB1 HN2 HB2 q0v q0q q1q cv cq hgq
          generalize w2.drewN nq = w3 at HN3 HB3
          obtain ⟨A1, cut1, hD⟩ := backF (k := k + 1) (HRq.out.below HB3.out) (by omega) hc1
          have HD := Lib.hid hD
          clear hD
          have ek : ((k + 1 : Nat) : Int) = (k : Int) + 1 := by omega
          rw [ek] at cut1
          go_wp2_with (at_builtin; refine wpAppRowG elemF rfl _ _ rfl wq.heap.size _ (0 + k + 1) (l.length - (k + 1)) _ (FC (l.drop (k + 1))) _ rfl HN3.out rfl HD.out (FC_one _) (by omega) HB3.out.size ?_; intro v4 w4 hown4 hg4; have HN4 := Lib.hid (own_eq hown4 (put_count HP.out (by omega)) (put_cells HP.out)); have HB4 := Lib.hid (HB3.out.trans (below_ownG HN3.out hg4 HB3.out.size)); clear hown4 hg4)
          go_ret
          exact ⟨_, rfl, own_baseG HN4.out HWq.out.size, HWq.out.trans (HB4.out.mono HWq.out.size)⟩
        · have HP := Lib.hid (putF_new HO.out (fun _ => ⟨hz, he⟩))
          have he1 : (l[k].1 == x) = false := by simpa using he
          generalize l[k].1 = z at hc1' hz hz1 he he1
          clear HO hz hat hcell1 he
          go_wp2_with fail
          go_quiet (fail)
          have HWq := Lib.hid (below_drewN HW.out nq)
          have q0q : (wr.drewN nq).cell? ⟨w.heap.size, 0, none⟩ = some (.string ⟨x.toArray⟩) := q0
          have q1q : (wr.drewN nq).cell? ⟨w.heap.size, 1, none⟩ = some (.string ⟨y.toArray⟩) := q1
          have hlq : w.heap.size < (wr.drewN nq).heap.size := hlw
          have cq : (wr.drewN nq).cell? ⟨g, o + k * 2, none⟩ = some (.string ⟨z.toArray⟩) := hc1'
          have hgq : g < (wr.drewN nq).heap.size := Nat.lt_of_lt_of_le hg HWq.out.size
          have HRq := Lib.hid (HROW.out.below HWq.out)
          clear q0 q1 hlw HB HW hc1'
          generalize wr.drewN nq = wq at HWq q0q q1q hlq HRq cq hgq
          have HF := Lib.hid (frontF HRq.out hk)
          go_wp2_with (at_builtin; first
            | (refine wpAppRowG elemF rfl _ _ rfl wq.heap.size _ 0 k [] (FC (l.take k)) _ rfl (lit_nil wq) rfl (HF.out.alloc _) (FC_one _) (by omega) (by simp) ?_
               intro v1 w1 hown1 hg1
               have HN1 := Lib.hid hown1
               have HB1 := Lib.hid (((Below.refl _ wq).alloc (Nat.le_refl _) _).trans (below_ownG (lit_nil wq) hg1 (by simp)))
               have q0w : w1.cell? ⟨w.heap.size, 0, none⟩ = some (.string ⟨x.toArray⟩) := (HB1.out.cell (p := ⟨w.heap.size, 0, none⟩) hlq).trans q0q
               have q1w : w1.cell? ⟨w.heap.size, 1, none⟩ = some (.string ⟨y.toArray⟩) := (HB1.out.cell (p := ⟨w.heap.size, 1, none⟩) hlq).trans q1q
               clear hown1 hg1)
            | (refine wpAppOneG elemF rfl _ _ rfl wq.heap.size _ (0 + k) ([] ++ FC (l.take k)) rfl HN1.out _ rfl rfl rfl (by intro u hu; simp at hu; rcases hu with rfl | rfl <;> rfl) (by omega) HB1.out.size ?_
               intro v2 w2 hown2 hg2
               have HN2 := Lib.hid hown2
               have HB2 := Lib.hid (HB1.out.trans (below_ownG HN1.out hg2 HB1.out.size))
               clear hown2 hg2 q0w q1w))
          have q0v : w2.cell? ⟨w.heap.size, 0, none⟩ = some (.string ⟨x.toArray⟩) := (HB2.out.cell (p := ⟨w.heap.size, 0, none⟩) hlq).trans q0q
          have cv : w2.cell? ⟨g, o + k * 2, none⟩ = some (.string ⟨z.toArray⟩) := (HB2.out.cell (p := ⟨g, o + k * 2, none⟩) hgq).trans cq
          go_quiet (fail)
          have HN3 := Lib.hid (own_drewN HN2.out nq)
          have HB3 := Lib.hid (below_drewN HB2.out nq)
          clear HN1 HB1 HN2 HB2 q0v q0q q1q cv cq hgq
          generalize w2.drewN nq = w3 at HN3 HB3
          obtain ⟨A1, cut1, hD⟩ := backF (k := k) (HRq.out.below HB3.out) (by omega) hc1
          have HD := Lib.hid hD
          clear hD
          go_wp2_with (at_builtin; refine wpAppRowG elemF rfl _ _ rfl wq.heap.size _ (0 + k + 1) (l.length - (k)) _ (FC (l.drop (k))) _ rfl HN3.out rfl HD.out (FC_one _) (by omega) HB3.out.size ?_; intro v4 w4 hown4 hg4; have HN4 := Lib.hid (own_eq hown4 (put_count HP.out (by omega)) (put_cells HP.out)); have HB4 := Lib.hid (HB3.out.trans (below_ownG HN3.out hg4 HB3.out.size)); clear hown4 hg4)
          go_ret
          exact ⟨_, rfl, own_baseG HN4.out HWq.out.size, HWq.out.trans (HB4.out.mono HWq.out.size)⟩
      · have HP := Lib.hid (putF_less hlt HO.out hz)
        have hz1 : Op.bytesLess l[k].1 x = true := hz
        generalize l[k].1 = z at hc1' hz hz1
        clear HO hz hat hcell1
        go_wp2_with fail
        go_quiet (fail)
        go_wp2_with fail
        go_roundw
        case rel => exact ⟨k + 1, by omega, by go_num, below_drewN HB.out _, HP⟩
        case measure => simp [intOf]; omega
    · have hk0 : decide ((k : Int) < (l.length : Int)) = false := decide_eq_false (by omega)
      have hlw : w.heap.size < wr.heap.size := by have := HB.out.size; omega
      have HP := Lib.hid (putF_new HO.out (fun h => absurd h hlt))
      clear HO hat
      go_wp2_with fail
      go_quiet (fail)
      have HWq := Lib.hid (below_drewN HW.out nq)
      have q0q : (wr.drewN nq).cell? ⟨w.heap.size, 0, none⟩ = some (.string ⟨x.toArray⟩) := q0
      have q1q : (wr.drewN nq).cell? ⟨w.heap.size, 1, none⟩ = some (.string ⟨y.toArray⟩) := q1
      have hlq : w.heap.size < (wr.drewN nq).heap.size := hlw
      have HRq := Lib.hid (HROW.out.below HWq.out)
      clear q0 q1 hlw HB HW
      generalize wr.drewN nq = wq at HWq q0q q1q hlq HRq
      have HF := Lib.hid (frontF HRq.out hk)
      go_wp2_with (at_builtin; first
        | (refine wpAppRowG elemF rfl _ _ rfl wq.heap.size _ 0 k [] (FC (l.take k)) _ rfl (lit_nil wq) rfl (HF.out.alloc _) (FC_one _) (by omega) (by simp) ?_
           intro v1 w1 hown1 hg1
           have HN1 := Lib.hid hown1
           have HB1 := Lib.hid (((Below.refl _ wq).alloc (Nat.le_refl _) _).trans (below_ownG (lit_nil wq) hg1 (by simp)))
           have q0w : w1.cell? ⟨w.heap.size, 0, none⟩ = some (.string ⟨x.toArray⟩) := (HB1.out.cell (p := ⟨w.heap.size, 0, none⟩) hlq).trans q0q
           have q1w : w1.cell? ⟨w.heap.size, 1, none⟩ = some (.string ⟨y.toArray⟩) := (HB1.out.cell (p := ⟨w.heap.size, 1, none⟩) hlq).trans q1q
           clear hown1 hg1)
        | (refine wpAppOneG elemF rfl _ _ rfl wq.heap.size _ (0 + k) ([] ++ FC (l.take k)) rfl HN1.out _ rfl rfl rfl (by intro u hu; simp at hu; rcases hu with rfl | rfl <;> rfl) (by omega) HB1.out.size ?_
           intro v2 w2 hown2 hg2
           have HN2 := Lib.hid hown2
           have HB2 := Lib.hid (HB1.out.trans (below_ownG HN1.out hg2 HB1.out.size))
           clear hown2 hg2 q0w q1w))
      have q0v : w2.cell? ⟨w.heap.size, 0, none⟩ = some (.string ⟨x.toArray⟩) := (HB2.out.cell (p := ⟨w.heap.size, 0, none⟩) hlq).trans q0q
      go_quiet (fail)
      have HN3 := Lib.hid (own_drewN HN2.out nq)
      have HB3 := Lib.hid (below_drewN HB2.out nq)
      clear HN1 HB1 HN2 HB2 q0v q0q q1q
      generalize w2.drewN nq = w3 at HN3 HB3
      obtain ⟨A1, cut1, hD⟩ := backF (k := k) (HRq.out.below HB3.out) (by omega) hc1
      have HD := Lib.hid hD
      clear hD
      go_wp2_with (at_builtin; refine wpAppRowG elemF rfl _ _ rfl wq.heap.size _ (0 + k + 1) (l.length - (k)) _ (FC (l.drop (k))) _ rfl HN3.out rfl HD.out (FC_one _) (by omega) HB3.out.size ?_; intro v4 w4 hown4 hg4; have HN4 := Lib.hid (own_eq hown4 (put_count HP.out (by omega)) (put_cells HP.out)); have HB4 := Lib.hid (HB3.out.trans (below_ownG HN3.out hg4 HB3.out.size)); clear hown4 hg4)
      go_ret
      exact ⟨_, rfl, own_baseG HN4.out HWq.out.size, HWq.out.trans (HB4.out.mono HWq.out.size)⟩

end Go.Proofs.YtgcaplbeahjbmaaGreatDoor

/- Walks: the laws' helpers on lists of texts, by themselves (no lists of numbers). -/
namespace Go.Proofs.YtgcaplbeahjbmaaGreatDoor
open Go.RowKit Pth

/-- A new list of so many zeros. -/
theorem make_row {t e : TypeId} {z : Value} {bytes : Nat} (E : Elem t e z bytes) (hz : z.cells = #[z]) (n : Nat) (w : World) (hn : n ≤ 2000000) :
    ∃ w', (Instr.makeSlice t (.int .i64 (n : Int)) (.int .i64 (n : Int))).run Tryz.prog w = .ok (.slice (some ⟨w.heap.size, 0, none⟩) n n) w' ∧
      w'.ownsRow w.heap.size e 1 (.slice (some ⟨w.heap.size, 0, none⟩) n n) n (List.replicate n z) ∧ Below w.heap.size w w' := by
  obtain ⟨i0, hi, hz0, hz1, hz2⟩ := info_parts E.info
  obtain ⟨w', h1, h2, h3⟩ := run_makeSlice_full (P := Tryz.prog) w w.heap.size t e i0 z 1 E.under hi hz0 hz1 .i64 .i64 n (by omega) (by rw [hz2]; exact Nat.le_trans (Nat.mul_le_mul E.small hn) (by decide)) (by unfold maxLen; omega) (Nat.le_refl _)
  rw [hz, Nat.mul_one, toList_madeCells_one] at h2
  exact ⟨w', h1, h2, (Below.refl _ w).grown h3 (Nat.le_refl _) (fun k hk => by cases hk)⟩

theorem set_row (xs : List Value) (z : Value) (k : Nat) (hk : k < xs.length) : (xs.take k ++ List.replicate (xs.length - k) z).set k xs[k] = xs.take (k + 1) ++ List.replicate (xs.length - (k + 1)) z := by
  have e : xs.length - k = (xs.length - (k + 1)) + 1 := by omega
  rw [e, List.replicate_succ, List.set_append_right _ _ (by rw [List.length_take]; omega)]
  have e2 : k - (xs.take k).length = 0 := by rw [List.length_take]; omega
  rw [e2, List.set_cons_zero, List.take_succ_eq_append_getElem hk, List.append_assoc, List.singleton_append]

theorem get_row (xs : List Value) (z : Value) (k : Nat) (hk : k < xs.length) : (xs.take k ++ List.replicate (xs.length - k) z)[k]? = some z := by
  have hl : (xs.take k).length = k := by rw [List.length_take]; omega
  rw [List.getElem?_append_right (by omega), hl, Nat.sub_self, List.getElem?_replicate, if_pos (by omega)]

theorem only_below {w w' : World} {B g : Nat} (hg : w.grownBy w' (some g)) (h : B ≤ g) (hB : B ≤ w.heap.size) : Below B w w' :=
  (Below.refl B w).grown hg hB (fun k hk => by injection hk with hk; omega)

theorem same_next {α : Type} {a b : List α} {k : Nat} (h : a.take k = b.take k) (h1 : k < a.length) (h2 : k < b.length) (he : a[k] = b[k]) : a.take (k + 1) = b.take (k + 1) := by
  rw [List.take_succ_eq_append_getElem h1, List.take_succ_eq_append_getElem h2, h, he]

theorem same_not {α : Type} {a b : List α} {k : Nat} (h1 : k < a.length) (h2 : k < b.length) (he : ¬ a[k] = b[k]) : ¬ a = b := by
  rintro rfl; exact he rfl

theorem same_all {α : Type} {a b : List α} {k : Nat} (h : a.take k = b.take k) (h1 : a.length ≤ k) (h2 : b.length ≤ k) : a = b := by
  rw [List.take_of_length_le h1, List.take_of_length_le h2] at h; exact h

theorem grown_refl (w : World) (r : Option Nat) : w.grownBy w r := ⟨rfl, rfl, rfl, Nat.le_refl _, fun _ _ _ => rfl⟩

theorem grown_trans {a b c : World} {r : Option Nat} (h : a.grownBy b r) (k : b.grownBy c r) : a.grownBy c r :=
  ⟨k.os.trans h.os, k.tape.trans h.tape, k.output.trans h.output, Nat.le_trans h.size k.size, fun i hi hn => (k.block i (Nat.lt_of_lt_of_le hi h.size) hn).trans (h.block i hi hn)⟩

/-- The digits of a number, ahead of what is there. -/
def digs (k : Nat) (out : List UInt8) : List UInt8 := if h : k = 0 then out else digs (k / 10) (UInt8.ofNat (48 + k % 10) :: out)
termination_by k
decreasing_by omega

def markT (k : Nat) : List UInt8 := 109 :: digs k []

theorem digs_zero (out : List UInt8) : digs 0 out = out := by rw [digs]; simp

theorem digs_pos {k : Nat} (h : 0 < k) (out : List UInt8) : digs k out = digs (k / 10) (UInt8.ofNat (48 + k % 10) :: out) := by rw [digs]; simp; omega

theorem digit_int (k : Nat) : ((UInt8.ofNat (48 + k % 10)).toNat : Int) = 48 + (k : Int) % 10 := by
  have : (UInt8.ofNat (48 + k % 10)).toNat = 48 + k % 10 := by simp; omega
  rw [this]; omega

theorem cat_one (c : UInt8) (out : List UInt8) : (⟨#[c]⟩ : ByteArray) ++ ⟨out.toArray⟩ = ⟨(c :: out).toArray⟩ := by
  apply ByteArray.ext
  apply Array.ext'
  rw [ByteArray.data_append]
  simp

set_option maxHeartbeats 1000000 in
theorem markText_any (k0 : Nat) (w : World) (hk : k0 ≤ 8000000) (h1 : 1 ≤ k0) :
    Calls Tryz.prog 48 #[.int .i64 (k0 : Int)] w fun e w' => e = .returned (.string ⟨(markT k0).toArray⟩) ∧ Below w.heap.size w w' := by
  have hk0 : decide ((k0 : Int) ≤ 0) = false := by simp; omega
  have HZ : Hid (markT k0 = 109 :: digs k0 []) := rfl
  go_enter Tryz.func48, Tryz.ntmps48
  go_wp2_with fail
  go_loopw [0, 3] (fun q s wr => ∃ (k : Nat) (out : List UInt8), k ≤ 8000000 ∧ out.length + k ≤ 8000000 + 20 ∧ q = .int .i64 k ∧ s = .string ⟨out.toArray⟩ ∧ Below w.heap.size w wr ∧ Hid (digs k0 [] = digs k out)) (fun q _ _ => (intOf q).toNat)
  case atStart => exact ⟨k0, [], hk, by simp; omega, rfl, rfl, Below.refl _ _, rfl⟩
  case round =>
    obtain ⟨k, out, hk2, hol, rfl, rfl, hb, HO⟩ := hrel
    have hbs := hb.size
    have HB := Lib.hid hb
    clear hb
    by_cases hlt : 0 < k
    · have HS := Lib.hid (HO.out.trans (digs_pos hlt out))
      obtain ⟨c, hcE, hci⟩ : ∃ c : UInt8, c = UInt8.ofNat (48 + k % 10) ∧ (c.toNat : Int) = 48 + (k : Int) % 10 := ⟨_, rfl, digit_int k⟩
      have hc := run_one_byte c wr
      rw [hci] at hc
      rw [← hcE] at HS
      clear HO hcE hci
      go_wp2_with fail
      go_roundw
      case rel => exact ⟨k / 10, c :: out, by omega, by simp only [List.length_cons]; omega, by go_num, by rw [cat_one], HB.out.alloc hbs _, HS⟩
      case measure => simp [intOf]; omega
    · obtain rfl : k = 0 := by omega
      rw [digs_zero] at HO
      go_wp2_with fail
      go_ret
      exact ⟨by rw [HZ.out, HO.out, ← cat_one] <;> rfl, HB.out⟩

theorem S_get {l : List (List UInt8)} {k : Nat} (hk : k < l.length) : (S l)[k]'(by rw [S_len]; exact hk) = .string ⟨(l[k]).toArray⟩ := by simp [S]

/-- Texts in memory of the call's own. -/
def TextsPost (B : Nat) (l : List (List UInt8)) (w : World) (e : Ending) (w' : World) : Prop :=
  ∃ v, e = .returned v ∧ w'.ownsRow B 9 1 v l.length (S l) ∧ Below w.heap.size w w'

set_option maxHeartbeats 1000000 in
theorem toStringS_any (l : List (List UInt8)) (v : Value) (w : World) (hrow : RowV w v (S l)) (hl : l.length ≤ 2000000) :
    Calls Tryz.prog 21 #[v] w (TextsPost w.heap.size l w) := by
  obtain ⟨a, cap, rfl, hc1, hc2, hat⟩ := hrow.texts
  clear hrow
  unfold maxLen at hc2
  obtain ⟨w0, hmk, hown0, hb0⟩ := make_row elemS rfl l.length w hl
  have HN0 := Lib.hid hown0
  have HB0 := Lib.hid hb0
  clear hown0 hb0
  go_enter Tryz.func21, Tryz.ntmps21
  go_wp2_with fail
  clear hmk
  go_loopw [4] (fun i wr => ∃ k : Nat, k ≤ l.length ∧ i = .int .i64 k ∧ wr.ownsRow w.heap.size 9 1 (.slice (some ⟨w.heap.size, 0, none⟩) l.length l.length) l.length ((S l).take k ++ List.replicate ((S l).length - k) (.string ByteArray.empty)) ∧ Below w.heap.size w wr) (fun i _ => l.length - (intOf i).toNat)
  case atStart => exact ⟨0, Nat.zero_le _, rfl, by rw [S_len]; exact HN0.out, HB0.out⟩
  case round =>
    clear HN0 HB0
    obtain ⟨k, hk, rfl, hown, hb⟩ := hrel
    have hbs := hb.size
    by_cases hlt : k < l.length
    · obtain ⟨g, o, rfl, hg, hcell0⟩ := hat k hlt
      have hcell : wr.cell? ⟨g, o + k, none⟩ = some (.string ⟨(l[k]).toArray⟩) := by rw [hb.cell (p := ⟨g, o + k, none⟩) hg]; exact hcell0
      have hfz := hown.frozenAt k
      have hcz : wr.cell? ⟨w.heap.size, k, none⟩ = some (.string ByteArray.empty) := by rw [hown.cellAt k (by omega), get_row _ _ _ (by rw [S_len]; exact hlt)]
      have hst := hown.stored k (.string ⟨(l[k]).toArray⟩)
      have e := set_row (S l) (.string ByteArray.empty) k (by rw [S_len]; exact hlt)
      rw [S_get hlt] at e
      rw [e] at hst
      have HN1 := Lib.hid hst.1
      have HB1 := Lib.hid (hb.trans (only_below hst.2 (Nat.le_refl _) hbs))
      clear hcell0 hat hown hb hst e
      generalize l[k] = x at hcell HN1 HB1
      go_wp2_with fail
      go_roundw
      case rel => exact ⟨k + 1, by omega, by go_num, HN1.out, HB1.out⟩
      case measure => simp [intOf]; omega
    · have HN1 : Hid (wr.ownsRow w.heap.size 9 1 (.slice (some ⟨w.heap.size, 0, none⟩) l.length l.length) l.length (S l)) := by
        have e1 : (S l).take k = S l := List.take_of_length_le (by rw [S_len]; omega)
        have e2 : (S l).length - k = 0 := by rw [S_len]; omega
        rw [e1, e2, List.replicate_zero, List.append_nil] at hown
        exact hown
      have HB := Lib.hid hb
      clear hown hb hat
      go_wp2_with fail
      go_ret
      exact ⟨_, rfl, HN1.out, HB.out⟩

set_option maxHeartbeats 1000000 in
theorem eqStringS_any (l m : List (List UInt8)) (v u : Value) (w : World) (hr1 : RowV w v (S l)) (hr2 : RowV w u (S m)) (hl : l.length ≤ 2000000) :
    Calls Tryz.prog 27 #[v, u] w fun e w' => e = .returned (.bool (decide (l = m))) ∧ Below w.heap.size w w' := by
  obtain ⟨a, cap, rfl, hc1, hc2, hat⟩ := hr1.texts
  obtain ⟨a2, cap2, rfl, hc3, hc4, hat2⟩ := hr2.texts
  clear hr1 hr2
  unfold maxLen at hc2 hc4
  by_cases hlen : l.length = m.length
  · have hlen1 : ((l.length : Int) != (m.length : Int)) = false := by simp [hlen]
    go_enter Tryz.func27, Tryz.ntmps27
    go_wp2_with fail
    go_loopw [5] (fun i wr => ∃ k : Nat, k ≤ l.length ∧ i = .int .i64 k ∧ Hid (l.take k = m.take k) ∧ Below w.heap.size w wr) (fun i _ => l.length - (intOf i).toNat)
    case atStart => exact ⟨0, Nat.zero_le _, rfl, rfl, Below.refl _ _⟩
    case round =>
      obtain ⟨k, hk, rfl, HO, hb⟩ := hrel
      have HB := Lib.hid hb
      by_cases hlt : k < l.length
      · obtain ⟨g, o, rfl, hg, hcell0⟩ := hat k hlt
        obtain ⟨g2, o2, rfl, hg2, hcell02⟩ := hat2 k (by omega)
        have hcell : wr.cell? ⟨g, o + k, none⟩ = some (.string ⟨(l[k]).toArray⟩) := by rw [hb.cell (p := ⟨g, o + k, none⟩) hg]; exact hcell0
        have hcell2 : wr.cell? ⟨g2, o2 + k, none⟩ = some (.string ⟨(m[k]).toArray⟩) := by rw [hb.cell (p := ⟨g2, o2 + k, none⟩) hg2]; exact hcell02
        clear hcell0 hcell02 hat hat2 hb
        have hi1 : (k : Int) < (l.length : Int) := by omega
        have hi2 : (k : Int) < (m.length : Int) := by omega
        by_cases he : l[k] = m[k]
        · have HS := Lib.hid (same_next HO.out hlt (by omega) he)
          have he1 : (l[k] != m[k]) = false := by simp [he]
          have he2 : (l[k] == m[k]) = true := by simp [he]
          generalize l[k] = x at hcell he1 he he2
          generalize m[k] = y at hcell2 he1 he he2
          clear HO
          go_wp2_with fail
          go_quiet (fail)
          go_wp2_with fail
          go_roundw
          case rel => exact ⟨k + 1, by omega, by go_num, HS, below_drewN HB.out _⟩
          case measure => simp [intOf]; omega
        · have HS : Hid (decide (l = m) = false) := decide_eq_false (same_not hlt (by omega) he)
          have he1 : (l[k] != m[k]) = true := by simp [he]
          have he2 : (l[k] == m[k]) = false := by simp [he]
          generalize l[k] = x at hcell he1 he he2
          generalize m[k] = y at hcell2 he1 he he2
          clear HO
          go_wp2_with fail
          go_quiet (fail)
          go_wp2_with fail
          go_ret
          exact ⟨ret_bool HS.out.symm, below_drewN HB.out _⟩
      · have HS : Hid (decide (l = m) = true) := decide_eq_true (same_all HO.out (by omega) (by omega))
        clear HO hat hat2 hb
        go_wp2_with fail
        go_ret
        exact ⟨ret_bool HS.out.symm, HB.out⟩
  · have hlen1 : ((l.length : Int) != (m.length : Int)) = true := by simp; omega
    have HS : Hid (decide (l = m) = false) := decide_eq_false (fun h => hlen (by rw [h]))
    clear hat hat2
    go_enter Tryz.func27, Tryz.ntmps27
    go_wp2_with fail
    go_ret
    exact ⟨ret_bool HS.out.symm, Below.refl _ _⟩

set_option maxHeartbeats 1000000 in
theorem szStringS_any (l : List (List UInt8)) (left : Nat) (v : Value) (w : World) (hrow : RowV w v (S l)) (hx : ∀ x ∈ l, x.length ≤ maxLen) (hl : left ≤ 2000000) :
    Calls Tryz.prog 15 #[v, .int .i64 (left : Int)] w fun e w' => ∃ r : Int, e = .returned (.int .i64 r) ∧ (0 ≤ r → l.length ≤ left ∧ ∀ x ∈ l, x.length ≤ left) ∧ w = w' := by
  obtain ⟨a, cap, rfl, hc1, hc2, hat⟩ := hrow.texts
  clear hrow
  unfold maxLen at hc2 hx
  by_cases hlen : l.length ≤ left
  · have hlen1 : decide ((left : Int) - (l.length : Int) < 0) = false := by simp; omega
    go_enter Tryz.func15, Tryz.ntmps15
    go_wp2_with fail
    go_loop [1, 5] (fun q i => ∃ (k : Nat) (r : Int), k ≤ l.length ∧ 0 ≤ r ∧ r ≤ left ∧ q = .int .i64 r ∧ i = .int .i64 k ∧ Hid (∀ x ∈ l.take k, x.length ≤ left)) (fun _ i => l.length - (intOf i).toNat)
    case atStart => exact ⟨0, (left : Int) - (l.length : Int), Nat.zero_le _, by omega, by omega, rfl, rfl, by simp [Hid]⟩
    case round =>
      obtain ⟨k, r, hk, hr0, hr1, rfl, rfl, HO⟩ := hrel
      by_cases hlt : k < l.length
      · obtain ⟨g, o, rfl, hg, hcell⟩ := hat k hlt
        have hxl := hx l[k] (List.getElem_mem hlt)
        by_cases hy : ((l[k]).length : Int) ≤ r
        · have HS : Hid (∀ x ∈ l.take (k + 1), x.length ≤ left) := by
            intro x hxm
            rw [List.take_succ_eq_append_getElem hlt, List.mem_append, List.mem_singleton] at hxm
            rcases hxm with h | h
            · exact HO.out x h
            · rw [h]; omega
          have hy1 : decide (r - ((l[k]).length : Int) < 0) = false := by simp; omega
          generalize l[k] = x at hcell hxl hy hy1
          clear hat HO hx
          go_wp2_with fail
          go_round
          case rel => exact ⟨k + 1, r - (x.length : Int), by omega, by omega, by omega, rfl, by go_num, HS⟩
          case measure => simp [intOf]; omega
        · have hy1 : decide (r - ((l[k]).length : Int) < 0) = true := by simp; omega
          generalize l[k] = x at hcell hxl hy hy1
          clear hat HO hx
          go_wp2_with fail
          go_ret
          exact ⟨-1, rfl, fun h => by omega, rfl⟩
      · have HS : Hid (∀ x ∈ l, x.length ≤ left) := by have := HO.out; rw [List.take_of_length_le (by omega)] at this; exact this
        clear hat HO hx
        go_wp2_with fail
        go_ret
        exact ⟨r, rfl, fun _ => by first | exact ⟨hlen, HS.out⟩ | exact HS.out, rfl⟩
  · have hlen1 : decide ((left : Int) - (l.length : Int) < 0) = true := by simp; omega
    clear hat hx
    go_enter Tryz.func15, Tryz.ntmps15
    go_wp2_with fail
    go_ret
    exact ⟨-1, rfl, fun h => by omega, rfl⟩

/-- The texts that are marks, from k on. -/
def marksT (k : Nat) (n : Nat) : List (List UInt8) := (List.range n).map (fun (i : Nat) => markT (k + i))

theorem marksT_len (k n : Nat) : (marksT k n).length = n := by simp [marksT]

theorem marksT_snoc (k n : Nat) : marksT k (n + 1) = marksT k n ++ [markT (k + n)] := by simp [marksT, List.range_succ]

theorem marksT_at (k n j : Nat) (hj : j < (marksT k n).length) : (marksT k n)[j] = markT (k + j) := by simp [marksT]

theorem markT_set (k : Nat) (l : List (List UInt8)) (j : Nat) (hj : j < l.length) : (S (marksT k j) ++ (S l).drop j).set j (.string ⟨(markT (k + j)).toArray⟩) = S (marksT k (j + 1)) ++ (S l).drop (j + 1) := by
  have hl : (S (marksT k j)).length = j := by rw [S_len, marksT_len]
  rw [List.set_append_right _ _ (by omega), hl, Nat.sub_self, List.drop_eq_getElem_cons (by rw [S_len]; exact hj), List.set_cons_zero, marksT_snoc, S_append, List.append_assoc]
  rfl

theorem markT_get (k : Nat) (l : List (List UInt8)) (j : Nat) (hj : j < l.length) : (S (marksT k j) ++ (S l).drop j)[j]? = some (.string ⟨(l[j]).toArray⟩) := by
  have hl : (S (marksT k j)).length = j := by rw [S_len, marksT_len]
  rw [List.getElem?_append_right (by omega), hl, Nat.sub_self, List.getElem?_drop, Nat.add_zero, List.getElem?_eq_getElem (by rw [S_len]; exact hj), S_get hj]

/-- The list holds the marks, and nothing but its own block has turned. -/
def MarkedT (B : Nat) (v : Value) (k : Nat) (n : Nat) (w : World) (e : Ending) (w' : World) : Prop :=
  e = .returned (.int .i64 ((k : Int) + (n : Int))) ∧ w'.ownsRow B 9 1 v n (S (marksT k n)) ∧ w.grownBy w' v.ownBlock

theorem below_grown {w w' : World} {r : Option Nat} (h : Below w.heap.size w w') : w.grownBy w' r := ⟨h.os, h.tape, h.output, h.size, fun i hi _ => h.block i hi⟩

set_option maxHeartbeats 1000000 in
theorem markStringS_any (l : List (List UInt8)) (k : Nat) (B : Nat) (v : Value) (w : World) (hown : w.ownsRow B 9 1 v l.length (S l)) (hl : l.length ≤ 2000000) (hk : k ≤ 4000000) (hk1 : 1 ≤ k) :
    Calls Tryz.prog 29 #[v, .int .i64 (k : Int)] w (MarkedT B v k l.length w) := by
  have HW := Lib.hid hown
  obtain ⟨a, cap, rfl⟩ := own_slice hown
  clear hown
  go_enter Tryz.func29, Tryz.ntmps29
  go_wp2_with fail
  go_loopw [1, 5] (fun q i wr => ∃ j : Nat, j ≤ l.length ∧ q = .int .i64 ((k : Int) + (j : Int)) ∧ i = .int .i64 j ∧ wr.ownsRow B 9 1 (.slice a l.length cap) l.length (S (marksT k j) ++ (S l).drop j) ∧ w.grownBy wr (Value.slice a l.length cap).ownBlock) (fun _ i _ => l.length - (intOf i).toNat)
  case atStart => exact ⟨0, Nat.zero_le _, by simp, rfl, HW.out, grown_refl _ _⟩
  case round =>
    clear HW
    obtain ⟨j, hj, rfl, rfl, hown, hg⟩ := hrel
    by_cases hlt : j < l.length
    · obtain ⟨g, c2, hv⟩ : ∃ g c2, (Value.slice a l.length cap) = .slice (some ⟨g, 0, none⟩) l.length c2 := by
        rcases hown.2 with ⟨_, h0⟩ | ⟨g, c2, cur, hv, _⟩
        · omega
        · exact ⟨g, c2, hv⟩
      injection hv with hv1 hv2 hv3
      subst hv1
      have hc4 : l.length ≤ cap := by
        rcases hown.2 with ⟨_, h0⟩ | ⟨g, c2, cur, hv, _, _, h5, _⟩
        · omega
        · injection hv with _ _ hv3; omega
      have C := markText_any (k + j) wr (by omega) (by omega)
      have ec : ((k + j : Nat) : Int) = (k : Int) + (j : Int) := by omega
      rw [ec] at C
      have HC := Lib.hid C
      have HN := Lib.hid hown
      have HG := Lib.hid hg
      clear hown hg C ec hv2 hv3
      go_wp2_with fail
      refine HC.out.mono ?_
      rintro e w1 ⟨rfl, hb1⟩
      have hown1 := own_below HN.out hb1
      have hfz := hown1.frozenAt j
      have hcz : w1.cell? ⟨g, j, none⟩ = some (.string ⟨(l[j]).toArray⟩) := by rw [hown1.cellAt j (by omega), markT_get k l j hlt]
      have hst := hown1.stored j (.string ⟨(markT (k + j)).toArray⟩)
      rw [markT_set k l j hlt] at hst
      have HN1 := Lib.hid hst.1
      have HG1 := Lib.hid (grown_trans (grown_trans HG.out (below_grown hb1)) hst.2)
      clear hst hown1 hb1
      generalize l[j] = x at hcz
      generalize markT (k + j) = y at HN1 HG1
      go_wp2_with fail
      go_roundw
      case rel => exact ⟨j + 1, by omega, by go_num, by go_num, HN1.out, HG1.out⟩
      case measure => simp [intOf]; omega
    · obtain rfl : j = l.length := by omega
      have e : (S l).drop l.length = [] := List.drop_of_length_le (by rw [S_len]; omega)
      rw [e, List.append_nil] at hown
      have HN := Lib.hid hown
      have HG := Lib.hid hg
      clear hown hg e
      go_wp2_with fail
      go_ret
      exact ⟨rfl, HN.out, HG.out⟩

set_option maxHeartbeats 1000000 in
theorem heldStringS_any (k n : Nat) (v : Value) (w : World) (hrow : RowV w v (S (marksT k n))) (hn : n ≤ 2000000) (hk : k ≤ 4000000) (hk1 : 1 ≤ k) :
    Calls Tryz.prog 31 #[v, .int .i64 (k : Int)] w fun e w' => e = .returned (.int .i64 ((k : Int) + (n : Int))) ∧ Below w.heap.size w w' := by
  obtain ⟨a, cap, rfl, hc1, hc2, hat⟩ := hrow.texts
  rw [marksT_len] at hc1 ⊢
  clear hrow
  unfold maxLen at hc2
  go_enter Tryz.func31, Tryz.ntmps31
  go_wp2_with fail
  go_loopw [1, 5] (fun q i wr => ∃ j : Nat, j ≤ n ∧ q = .int .i64 ((k : Int) + (j : Int)) ∧ i = .int .i64 j ∧ Below w.heap.size w wr) (fun _ i _ => n - (intOf i).toNat)
  case atStart => exact ⟨0, Nat.zero_le _, by simp, rfl, Below.refl _ _⟩
  case round =>
    obtain ⟨j, hj, rfl, rfl, hb⟩ := hrel
    by_cases hlt : j < n
    · obtain ⟨g, o, rfl, hg, hcell0⟩ := hat j (by rw [marksT_len]; exact hlt)
      rw [marksT_at] at hcell0
      have s0 : wr.cell? ⟨g, o + j, none⟩ = some (.string ⟨(markT (k + j)).toArray⟩) := by rw [hb.cell (p := ⟨g, o + j, none⟩) hg]; exact hcell0
      have hgw : g < wr.heap.size := by have := hb.size; omega
      have C := fun W => markText_any (k + j) W (by omega) (by omega)
      have ec : ((k + j : Nat) : Int) = (k : Int) + (j : Int) := by omega
      rw [ec] at C
      have HC := Lib.hid C
      have HB := Lib.hid hb
      have hj1 : (j : Int) < (n : Int) := by omega
      clear hcell0 hat hb C ec
      generalize markT (k + j) = y at s0 HC
      go_wp2_with fail
      go_region_held3 (fun w' => w'.cell? ⟨g, o + j, none⟩ = some (.string ⟨y.toArray⟩)) (first | exact s0 | exact k0)
        (first | (go_at_call 48; refine (HC.out _).mono ?_; rintro e w5 ⟨rfl, hb5⟩; have k0 := (hb5.cell (p := ⟨g, o + j, none⟩) hgw).trans s0))
      have HB5 := Lib.hid ((Below.drew HB.out).trans (hb5.mono HB.out.size))
      clear hb5 k0
      go_wp2_with fail
      go_roundw
      case rel => exact ⟨j + 1, by omega, by go_num, by go_num, HB5.out⟩
      case measure => simp [intOf]; omega
    · obtain rfl : j = n := by omega
      have HB := Lib.hid hb
      clear hat hb
      go_wp2_with fail
      go_ret
      exact ⟨rfl, HB.out⟩

end Go.Proofs.YtgcaplbeahjbmaaGreatDoor
