/- Walks: the reference's parts of a path. -/
import Derived.Test.YtoahfhidekmodaaDoorXC
import Derived.BigQuiet
namespace Go.Proofs.YtoahfhidekmodaaDoor.D1
open Go.RowKit Pth

theorem S_at {l : List (List UInt8)} {k : Nat} (hk : k < l.length) : (S l)[k]? = some (.string ⟨(l[k]).toArray⟩) := by
  simp [S, hk]

theorem own_at {w : World} {B n : Nat} {v : Value} {l : List (List UInt8)} (h : w.ownsRow B 9 1 v n (S l)) (k : Nat) (hk : k < l.length) :
    ∃ g cap, v = .slice (some ⟨g, 0, none⟩) n cap ∧ B ≤ g ∧ g < w.heap.size ∧ n ≤ cap ∧ cap ≤ maxLen ∧ w.cell? ⟨g, k, none⟩ = some (.string ⟨(l[k]).toArray⟩) := by
  have hn : n = l.length := by have := h.1; rw [S_len] at this; omega
  rcases h.2 with ⟨_, h0⟩ | ⟨g, cap, cur, hv, hB, hh, hnc, hcm, _⟩
  · omega
  · refine ⟨g, cap, hv, hB, lt_of_block hh, hnc, hcm, ?_⟩
    have := h.cells (g := g) (by rw [hv]; rfl) k _ (S_at hk)
    have e : (⟨g, 0, none⟩ : Addr).add k = ⟨g, k, none⟩ := by unfold Addr.add; split <;> simp_all
    rw [e] at this
    exact this

theorem own_pop {w : World} {B g c : Nat} {a : List (List UInt8)} {q : List UInt8} (h : w.ownsRow B 9 1 (.slice (some ⟨g, 0, none⟩) (a.length + 1) c) (a.length + 1) (S (a ++ [q]))) :
    w.ownsRow B 9 1 (.slice (some ⟨g, 0, none⟩) a.length c) a.length (S a) := by
  rcases h.2 with ⟨h0, _⟩ | ⟨g', cap', cur, hv, hB, hh, hn, hcap, hsz, htake⟩
  · cases h0
  · cases hv
    refine ⟨by rw [S_len]; omega, .inr ⟨g, c, cur, rfl, hB, hh, by omega, hcap, hsz, ?_⟩⟩
    have h3 : (cur.toList.take ((a.length + 1) * 1)).take (a.length * 1) = (S (a ++ [q])).take (a.length * 1) := by rw [htake]
    rw [List.take_take, Nat.min_eq_left (by omega)] at h3
    rw [h3, S_snoc, Nat.mul_one]
    have e : a.length = (S a).length := (S_len a).symm
    rw [e]
    simp

theorem l1Rooted_eq {b : Bool} (s : ByteArray) (w : World) (hs : s.size ≤ 1000) (hb : Hid (rootedL s.data.toList = b)) :
    Calls Tryd.prog 46 #[.string s] w fun e w' => e = .returned (.bool b) ∧ w = w' := by
  have h := l1Rooted_any s w (by unfold maxLen; omega)
  rw [hb.out] at h
  exact h

theorem own_base {w : World} {B B' n : Nat} {v : Value} {xs : List Value} (h : w.ownsRow B 9 1 v n xs) (hB : B' ≤ B) : w.ownsRow B' 9 1 v n xs := by
  refine ⟨h.1, ?_⟩
  rcases h.2 with h0 | ⟨g, cap, cur, hv, hg, r⟩
  · exact .inl h0
  · exact .inr ⟨g, cap, cur, hv, by omega, r⟩

/-- The last one of a list, where it has one. -/
theorem last_of (acc : List (List UInt8)) : acc = [] ∨ ∃ a q, acc = a ++ [q] := by
  rcases List.eq_nil_or_concat acc with h | ⟨a, q, h⟩
  · exact .inl h
  · exact .inr ⟨a, q, by rw [h, List.concat_eq_append]⟩

theorem own_last {w : World} {B n : Nat} {v : Value} {a : List (List UInt8)} {q : List UInt8} (h : w.ownsRow B 9 1 v n (S (a ++ [q]))) :
    ∃ g cap, v = .slice (some ⟨g, 0, none⟩) n cap ∧ B ≤ g ∧ g < w.heap.size ∧ n ≤ cap ∧ cap ≤ maxLen ∧ w.cell? ⟨g, a.length, none⟩ = some (.string ⟨q.toArray⟩) := by
  have := own_at h a.length (by simp)
  simpa using this

set_option maxHeartbeats 2000000 in
theorem l1Parts_any (s : ByteArray) (w : World) (hs : s.size ≤ 1000) :
    Calls Tryd.prog 45 #[.string s] w (RowPost w.heap.size (partsL s.data.toList) w) := by
  go_enter Tryd.func45, Tryd.ntmps45
  go_wp2_with (go_at_call 52; refine (l1Split_any s _ hs).mono ?_)
  rintro e w1 ⟨v1, rfl, hown1, hb1⟩
  obtain ⟨ao, cap, rfl⟩ := own_slice hown1
  have hb1s := hb1.size
  have hls := split_len s
  go_wp2_with fail
  go_loopw [3, 10] (fun v i wr => ∃ (acc : List (List UInt8)) (k : Nat), k ≤ (splitL s.data.toList).length ∧ acc.length ≤ k ∧ i = .int .i64 k ∧ wr.ownsRow w1.heap.size 9 1 v acc.length (S acc) ∧ Below w1.heap.size w1 wr ∧
     Hid (partsL s.data.toList = partsFrom (rootedL s.data.toList) acc ((splitL s.data.toList).drop k))) (fun _ i _ => (splitL s.data.toList).length - (intOf i).toNat)
  case atStart => exact ⟨[], 0, Nat.zero_le _, by simp, rfl, World.ownsRow_nil _ _ _ _, Below.refl _ _, rfl⟩
  case round =>
    obtain ⟨acc, k, hk, hal, rfl, hown, hb, HS⟩ := hrel
    have hbs := hb.size
    by_cases hlt : k < (splitL s.data.toList).length
    · obtain ⟨g, cap', hv, hg1, hg2, _, _, hcell⟩ := own_at hown1 k hlt
      injection hv with hv1 hv2 hv3
      subst hv1
      have hcr : wr.cell? ⟨g, k, none⟩ = some (.string ⟨((splitL s.data.toList)[k]).toArray⟩) := by rw [hb.cell (p := ⟨g, k, none⟩) hg2]; exact hcell
      clear hv3 hcell
      have HS2 : Hid (partsL s.data.toList = partsFrom (rootedL s.data.toList) (pstep (rootedL s.data.toList) acc ((splitL s.data.toList)[k])) ((splitL s.data.toList).drop (k + 1))) := parts_step hlt rfl HS.out
      generalize (splitL s.data.toList)[k] = p at hcr HS2
      clear HS
      by_cases hp0 : p = [] ∨ p = [46]
      · rw [pstep_skip hp0] at HS2
        obtain ⟨sv, sc, hsv⟩ := own_slice hown
        subst hsv
        rcases hp0 with hp0 | hp0
        all_goals
          subst hp0
          go_wp2_with fail
          go_roundw
          case rel => exact ⟨acc, k + 1, by omega, by omega, by go_num, hown, hb, HS2⟩
          case measure => simp [intOf]; omega
      · by_cases hp1 : p = dots
        · subst hp1
          unfold dots at hcr
          clear hp0
          rcases last_of acc with hacc | ⟨a, q, hacc⟩
          · subst hacc
            obtain ⟨sv, sc, hsv⟩ := own_slice hown
            subst hsv
            rcases hr : rootedL s.data.toList with _ | _
            · rw [hr, pstep_up0] at HS2
              have HR : Hid (rootedL s.data.toList = false) := hr
              clear hr
              go_wp2_with (first | (go_at_call 46; refine (l1Rooted_eq s _ hs HR).mono ?_; rintro e w' ⟨rfl, rfl⟩) | (at_builtin; refine wpApp rfl _ _ rfl w1.heap.size _ [] dots rfl rfl hown _ rfl rfl (by simp) hbs ?_; intro v' w2 hown2 hb2 hg2))
              go_roundw
              case rel => exact ⟨[] ++ [dots], k + 1, by omega, by simp, by go_num, hown2, hb.trans hb2, HS2⟩
              case measure => simp [intOf]; omega
            · rw [hr, pstep_stay0] at HS2
              have HR : Hid (rootedL s.data.toList = true) := hr
              clear hr
              go_wp2_with (go_at_call 46; refine (l1Rooted_eq s _ hs HR).mono ?_; rintro e w' ⟨rfl, rfl⟩)
              go_roundw
              case rel => exact ⟨[], k + 1, by omega, by simp, by go_num, hown, hb, HS2⟩
              case measure => simp [intOf]; omega
          · subst hacc
            have hn : (a ++ [q]).length = a.length + 1 := by simp
            rw [hn] at hown hal
            obtain ⟨g2, c2, hsv, hg3, hg4, hc3, hc4, hlast⟩ := own_last hown
            unfold maxLen at hc4
            subst hsv
            clear hn
            by_cases hq : q = dots
            · subst hq
              unfold dots at hlast
              rcases hr : rootedL s.data.toList with _ | _
              · rw [hr, pstep_up] at HS2
                have HR : Hid (rootedL s.data.toList = false) := hr
                clear hr
                go_wp2_with (first | (go_at_call 46; refine (l1Rooted_eq s _ hs HR).mono ?_; rintro e w' ⟨rfl, rfl⟩) | (at_builtin; refine wpApp rfl _ _ rfl w1.heap.size _ (a ++ [dots]) dots rfl rfl (by rw [List.length_append]; exact hown) _ rfl rfl (by simp; omega) hbs ?_; intro v' w2 hown2 hb2 hg2))
                go_roundw
                case rel => exact ⟨(a ++ [dots]) ++ [dots], k + 1, by omega, by simp; omega, by go_num, hown2, hb.trans hb2, HS2⟩
                case measure => simp [intOf]; omega
              · rw [hr, pstep_stay] at HS2
                have HR : Hid (rootedL s.data.toList = true) := hr
                clear hr
                go_wp2_with (go_at_call 46; refine (l1Rooted_eq s _ hs HR).mono ?_; rintro e w' ⟨rfl, rfl⟩)
                go_roundw
                case rel => exact ⟨a ++ [dots], k + 1, by omega, by simp; omega, by go_num, by rw [List.length_append]; exact hown, hb, HS2⟩
                case measure => simp [intOf]; omega
            · rw [pstep_drop hq] at HS2
              have hq1 : ¬ q = [46, 46] := hq
              have hq2 : (q == [46, 46]) = false := by simpa using hq1
              clear hq
              go_wp2_with fail
              go_roundw
              case rel => exact ⟨a, k + 1, by omega, by omega, by go_num, own_pop hown, hb, HS2⟩
              case measure => simp [intOf]; omega
        · have hp2 : ¬ p = [] := fun h => hp0 (.inl h)
          have hp3 : ¬ p = [46] := fun h => hp0 (.inr h)
          rw [pstep_name hp2 hp3 hp1] at HS2
          have hp4 : p.isEmpty = false := by simpa using hp2
          have hp5 : (p == [46]) = false := by simpa using hp3
          have hp6 : (p == [46, 46]) = false := by simpa [dots] using hp1
          have hp7 : ¬ p = [46, 46] := hp1
          clear hp0 hp1
          obtain ⟨sv, sc, hsv⟩ := own_slice hown
          subst hsv
          go_wp2_with (at_builtin; refine wpApp rfl _ _ rfl w1.heap.size _ acc p rfl rfl hown _ rfl rfl (by omega) hbs ?_; intro v' w2 hown2 hb2 hg2)
          go_roundw
          case rel => exact ⟨acc ++ [p], k + 1, by omega, by simp; omega, by go_num, hown2, hb.trans hb2, HS2⟩
          case measure => simp [intOf]; omega
    · go_wp2_with fail
      go_ret
      exact ⟨_, rfl, by rw [parts_end (k := k) (by omega) HS.out]; exact own_base hown hb1s, hb1.trans (hb.mono hb1s)⟩

end Go.Proofs.YtoahfhidekmodaaDoor.D1
