/- Walks: files without a name, names put and dropped (the reference). -/
import Derived.Test.YtoahfhidekmodaaDoorGc
import Derived.Test.YtoahfhidekmodaaDoorQs
namespace Go.Proofs.YtoahfhidekmodaaDoor
open Go.RowKit Pth

theorem drop_keep {l acc : List FileT} {n : List UInt8} {k : Nat} (hk : k < l.length) (h : acc = dropF (l.take k) n) (hx : ¬ l[k].1 = n) : acc ++ [l[k]] = dropF (l.take (k + 1)) n := by
  rw [List.take_succ_eq_append_getElem hk, dropF, List.filter_append, ← dropF, ← h]; simp [hx]
theorem drop_skip {l acc : List FileT} {n : List UInt8} {k : Nat} (hk : k < l.length) (h : acc = dropF (l.take k) n) (hx : l[k].1 = n) : acc = dropF (l.take (k + 1)) n := by
  rw [List.take_succ_eq_append_getElem hk, dropF, List.filter_append, ← dropF, ← h]; simp [hx]
theorem dropN_keep {l acc : List (List UInt8)} {n : List UInt8} {k : Nat} (hk : k < l.length) (h : acc = dropN (l.take k) n) (hx : ¬ l[k] = n) : acc ++ [l[k]] = dropN (l.take (k + 1)) n := by
  rw [List.take_succ_eq_append_getElem hk, dropN, List.filter_append, ← dropN, ← h]; simp [hx]
theorem dropN_skip {l acc : List (List UInt8)} {n : List UInt8} {k : Nat} (hk : k < l.length) (h : acc = dropN (l.take k) n) (hx : l[k] = n) : acc = dropN (l.take (k + 1)) n := by
  rw [List.take_succ_eq_append_getElem hk, dropN, List.filter_append, ← dropN, ← h]; simp [hx]
theorem file_snoc {w : World} {B : Nat} {v : Value} {l : List FileT} {x y : List UInt8} (h : w.ownsRow B 45 2 v (l.length + 1) (FC l ++ [.string ⟨x.toArray⟩, .string ⟨y.toArray⟩])) : w.ownsRow B 45 2 v (l ++ [(x, y)]).length (FC (l ++ [(x, y)])) :=
  own_eq h (by simp) (by rw [FC_append]; rfl)

set_option maxRecDepth 20000 in
set_option maxHeartbeats 2000000 in
theorem l3Drop_any (l : List FileT) (n : List UInt8) (v : Value) (w : World) (hrow : RowF w v l) (hl : l.length ≤ 1000) :
    Calls Tryd.prog 40 #[v, .string ⟨n.toArray⟩] w (FilesPost (dropF l n) w) := by
  obtain ⟨a, cap, rfl, hc1, hc2, hat⟩ := hrow.files
  clear hrow
  unfold maxLen at hc2
  go_enter Tryd.func40, Tryd.ntmps40
  go_wp2_with fail
  go_loopw [5, 10] (fun u i wr => ∃ (acc : List FileT) (k : Nat), k ≤ l.length ∧ acc.length ≤ k ∧ i = .int .i64 k ∧ Hid (wr.ownsRow w.heap.size 45 2 u acc.length (FC acc)) ∧ Hid (Below w.heap.size w wr) ∧ Hid (acc = dropF (l.take k) n)) (fun _ i _ => l.length - (intOf i).toNat)
  case atStart => exact ⟨[], 0, Nat.zero_le _, by simp, rfl, World.ownsRow_nil _ _ _ _, Below.refl _ _, rfl⟩
  case round =>
    obtain ⟨acc, k, hk, hal, rfl, HN, HB, HO⟩ := hrel
    have hbs := HB.out.size
    by_cases hlt : k < l.length
    · obtain ⟨g, o, rfl, hg, hcell1, hcell2⟩ := hat k hlt
      have hc1' : wr.cell? ⟨g, o + k * 2, none⟩ = some (.string ⟨(l[k]).1.toArray⟩) := by rw [HB.out.cell (p := ⟨g, o + k * 2, none⟩) hg]; exact hcell1
      have hc2' : wr.cell? ⟨g, o + k * 2 + 1, none⟩ = some (.string ⟨(l[k]).2.toArray⟩) := by rw [HB.out.cell (p := ⟨g, o + k * 2 + 1, none⟩) hg]; exact hcell2
      clear hcell1 hcell2 hat
      have HNa := fun o => Lib.hid (HN.out.alloc o)
      have HBa := fun o => Lib.hid (HB.out.alloc hbs o)
      by_cases hx : l[k].1 = n
      · have HR := Lib.hid (drop_skip hlt HO.out hx)
        have hx1 : (l[k].1 == n) = true := by simpa using hx
        generalize l[k].1 = x at hc1' hx hx1
        generalize l[k].2 = y at hc2'
        clear HO hx
        go_wp2_with fail
        go_roundw
        case rel => exact ⟨acc, k + 1, by omega, by omega, by go_num, HNa _, HBa _, HR⟩
        case measure => simp [intOf]; omega
      · have HR := Lib.hid (drop_keep hlt HO.out hx)
        have hx1 : (l[k].1 == n) = false := by simpa using hx
        have epair : l[k] = (l[k].1, l[k].2) := rfl
        rw [epair] at HR
        generalize l[k].1 = x at hc1' hx hx1 HR
        generalize l[k].2 = y at hc2' HR
        clear HO hx epair
        go_wp2_with (at_builtin; refine wpAppOneG elemF rfl _ _ rfl w.heap.size _ acc.length (FC acc) rfl (HNa _).out _ rfl (by simp) rfl (by intro u hu; simp at hu; rcases hu with rfl | rfl <;> rfl) (by omega) (HBa _).out.size ?_; intro v2 w2 hown2 hg2; have HN2 := Lib.hid (file_snoc hown2); have HB2 := Lib.hid ((HBa _).out.trans (below_ownG (HNa _).out hg2 (HBa _).out.size)); clear hown2 hg2)
        go_roundw
        case rel => exact ⟨acc ++ [(x, y)], k + 1, by omega, by simp; omega, by go_num, HN2, HB2, HR⟩
        case measure => simp [intOf]; omega
    · have HR : Hid (acc = dropF l n) := by have := HO.out; rw [List.take_of_length_le (by omega)] at this; exact this
      clear HO hat
      go_wp2_with fail
      go_ret
      exact ⟨_, rfl, by rw [← HR.out]; exact HN.out, HB.out⟩

theorem S_take (l : List (List UInt8)) (k : Nat) : (S l).take k = S (l.take k) := by simp [S, List.map_take]
theorem S_drop (l : List (List UInt8)) (k : Nat) : (S l).drop k = S (l.drop k) := by simp [S, List.map_drop]
/-- A slice of texts cut from k on. -/
theorem run_cutS (a : Option Addr) (n c k : Nat) (hk : k ≤ n) (_hc : n ≤ c) (W : World) :
    (Instr.slice 29 (.slice a n c) (some (.int .i64 (k : Int))) none none).run Tryd.prog W = .ok (.slice (if c = k then a else a.map (·.add (k * 1))) (n - k) (c - k)) W := by
  have h1 : (k : Int) ≤ n := by omega
  by_cases h : c = k
  · go_simp
  · go_simp
theorem cutS {w : World} {a : Option Addr} {l : List (List UInt8)} {cap k : Nat} (h : RowV w (.slice a l.length cap) (S l)) (hk : k ≤ l.length) (hc : l.length ≤ cap) :
    RowV w (.slice a k cap) (S (l.take k)) ∧ ∃ A1, (∀ W, (Instr.slice 29 (.slice a l.length cap) (some (.int .i64 (k : Int))) none none).run Tryd.prog W = .ok (.slice A1 (l.length - k) (cap - k)) W) ∧ RowV w (.slice A1 (l.length - k) (cap - k)) (S (l.drop k)) := by
  have r0 : RowV w (.slice a (S l).length cap) (S l) := by rw [S_len]; exact h
  have hF := r0.front k (by rw [S_len]; omega)
  have hD := r0.back k (by rw [S_len]; omega)
  rw [S_take] at hF
  rw [S_drop, S_len] at hD
  exact ⟨hF, _, run_cutS a l.length cap k hk hc, hD⟩
theorem putS_first {w : World} {B e : Nat} {v : Value} {l : List (List UInt8)} (h : w.ownsRow B e 1 v ([] ++ S l).length ([] ++ S l)) : w.ownsRow B e 1 v (S l).length (S l) := h
theorem putS_second {w : World} {B e : Nat} {v : Value} {l : List (List UInt8)} {n : List UInt8} (h : w.ownsRow B e 1 v (S l ++ [Value.string ⟨n.toArray⟩]).length (S l ++ [Value.string ⟨n.toArray⟩])) : w.ownsRow B e 1 v (S (l ++ [n])).length (S (l ++ [n])) := by
  rw [S_append]; exact h
theorem putS_third {w : World} {B e : Nat} {v : Value} {l m r : List (List UInt8)} (h : w.ownsRow B e 1 v (S l ++ S m).length (S l ++ S m)) (hr : r = l ++ m) : w.ownsRow B e 1 v r.length (S r) := by
  rw [← S_append, S_len] at h; rw [hr]; exact h
theorem litS_nil (w : World) : (w.alloc (.cells #[] 9)).ownsRow w.heap.size 9 1 (.slice (some ⟨w.heap.size, 0, none⟩) 0 0) ([] : List Value).length [] := World.ownsRow_lit w #[] 0 (Nat.le_refl _) (by unfold maxLen; omega) rfl

end Go.Proofs.YtoahfhidekmodaaDoor
