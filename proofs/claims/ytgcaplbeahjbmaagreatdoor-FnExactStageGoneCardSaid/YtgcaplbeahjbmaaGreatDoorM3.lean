/- Texts of one claim, joined in their order. -/
import Derived.Test.YtgcaplbeahjbmaaGreatDoorRows
import Derived.WalkKit
import Derived.WalkSpells
import Derived.WalkLawsBesides
import Derived.Deep.Light
import Derived.Shelf.Strings.Builder1
import Derived.Shelf.Small.Bits
import Derived.Shelf.Small.Strs
import Derived.Shelf.Strings.BuilderF
import Derived.Shelf.Strings.BuilderK
import Derived.Shelf.Utf8.RuneCount
import Derived.Shelf.Strconv.Itoa0
import Derived.Shelf.LaysM
import Derived.Shelf.Strconv.Clone
import Derived.Shelf.Strings.Search1
import Derived.Shelf.Strings.Search2
import Derived.Shelf.Strings.Search3
import Derived.Shelf.Strings.Count
import Derived.Shelf.Strings.Shaped
import Derived.Shelf.Sort.Plain
import Derived.Shelf.Strings.Prefix
import Derived.Shelf.Strings.Split
import Derived.Shelf.Strings.SplitShaped
import Derived.Shelf.Unicode.Decode
import Derived.Shelf.Strings.RuneCount
import Derived.Shelf.Strings.Explode
import Derived.Shelf.Unicode.DecodeSlow
import Derived.Shelf.Unicode.DecodeAny
import Derived.Shelf.Strings.BuilderCap
import Derived.Shelf.Slices.In.SortNone
import Derived.Test.YtgcaplbeahjbmaaGreatDoorProg
import Derived.Deep.LoopGhost
import Derived.Deep.DeepMust
import Derived.BigQuiet
import Derived.Test.YtgcaplbeahjbmaaGreatDoorM2
import Derived.Test.YtgcaplbeahjbmaaGreatDoorM1

/- Walks: files without a name, names put and dropped (the reference). -/
namespace Go.Proofs.YtgcaplbeahjbmaaGreatDoor
open Go.RowKit Pth

theorem drop_keep {l acc : List FileT} {n : List UInt8} {k : Nat} (hk : k < l.length) (h : acc = dropF (l.take k) n) (hx : ¬ l[k].1 = n) : acc ++ [l[k]] = dropF (l.take (k + 1)) n := by
  rw [List.take_succ_eq_append_getElem hk, dropF, List.filter_append, ← dropF, ← h]; simp [hx]
theorem drop_skip {l acc : List FileT} {n : List UInt8} {k : Nat} (hk : k < l.length) (h : acc = dropF (l.take k) n) (hx : l[k].1 = n) : acc = dropF (l.take (k + 1)) n := by
  rw [List.take_succ_eq_append_getElem hk, dropF, List.filter_append, ← dropF, ← h]; simp [hx]
theorem dropN_keep {l acc : List (List UInt8)} {n : List UInt8} {k : Nat} (hk : k < l.length) (h : acc = dropN (l.take k) n) (hx : ¬ l[k] = n) : acc ++ [l[k]] = dropN (l.take (k + 1)) n := by
  rw [List.take_succ_eq_append_getElem hk, dropN, List.filter_append, ← dropN, ← h]; simp [hx]
theorem dropN_skip {l acc : List (List UInt8)} {n : List UInt8} {k : Nat} (hk : k < l.length) (h : acc = dropN (l.take k) n) (hx : l[k] = n) : acc = dropN (l.take (k + 1)) n := by
  rw [List.take_succ_eq_append_getElem hk, dropN, List.filter_append, ← dropN, ← h]; simp [hx]
theorem file_snoc {w : World} {B : Nat} {v : Value} {l : List FileT} {x y : List UInt8} (h : w.ownsRow B 44 2 v (l.length + 1) (FC l ++ [.string ⟨x.toArray⟩, .string ⟨y.toArray⟩])) : w.ownsRow B 44 2 v (l ++ [(x, y)]).length (FC (l ++ [(x, y)])) :=
  own_eq h (by simp) (by rw [FC_append]; rfl)

set_option maxRecDepth 20000 in
set_option maxHeartbeats 2000000 in
theorem l3Drop_any (l : List FileT) (n : List UInt8) (v : Value) (w : World) (hrow : RowF w v l) (hl : l.length ≤ 1000) :
    Calls Tryz.prog 32 #[v, .string ⟨n.toArray⟩] w (FilesPost (dropF l n) w) := by
  obtain ⟨a, cap, rfl, hc1, hc2, hat⟩ := hrow.files
  clear hrow
  unfold maxLen at hc2
  go_enter Tryz.func32, Tryz.ntmps32
  go_wp2_with fail
  go_loopw [5, 10] (fun u i wr => ∃ (acc : List FileT) (k : Nat), k ≤ l.length ∧ acc.length ≤ k ∧ i = .int .i64 k ∧ Hid (wr.ownsRow w.heap.size 44 2 u acc.length (FC acc)) ∧ Hid (Below w.heap.size w wr) ∧ Hid (acc = dropF (l.take k) n)) (fun _ i _ => l.length - (intOf i).toNat)
  case atStart => exact ⟨[], 0, Nat.zero_le _, by simp, rfl, World.ownsRow_nil _ _ _ _, Below.refl _ _, rfl⟩
  case round =>
    obtain ⟨acc, k, hk, hal, rfl, HN, HB, HO⟩ := hrel
    have hbs := HB.out.size
    by_cases hlt : k < l.length
    · obtain ⟨g, o, rfl, hg, hcell1, hcell2⟩ := hat k hlt
      have hc1' : wr.cell? ⟨g, o + k * 2, none⟩ = some (.string ⟨(l[k]).1.toArray⟩) := by rw [HB.out.cell (p := ⟨g, o + k * 2, none⟩) hg]; exact hcell1
      have hc2' : wr.cell? ⟨g, o + k * 2 + 1, none⟩ = some (.string ⟨(l[k]).2.toArray⟩) := by rw [HB.out.cell (p := ⟨g, o + k * 2 + 1, none⟩) hg]; exact hcell2
      clear hcell1 hcell2 hat
      have HNa := fun o => Lib.hid (HN.out.alloc o)
      have HBa := fun o => Lib.hid (HB.out.alloc hbs o)
      by_cases hx : l[k].1 = n
      · have HR := Lib.hid (drop_skip hlt HO.out hx)
        have hx1 : (l[k].1 == n) = true := by simpa using hx
        generalize l[k].1 = x at hc1' hx hx1
        generalize l[k].2 = y at hc2'
        clear HO hx
        go_wp2_with fail
        go_roundw
        case rel => exact ⟨acc, k + 1, by omega, by omega, by go_num, HNa _, HBa _, HR⟩
        case measure => simp [intOf]; omega
      · have HR := Lib.hid (drop_keep hlt HO.out hx)
        have hx1 : (l[k].1 == n) = false := by simpa using hx
        have epair : l[k] = (l[k].1, l[k].2) := rfl
        rw [epair] at HR
        generalize l[k].1 = x at hc1' hx hx1 HR
        generalize l[k].2 = y at hc2' HR
        clear HO hx epair
        go_wp2_with (at_builtin; refine wpAppOneG elemF rfl _ _ rfl w.heap.size _ acc.length (FC acc) rfl (HNa _).out _ rfl (by simp) rfl (by intro u hu; simp at hu; rcases hu with rfl | rfl <;> rfl) (by omega) (HBa _).out.size ?_; intro v2 w2 hown2 hg2; have HN2 := Lib.hid (file_snoc hown2); have HB2 := Lib.hid ((HBa _).out.trans (below_ownG (HNa _).out hg2 (HBa _).out.size)); clear hown2 hg2)
        go_roundw
        case rel => exact ⟨acc ++ [(x, y)], k + 1, by omega, by simp; omega, by go_num, HN2, HB2, HR⟩
        case measure => simp [intOf]; omega
    · have HR : Hid (acc = dropF l n) := by have := HO.out; rw [List.take_of_length_le (by omega)] at this; exact this
      clear HO hat
      go_wp2_with fail
      go_ret
      exact ⟨_, rfl, by rw [← HR.out]; exact HN.out, HB.out⟩

set_option maxHeartbeats 2000000 in
theorem l3DropName_any (l : List (List UInt8)) (n : List UInt8) (v : Value) (w : World) (hrow : RowV w v (S l)) (hl : l.length ≤ 1000) :
    Calls Tryz.prog 19 #[v, .string ⟨n.toArray⟩] w (TextsPost w.heap.size (dropN l n) w) := by
  obtain ⟨a, cap, rfl, hc1, hc2, hat⟩ := hrow.texts
  clear hrow
  unfold maxLen at hc2
  go_enter Tryz.func19, Tryz.ntmps19
  go_wp2_with fail
  go_loopw [5, 10] (fun u i wr => ∃ (acc : List (List UInt8)) (k : Nat), k ≤ l.length ∧ acc.length ≤ k ∧ i = .int .i64 k ∧ Hid (wr.ownsRow w.heap.size 9 1 u acc.length (S acc)) ∧ Hid (Below w.heap.size w wr) ∧ Hid (acc = dropN (l.take k) n)) (fun _ i _ => l.length - (intOf i).toNat)
  case atStart => exact ⟨[], 0, Nat.zero_le _, by simp, rfl, World.ownsRow_nil _ _ _ _, Below.refl _ _, rfl⟩
  case round =>
    obtain ⟨acc, k, hk, hal, rfl, HN, HB, HO⟩ := hrel
    by_cases hlt : k < l.length
    · obtain ⟨g, o, rfl, hg, hcell1⟩ := hat k hlt
      have hc1' : wr.cell? ⟨g, o + k, none⟩ = some (.string ⟨(l[k]).toArray⟩) := by rw [HB.out.cell (p := ⟨g, o + k, none⟩) hg]; exact hcell1
      clear hcell1 hat
      by_cases hx : l[k] = n
      · have HR := Lib.hid (dropN_skip hlt HO.out hx)
        have hx1 : (l[k] == n) = true := by simpa using hx
        generalize l[k] = x at hc1' hx hx1
        clear HO hx
        go_wp2_with fail
        go_roundw
        case rel => exact ⟨acc, k + 1, by omega, by omega, by go_num, HN, HB, HR⟩
        case measure => simp [intOf]; omega
      · have HR := Lib.hid (dropN_keep hlt HO.out hx)
        have hx1 : (l[k] == n) = false := by simpa using hx
        generalize l[k] = x at hc1' hx hx1 HR
        clear HO hx
        go_wp2_with (at_builtin; refine wpAppOne elemS rfl _ _ rfl w.heap.size _ (S acc) rfl (by rw [S_len]; exact HN.out) _ rfl rfl rfl (by rw [S_len]; omega) HB.out.size ?_; intro v2 w2 hown2 hg2; have HN2 := Lib.hid (text_snoc hown2); have HB2 := Lib.hid (HB.out.trans (below_own HN.out hg2 HB.out.size)); clear hown2 hg2)
        go_roundw
        case rel => exact ⟨acc ++ [x], k + 1, by omega, by simp; omega, by go_num, HN2, HB2, HR⟩
        case measure => simp [intOf]; omega
    · have HR : Hid (acc = dropN l n) := by have := HO.out; rw [List.take_of_length_le (by omega)] at this; exact this
      clear HO hat
      go_wp2_with fail
      go_ret
      exact ⟨_, rfl, by rw [← HR.out]; exact HN.out, HB.out⟩

theorem S_take (l : List (List UInt8)) (k : Nat) : (S l).take k = S (l.take k) := by simp [S, List.map_take]
theorem S_drop (l : List (List UInt8)) (k : Nat) : (S l).drop k = S (l.drop k) := by simp [S, List.map_drop]
/-- A slice of texts cut from k on. -/
theorem run_cutS (a : Option Addr) (n c k : Nat) (hk : k ≤ n) (_hc : n ≤ c) (W : World) :
    (Instr.slice 23 (.slice a n c) (some (.int .i64 (k : Int))) none none).run Tryz.prog W = .ok (.slice (if c = k then a else a.map (·.add (k * 1))) (n - k) (c - k)) W := by
  have h1 : (k : Int) ≤ n := by omega
  by_cases h : c = k
  · go_simp
  · go_simp
theorem cutS {w : World} {a : Option Addr} {l : List (List UInt8)} {cap k : Nat} (h : RowV w (.slice a l.length cap) (S l)) (hk : k ≤ l.length) (hc : l.length ≤ cap) :
    RowV w (.slice a k cap) (S (l.take k)) ∧ ∃ A1, (∀ W, (Instr.slice 23 (.slice a l.length cap) (some (.int .i64 (k : Int))) none none).run Tryz.prog W = .ok (.slice A1 (l.length - k) (cap - k)) W) ∧ RowV w (.slice A1 (l.length - k) (cap - k)) (S (l.drop k)) := by
  have r0 : RowV w (.slice a (S l).length cap) (S l) := by rw [S_len]; exact h
  have hF := r0.front k (by rw [S_len]; omega)
  have hD := r0.back k (by rw [S_len]; omega)
  rw [S_take] at hF
  rw [S_drop, S_len] at hD
  exact ⟨hF, _, run_cutS a l.length cap k hk hc, hD⟩
theorem putS_first {w : World} {B e : Nat} {v : Value} {l : List (List UInt8)} (h : w.ownsRow B e 1 v ([] ++ S l).length ([] ++ S l)) : w.ownsRow B e 1 v (S l).length (S l) := h
theorem putS_second {w : World} {B e : Nat} {v : Value} {l : List (List UInt8)} {n : List UInt8} (h : w.ownsRow B e 1 v (S l ++ [Value.string ⟨n.toArray⟩]).length (S l ++ [Value.string ⟨n.toArray⟩])) : w.ownsRow B e 1 v (S (l ++ [n])).length (S (l ++ [n])) := by
  rw [S_append]; exact h
theorem putS_third {w : World} {B e : Nat} {v : Value} {l m r : List (List UInt8)} (h : w.ownsRow B e 1 v (S l ++ S m).length (S l ++ S m)) (hr : r = l ++ m) : w.ownsRow B e 1 v r.length (S r) := by
  rw [← S_append, S_len] at h; rw [hr]; exact h
theorem litS_nil (w : World) : (w.alloc (.cells #[] 9)).ownsRow w.heap.size 9 1 (.slice (some ⟨w.heap.size, 0, none⟩) 0 0) ([] : List Value).length [] := World.ownsRow_lit w #[] 0 (Nat.le_refl _) (by unfold maxLen; omega) rfl

end Go.Proofs.YtgcaplbeahjbmaaGreatDoor

/- Walks: a name put to its place; what is taken (the reference). -/
namespace Go.Proofs.YtgcaplbeahjbmaaGreatDoor
open Go.RowKit Pth

set_option maxRecDepth 20000 in
set_option maxHeartbeats 4000000 in
theorem l3PutName_any (l : List (List UInt8)) (n : List UInt8) (v : Value) (w : World) (hrow : RowV w v (S l)) (hl : l.length ≤ 1000) :
    Calls Tryz.prog 33 #[v, .string ⟨n.toArray⟩] w (TextsPost w.heap.size (putN l n) w) := by
  have HROW := Lib.hid hrow
  obtain ⟨a, cap, rfl, hc1, hc2, hat⟩ := hrow.texts
  clear hrow
  unfold maxLen at hc2
  go_enter Tryz.func33, Tryz.ntmps33
  go_wp2_with fail
  go_loop [5] (fun i => ∃ k : Nat, k ≤ l.length ∧ i = .int .i64 k ∧ Hid (putN l n = l.take k ++ putN (l.drop k) n)) (fun i => l.length - (intOf i).toNat)
  case atStart => exact ⟨0, Nat.zero_le _, rfl, putN_start l n⟩
  case round =>
    obtain ⟨k, hk, rfl, HO⟩ := hrel
    by_cases hlt : k < l.length
    · obtain ⟨g, o, rfl, hg, hcell⟩ := hat k hlt
      have hlt1 : decide ((k : Int) < (l.length : Int)) = true := decide_eq_true (by omega)
      rcases hz : ltT l[k] n with _ | _
      · have hz1 : Op.bytesLess l[k] n = false := hz
        by_cases he : l[k] = n
        · have HP := Lib.hid (putN_there hlt HO.out he)
          have he1 : (l[k] == n) = true := by simpa using he
          generalize l[k] = z at hcell hz hz1 he he1
          clear HO hz hat he
          go_wp2_with (at_builtin; refine wpAppRow elemS rfl _ _ rfl w.heap.size _ [] (S l) _ rfl (litS_nil w) rfl (HROW.out.alloc _) (S_one _) (by rw [S_len, List.length_nil]; omega) (by simp) ?_; intro v1 w1 hown1 hg1; have HN1 := Lib.hid (putS_first hown1); have HB1 := Lib.hid (((Below.refl _ w).alloc (Nat.le_refl _) _).trans (below_own (litS_nil w) hg1 (by simp))); clear hown1 hg1)
          go_ret
          exact ⟨_, rfl, by rw [HP.out, ← S_len]; exact HN1.out, HB1.out⟩
        · have HP := Lib.hid (putN_new HO.out (fun _ => ⟨hz, he⟩))
          have he1 : (l[k] == n) = false := by simpa using he
          generalize l[k] = z at hcell hz hz1 he he1
          clear HO hz hat he
          obtain ⟨hF, A1, cut1, hD⟩ := cutS HROW.out hk hc1
          have HF := Lib.hid hF
          have HD := Lib.hid hD
          clear hF hD
          go_wp2_with (at_builtin; first
            | (refine wpAppRow elemS rfl _ _ rfl w.heap.size _ [] (S (l.take k)) _ rfl (litS_nil w) rfl (HF.out.alloc _) (S_one _) (by rw [S_len, List.length_take, List.length_nil]; omega) (by simp) ?_
               intro v1 w1 hown1 hg1
               have HN1 := Lib.hid (putS_first hown1)
               have HB1 := Lib.hid (((Below.refl _ w).alloc (Nat.le_refl _) _).trans (below_own (litS_nil w) hg1 (by simp)))
               clear hown1 hg1)
            | (refine wpAppOne elemS rfl _ _ rfl w.heap.size _ (S (l.take k)) rfl HN1.out _ rfl rfl rfl (by rw [S_len, List.length_take]; omega) HB1.out.size ?_
               intro v2 w2 hown2 hg2
               have HN2 := Lib.hid (putS_second hown2)
               have HB2 := Lib.hid (HB1.out.trans (below_own HN1.out hg2 HB1.out.size))
               clear hown2 hg2)
            | (refine wpAppRow elemS rfl _ _ rfl w.heap.size _ (S (l.take k ++ [n])) (S (l.drop k)) _ rfl HN2.out rfl (HD.out.below HB2.out) (S_one _) (by rw [S_len, S_len, List.length_append, List.length_take, List.length_drop, List.length_singleton]; omega) HB2.out.size ?_
               intro v3 w3 hown3 hg3
               have HN3 := Lib.hid (putS_third hown3 HP.out)
               have HB3 := Lib.hid (HB2.out.trans (below_own HN2.out hg3 HB2.out.size))
               clear hown3 hg3))
          go_ret
          exact ⟨_, rfl, HN3.out, HB3.out⟩
      · have HP := Lib.hid (putN_less hlt HO.out hz)
        have hz1 : Op.bytesLess l[k] n = true := hz
        generalize l[k] = z at hcell hz hz1
        clear HO hz hat
        go_wp2_with fail
        go_round
        case rel => exact ⟨k + 1, by omega, by go_num, HP⟩
        case measure => simp [intOf]; omega
    · have hlt1 : decide ((k : Int) < (l.length : Int)) = false := decide_eq_false (by omega)
      have HP := Lib.hid (putN_new HO.out (fun h => absurd h hlt))
      clear HO hat
      obtain ⟨hF, A1, cut1, hD⟩ := cutS HROW.out hk hc1
      have HF := Lib.hid hF
      have HD := Lib.hid hD
      clear hF hD
      go_wp2_with (at_builtin; first
        | (refine wpAppRow elemS rfl _ _ rfl w.heap.size _ [] (S (l.take k)) _ rfl (litS_nil w) rfl (HF.out.alloc _) (S_one _) (by rw [S_len, List.length_take, List.length_nil]; omega) (by simp) ?_
           intro v1 w1 hown1 hg1
           have HN1 := Lib.hid (putS_first hown1)
           have HB1 := Lib.hid (((Below.refl _ w).alloc (Nat.le_refl _) _).trans (below_own (litS_nil w) hg1 (by simp)))
           clear hown1 hg1)
        | (refine wpAppOne elemS rfl _ _ rfl w.heap.size _ (S (l.take k)) rfl HN1.out _ rfl rfl rfl (by rw [S_len, List.length_take]; omega) HB1.out.size ?_
           intro v2 w2 hown2 hg2
           have HN2 := Lib.hid (putS_second hown2)
           have HB2 := Lib.hid (HB1.out.trans (below_own HN1.out hg2 HB1.out.size))
           clear hown2 hg2)
        | (refine wpAppRow elemS rfl _ _ rfl w.heap.size _ (S (l.take k ++ [n])) (S (l.drop k)) _ rfl HN2.out rfl (HD.out.below HB2.out) (S_one _) (by rw [S_len, S_len, List.length_append, List.length_take, List.length_drop, List.length_singleton]; omega) HB2.out.size ?_
           intro v3 w3 hown3 hg3
           have HN3 := Lib.hid (putS_third hown3 HP.out)
           have HB3 := Lib.hid (HB2.out.trans (below_own HN2.out hg3 HB2.out.size))
           clear hown3 hg3))
      go_ret
      exact ⟨_, rfl, HN3.out, HB3.out⟩

/-- A store by value: three slices. -/
def StoreV (w : World) (v : Value) (s : StoreT) : Prop := ∃ vf vs vg, v = .agg #[vf, vs, vg] ∧ RowF w vf s.files ∧ RowF w vs s.staged ∧ RowV w vg (S s.gone)
theorem StoreV.below {w w' : World} {v : Value} {s : StoreT} (h : StoreV w v s) (hb : Below w.heap.size w w') : StoreV w' v s := by
  obtain ⟨vf, vs, vg, hv, h1, h2, h3⟩ := h
  exact ⟨vf, vs, vg, hv, h1.below hb, h2.below hb, h3.below hb⟩

theorem fold_put {l : List FileT} {cur : List FileT} {s : StoreT} {k : Nat} (hk : k < s.staged.length) (h : cur = (s.staged.take k).foldl putF s.files) : putF cur s.staged[k] = (s.staged.take (k + 1)).foldl putF s.files := by
  rw [List.take_succ_eq_append_getElem hk, List.foldl_append, ← h]; rfl
theorem fold_drop {m cur : List FileT} {s : StoreT} {k : Nat} (hk : k < s.gone.length) (h : cur = (s.gone.take k).foldl dropF m) : dropF cur s.gone[k] = (s.gone.take (k + 1)).foldl dropF m := by
  rw [List.take_succ_eq_append_getElem hk, List.foldl_append, ← h]; rfl

set_option maxRecDepth 20000 in
set_option maxHeartbeats 4000000 in
theorem l3Taken_any (s : StoreT) (v : Value) (w : World) (hst : StoreV w v s) (hl : s.files.length ≤ 100) (hl2 : s.staged.length ≤ 100) (hl3 : s.gone.length ≤ 100) :
    Calls Tryz.prog 38 #[v] w (FilesPost (takenF s) w) := by
  obtain ⟨vf, vs, vg, rfl, h1, h2, h3⟩ := hst
  have H1 := Lib.hid h1
  have H2 := Lib.hid h2
  have H3 := Lib.hid h3
  obtain ⟨af, cf, rfl, hf1, hf2, _⟩ := h1.files
  obtain ⟨a2, cs, rfl, hs1, hs2, hats⟩ := h2.files
  obtain ⟨ag, cg, rfl, hg1, hg2, hatg⟩ := h3.texts
  clear h1 h2 h3
  unfold maxLen at hf2 hs2 hg2
  go_enter Tryz.func38, Tryz.ntmps38
  obtain ⟨wa, hwa⟩ : ∃ wa, wa = w.alloc (.cells #[.slice af s.files.length cf, .slice a2 s.staged.length cs, .slice ag s.gone.length cg] 29) := ⟨_, rfl⟩
  have c1 : wa.cell? ⟨w.heap.size, 1, none⟩ = some (.slice a2 s.staged.length cs) := by rw [hwa]; simp
  have c2 : wa.cell? ⟨w.heap.size, 2, none⟩ = some (.slice ag s.gone.length cg) := by rw [hwa]; simp
  have HA : Hid (Below w.heap.size w wa) := by rw [hwa]; exact (Below.refl w.heap.size w).alloc (Nat.le_refl _) _
  have hsz : wa.heap.size = w.heap.size + 1 := by rw [hwa]; simp
  have HWA := Lib.hid hwa
  clear hwa
  go_wp2_with (at_builtin; rw [← HWA.out]; refine wpAppRowG elemF rfl _ _ rfl wa.heap.size _ 0 s.files.length [] (FC s.files) _ rfl (by rw [hsz]; exact hsz ▸ lit_nil wa) rfl ((H1.out.below HA.out).alloc _) (FC_one _) (by omega) (by simp) ?_; intro v1 w1 hown1 hg1; have HN1 := Lib.hid (own_eq hown1 (Nat.zero_add _) (List.nil_append _)); have HB1 := Lib.hid (((Below.refl _ wa).alloc (Nat.le_refl _) _).trans (below_ownG (lit_nil wa) (hsz ▸ hg1) (by simp))); have d1 : w1.cell? ⟨w.heap.size, 1, none⟩ = some (.slice a2 s.staged.length cs) := (HB1.out.cell (p := ⟨w.heap.size, 1, none⟩) (by show w.heap.size < wa.heap.size; omega)).trans c1; clear hown1 hg1)
  have hlen : s.files.length ≤ 100 := hl
  go_loopw [3, 15] (fun u i wr => ∃ (cur : List FileT) (k : Nat), k ≤ s.staged.length ∧ cur.length ≤ s.files.length + k ∧ i = .int .i64 k ∧ Hid (wr.ownsRow wa.heap.size 44 2 u cur.length (FC cur)) ∧ Hid (Below wa.heap.size wa wr) ∧ Hid (cur = (s.staged.take k).foldl putF s.files)) (fun _ i _ => s.staged.length - (intOf i).toNat)
  case atStart => exact ⟨s.files, 0, Nat.zero_le _, by omega, rfl, HN1, HB1, rfl⟩
  case round =>
    clear HN1 HB1 d1
    obtain ⟨cur, k, hk, hcl, rfl, HN, HB, HO⟩ := hrel
    have HW := Lib.hid (HA.out.trans (HB.out.mono HA.out.size))
    have hbs := HB.out.size
    by_cases hlt : k < s.staged.length
    · obtain ⟨g, o, rfl, hg, hcell1, hcell2⟩ := hats k hlt
      have hc1' : wr.cell? ⟨g, o + k * 2, none⟩ = some (.string ⟨(s.staged[k]).1.toArray⟩) := by rw [HW.out.cell (p := ⟨g, o + k * 2, none⟩) hg]; exact hcell1
      have hc2' : wr.cell? ⟨g, o + k * 2 + 1, none⟩ = some (.string ⟨(s.staged[k]).2.toArray⟩) := by rw [HW.out.cell (p := ⟨g, o + k * 2 + 1, none⟩) hg]; exact hcell2
      have HR := Lib.hid (fold_put (l := []) hlt HO.out)
      have hpl := putF_len cur s.staged[k]
      have epair : s.staged[k] = (s.staged[k].1, s.staged[k].2) := rfl
      rw [epair] at HR hpl
      generalize s.staged[k].1 = x at hc1' HR hpl
      generalize s.staged[k].2 = y at hc2' HR hpl
      clear HO epair hcell1 hcell2 hats hatg
      go_wp2_with fail
      refine (l3Put_any cur x y _ _ ((RowF.of_own HN.out).alloc _) (by omega)).mono ?_
      rintro e w5 ⟨v5, rfl, hown5, hb5⟩
      have HB5 := Lib.hid ((HB.out.alloc hbs _).trans (hb5.mono (by simp; omega)))
      have HN5 := Lib.hid (own_baseG hown5 (by simp; omega) : w5.ownsRow wa.heap.size 44 2 v5 (putF cur (x, y)).length (FC (putF cur (x, y))))
      clear hown5 hb5
      go_wp2_with fail
      go_roundw
      case rel => exact ⟨_, k + 1, by omega, by omega, by go_num, HN5, HB5, HR⟩
      case measure => simp [intOf]; omega
    · have HM : Hid (cur = s.staged.foldl putF s.files) := by have := HO.out; rw [List.take_of_length_le (by omega)] at this; exact this
      have d2 : wr.cell? ⟨w.heap.size, 2, none⟩ = some (.slice ag s.gone.length cg) := (HB.out.cell (p := ⟨w.heap.size, 2, none⟩) (by show w.heap.size < wa.heap.size; omega)).trans c2
      clear HO hats
      go_wp2_with fail
      go_loopw [3, 26] (fun u i wr => ∃ (cu : List FileT) (k : Nat), k ≤ s.gone.length ∧ cu.length ≤ cur.length ∧ i = .int .i64 k ∧ Hid (wr.ownsRow wa.heap.size 44 2 u cu.length (FC cu)) ∧ Hid (Below wa.heap.size wa wr) ∧ Hid (cu = (s.gone.take k).foldl dropF cur)) (fun _ i _ => s.gone.length - (intOf i).toNat)
      case atStart => exact ⟨cur, 0, Nat.zero_le _, by omega, rfl, HN, HB, rfl⟩
      case round =>
        clear HN HB d2 HW hbs
        obtain ⟨cu, k, hk, hcul, rfl, HN, HB, HO⟩ := hrel
        have HW := Lib.hid (HA.out.trans (HB.out.mono HA.out.size))
        by_cases hlt : k < s.gone.length
        · obtain ⟨g, o, rfl, hg, hcell1⟩ := hatg k hlt
          have hc1' := (HW.out.cell (p := ⟨g, o + k, none⟩) hg).trans hcell1
          have HR := Lib.hid (fold_drop hlt HO.out)
          have hpl := dropF_len cu s.gone[k]
          generalize s.gone[k] = x at hc1' HR hpl
          clear HO hcell1 hatg
          go_wp2_with fail
          refine (l3Drop_any cu x _ _ (RowF.of_own HN.out) (by omega)).mono ?_
          rintro e w5 ⟨v5, rfl, hown5, hb5⟩
          have HB5 := Lib.hid (HB.out.trans (hb5.mono HB.out.size))
          have HN5 := Lib.hid (own_baseG hown5 HB.out.size)
          clear hown5 hb5
          go_wp2_with fail
          go_roundw
          case rel => exact ⟨_, k + 1, by omega, by omega, by go_num, HN5, HB5, HR⟩
          case measure => simp [intOf]; omega
        · have HE : Hid (cu = takenF s) := by
            have := HO.out
            rw [List.take_of_length_le (by omega), HM.out] at this
            exact this
          clear HO hatg
          go_wp2_with fail
          go_ret
          exact ⟨_, rfl, by rw [← HE.out]; exact own_baseG HN.out HA.out.size, HW.out⟩

end Go.Proofs.YtgcaplbeahjbmaaGreatDoor

/- Walks: good stores (the reference). -/
namespace Go.Proofs.YtgcaplbeahjbmaaGreatDoor
open Go.RowKit Pth

theorem goodFiles_l {b : Bool} {l : List FileT} {v : Value} (hx : ∀ f ∈ l, f.1.length ≤ maxLen ∧ f.2.length ≤ maxLen) (h : goodF l = b) : ∀ w, RowF w v l → Calls Tryz.prog 35 #[v] w (BoolPost b w) := fun w hr => by
  have := specGoodFiles_any l v w hr hx
  rwa [h] at this
def goneOkTo (s : StoreT) (k : Nat) : Bool := (s.gone.take k).all (fun n => nameOk n && decide (findF s.staged n = -1)) && riseN (s.gone.take k)
theorem gone_next {s : StoreT} {k : Nat} (hk : k < s.gone.length) (h : goneOkTo s k = true) (h1 : nameOk s.gone[k] = true) (h2 : findF s.staged s.gone[k] = -1) (h3 : ∀ _ : 0 < k, ltT s.gone[k - 1] s.gone[k] = true) : goneOkTo s (k + 1) = true := by
  rw [goneOkTo, Bool.and_eq_true] at h ⊢
  refine ⟨?_, riseN_next hk h.2 h3⟩
  rw [List.take_succ_eq_append_getElem hk, List.all_append, h.1]
  simp [h1, h2]
theorem gone_bad {s : StoreT} {k : Nat} (hk : k < s.gone.length) (h : nameOk s.gone[k] = false ∨ ¬ findF s.staged s.gone[k] = -1 ∨ ∃ h0 : 0 < k, ltT s.gone[k - 1] s.gone[k] = false) : goodS s = false := by
  have : goneOk s = false := by
    rw [goneOk]
    rcases h with h | h | ⟨h0, h⟩
    · have : s.gone.all (fun n => nameOk n && decide (findF s.staged n = -1)) = false := by
        rw [List.all_eq_false]; exact ⟨s.gone[k], List.getElem_mem hk, by rw [h]; simp⟩
      rw [this]; rfl
    · have : s.gone.all (fun n => nameOk n && decide (findF s.staged n = -1)) = false := by
        rw [List.all_eq_false]; exact ⟨s.gone[k], List.getElem_mem hk, by rw [decide_eq_false h]; simp⟩
      rw [this]; rfl
    · rw [riseN_fall hk h0 h]; simp
  rw [goodS, this]; simp
theorem gone_end {s : StoreT} {k : Nat} (hk : s.gone.length ≤ k) (h : goneOkTo s k = true) : goneOk s = true := by
  rw [goneOkTo, List.take_of_length_le hk] at h
  exact h
theorem foldl_put_len (l : List FileT) (m : List FileT) : (l.foldl putF m).length ≤ m.length + l.length := by
  induction l generalizing m with
  | nil => simp
  | cons f t ih => rw [List.foldl_cons]; have h1 := ih (putF m f); have h2 := putF_len m f; simp only [List.length_cons]; omega
theorem mem_putF {l : List FileT} {f g : FileT} (h : g ∈ putF l f) : g = f ∨ g ∈ l := by
  induction l with
  | nil => simp [putF] at h; exact .inl h
  | cons x t ih =>
    unfold putF at h
    split at h
    · rcases List.mem_cons.1 h with rfl | h
      · exact .inr (by simp)
      · rcases ih h with h | h
        · exact .inl h
        · exact .inr (by simp [h])
    · split at h
      · rcases List.mem_cons.1 h with rfl | h
        · exact .inl rfl
        · exact .inr (by simp [h])
      · rcases List.mem_cons.1 h with rfl | h
        · exact .inl rfl
        · exact .inr h
theorem mem_foldl_put {l m : List FileT} {g : FileT} (h : g ∈ l.foldl putF m) : g ∈ l ∨ g ∈ m := by
  induction l generalizing m with
  | nil => exact .inr h
  | cons f t ih =>
    rw [List.foldl_cons] at h
    rcases ih h with h | h
    · exact .inl (by simp [h])
    · rcases mem_putF h with rfl | h
      · exact .inl (by simp)
      · exact .inr h
theorem mem_foldl_drop {l : List (List UInt8)} {m : List FileT} {g : FileT} (h : g ∈ l.foldl dropF m) : g ∈ m := by
  induction l generalizing m with
  | nil => exact h
  | cons n t ih =>
    rw [List.foldl_cons] at h
    have := ih h
    rw [dropF, List.mem_filter] at this
    exact this.1
theorem mem_taken {s : StoreT} {g : FileT} (h : g ∈ takenF s) : g ∈ s.staged ∨ g ∈ s.files := mem_foldl_put (mem_foldl_drop h)
theorem good_len {l : List FileT} (h : goodF l = true) : l.length ≤ 12 := by
  simp only [goodF, Bool.and_eq_true, decide_eq_true_iff] at h
  exact h.2.2

/-- No text of the store is longer than a text can be. -/
def Fits (s : StoreT) : Prop := (∀ f ∈ s.files, f.1.length ≤ maxLen ∧ f.2.length ≤ maxLen) ∧ (∀ f ∈ s.staged, f.1.length ≤ maxLen ∧ f.2.length ≤ maxLen) ∧ ∀ n ∈ s.gone, n.length ≤ maxLen

set_option maxRecDepth 20000 in
set_option maxHeartbeats 8000000 in
theorem specGoodStore_any (s : StoreT) (v : Value) (w : World) (hst : StoreV w v s) (hx : Fits s) :
    Calls Tryz.prog 16 #[v] w (BoolPost (goodS s) w) := by
  have HST := Lib.hid hst
  obtain ⟨vf, vs, vg, rfl, h1, h2, h3⟩ := hst
  have H1 := Lib.hid h1
  have H2 := Lib.hid h2
  have H3 := Lib.hid h3
  obtain ⟨af, cf, rfl, hf1, hf2, _⟩ := h1.files
  obtain ⟨a2, cs, rfl, hs1, hs2, _⟩ := h2.files
  obtain ⟨ag, cg, rfl, hg1, hg2, hatg⟩ := h3.texts
  clear h1 h2 h3
  obtain ⟨hx1, hx2, hx3⟩ := hx
  have HX1 := Lib.hid hx1
  have HX2 := Lib.hid hx2
  have HX3 := Lib.hid hx3
  clear hx1 hx2 hx3
  unfold maxLen at hf2 hs2 hg2
  obtain ⟨wa, hwa⟩ : ∃ wa, wa = w.alloc (.cells #[.slice af s.files.length cf, .slice a2 s.staged.length cs, .slice ag s.gone.length cg] 29) := ⟨_, rfl⟩
  have c0 : wa.cell? ⟨w.heap.size, 0, none⟩ = some (.slice af s.files.length cf) := by rw [hwa]; simp
  have c1 : wa.cell? ⟨w.heap.size, 1, none⟩ = some (.slice a2 s.staged.length cs) := by rw [hwa]; simp
  have c2 : wa.cell? ⟨w.heap.size, 2, none⟩ = some (.slice ag s.gone.length cg) := by rw [hwa]; simp
  have HA : Hid (Below w.heap.size w wa) := by rw [hwa]; exact (Below.refl w.heap.size w).alloc (Nat.le_refl _) _
  have hsz : wa.heap.size = w.heap.size + 1 := by rw [hwa]; simp
  have HWA := Lib.hid hwa
  clear hwa
  rcases e1 : goodF s.files with _ | _
  · have HT : Hid (goodS s = false) := by rw [goodS, e1]; rfl
    have G1 := Lib.hid (goodFiles_l (v := .slice af s.files.length cf) HX1.out e1)
    clear e1 hatg
    go_enter Tryz.func16, Tryz.ntmps16
    go_wp2_with fail
    rw [← HWA.out]
    refine (G1.out wa (H1.out.below HA.out)).mono ?_
    rintro e w1 ⟨rfl, hb1⟩
    have HB1 := Lib.hid hb1
    clear hb1
    go_wp2_with fail
    go_ret
    exact ⟨ret_bool HT.out.symm, HA.out.trans (HB1.out.mono HA.out.size)⟩
  · have G1 := Lib.hid (goodFiles_l (v := .slice af s.files.length cf) HX1.out e1)
    rcases e2 : goodF s.staged with _ | _
    · have HT : Hid (goodS s = false) := by rw [goodS, e2]; simp [Hid]
      have G2 := Lib.hid (goodFiles_l (v := .slice a2 s.staged.length cs) HX2.out e2)
      clear e1 e2 hatg
      go_enter Tryz.func16, Tryz.ntmps16
      go_wp2_with fail
      rw [← HWA.out]
      refine (G1.out wa (H1.out.below HA.out)).mono ?_
      rintro e w1 ⟨rfl, hb1⟩
      have HB1 := Lib.hid hb1
      clear hb1
      have d1 : w1.cell? ⟨w.heap.size, 1, none⟩ = some (.slice a2 s.staged.length cs) := (HB1.out.cell (p := ⟨w.heap.size, 1, none⟩) (by show w.heap.size < wa.heap.size; omega)).trans c1
      go_wp2_with fail
      refine (G2.out w1 (H2.out.below (HA.out.trans (HB1.out.mono HA.out.size)))).mono ?_
      rintro e w2 ⟨rfl, hb2⟩
      have HB2 := Lib.hid (HB1.out.trans (hb2.mono HB1.out.size))
      clear hb2 HB1
      go_wp2_with fail
      go_ret
      exact ⟨ret_bool HT.out.symm, HA.out.trans (HB2.out.mono HA.out.size)⟩
    · have G2 := Lib.hid (goodFiles_l (v := .slice a2 s.staged.length cs) HX2.out e2)
      by_cases e3 : 12 < s.gone.length
      · have HT : Hid (goodS s = false) := by rw [goodS, decide_eq_false (by omega : ¬ s.gone.length ≤ 12)]; simp [Hid]
        have e3' : decide ((12 : Int) < (s.gone.length : Int)) = true := decide_eq_true (by omega)
        clear e1 e2 hatg
        go_enter Tryz.func16, Tryz.ntmps16
        go_wp2_with fail
        rw [← HWA.out]
        refine (G1.out wa (H1.out.below HA.out)).mono ?_
        rintro e w1 ⟨rfl, hb1⟩
        have HB1 := Lib.hid hb1
        clear hb1
        have d1 : w1.cell? ⟨w.heap.size, 1, none⟩ = some (.slice a2 s.staged.length cs) := (HB1.out.cell (p := ⟨w.heap.size, 1, none⟩) (by show w.heap.size < wa.heap.size; omega)).trans c1
        go_wp2_with fail
        refine (G2.out w1 (H2.out.below (HA.out.trans (HB1.out.mono HA.out.size)))).mono ?_
        rintro e w2 ⟨rfl, hb2⟩
        have HB2 := Lib.hid (HB1.out.trans (hb2.mono HB1.out.size))
        clear hb2 HB1
        have d2 : w2.cell? ⟨w.heap.size, 2, none⟩ = some (.slice ag s.gone.length cg) := (HB2.out.cell (p := ⟨w.heap.size, 2, none⟩) (by show w.heap.size < wa.heap.size; omega)).trans c2
        go_wp2_with fail
        go_ret
        exact ⟨ret_bool HT.out.symm, HA.out.trans (HB2.out.mono HA.out.size)⟩
      · have HT0 : Hid (goneOk s = true → goodS s = goodF (takenF s)) := fun h => by rw [goodS, e1, e2, h, decide_eq_true (by omega : s.gone.length ≤ 12)]; rfl
        have e3' : decide ((12 : Int) < (s.gone.length : Int)) = false := decide_eq_false (by omega)
        have hl1 := good_len e1
        have hl2 := good_len e2
        clear e1 e2
        go_enter Tryz.func16, Tryz.ntmps16
        go_wp2_with fail
        rw [← HWA.out]
        refine (G1.out wa (H1.out.below HA.out)).mono ?_
        rintro e w1 ⟨rfl, hb1⟩
        have HB1 := Lib.hid hb1
        clear hb1
        have d1 : w1.cell? ⟨w.heap.size, 1, none⟩ = some (.slice a2 s.staged.length cs) := (HB1.out.cell (p := ⟨w.heap.size, 1, none⟩) (by show w.heap.size < wa.heap.size; omega)).trans c1
        go_wp2_with fail
        refine (G2.out w1 (H2.out.below (HA.out.trans (HB1.out.mono HA.out.size)))).mono ?_
        rintro e w2 ⟨rfl, hb2⟩
        have HB2 := Lib.hid (HB1.out.trans (hb2.mono HB1.out.size))
        clear hb2 HB1
        have d2 : w2.cell? ⟨w.heap.size, 2, none⟩ = some (.slice ag s.gone.length cg) := (HB2.out.cell (p := ⟨w.heap.size, 2, none⟩) (by show w.heap.size < wa.heap.size; omega)).trans c2
        go_wp2_with fail
        go_loopw [24] (fun i wr => ∃ k : Nat, k ≤ s.gone.length ∧ i = .int .i64 k ∧ Hid (Below wa.heap.size wa wr) ∧ Hid (goneOkTo s k = true)) (fun i _ => s.gone.length - (intOf i).toNat)
        case atStart => exact ⟨0, Nat.zero_le _, rfl, HB2, by simp [Hid, goneOkTo, riseN]⟩
        case round =>
          clear HB2 d1 d2
          obtain ⟨k, hk, rfl, HB, HO⟩ := hrel
          have HW := Lib.hid (HA.out.trans (HB.out.mono HA.out.size))
          by_cases hlt : k < s.gone.length
          · obtain ⟨g, o, rfl, hg, hcell1⟩ := hatg k hlt
            have hc1' := (HW.out.cell (p := ⟨g, o + k, none⟩) hg).trans hcell1
            have hxk := HX3.out s.gone[k] (List.getElem_mem hlt)
            rcases en : nameOk s.gone[k] with _ | _
            · have HT := Lib.hid (gone_bad hlt (.inl en))
              have HC := Lib.hid (name_l _ hxk en)
              generalize s.gone[k] = x at hc1' HC hxk
              clear HO hcell1 hatg en
              go_wp2_with fail
              refine (HC.out wr).mono ?_
              rintro e w3 ⟨rfl, hb3⟩
              have HB3 := Lib.hid (HB.out.trans (hb3.mono HB.out.size))
              clear hb3
              go_wp2_with fail
              go_ret
              exact ⟨ret_bool HT.out.symm, HA.out.trans (HB3.out.mono HA.out.size)⟩
            · have HC := Lib.hid (name_l _ hxk en)
              by_cases h0 : 0 < k
              · have hk0 : decide ((0 : Int) < (k : Int)) = true := decide_eq_true (by omega)
                obtain ⟨g', o', hA, _, hp1⟩ := hatg (k - 1) (by omega)
                obtain ⟨rfl, rfl⟩ := addr_inj hA
                rcases hz : ltT s.gone[k - 1] s.gone[k] with _ | _
                · have HT := Lib.hid (gone_bad hlt (.inr (.inr ⟨h0, hz⟩)))
                  have hz1 : Op.bytesLess s.gone[k - 1] s.gone[k] = false := hz
                  generalize s.gone[k - 1] = z at hp1 hz hz1
                  generalize s.gone[k] = x at hc1' HC hxk hz1
                  clear HO hcell1 hatg en hz hA
                  go_wp2_with fail
                  refine (HC.out wr).mono ?_
                  rintro e w3 ⟨rfl, hb3⟩
                  have HB3 := Lib.hid (HB.out.trans (hb3.mono HB.out.size))
                  have HW3 := Lib.hid (HA.out.trans (HB3.out.mono HA.out.size))
                  have d2 : w3.cell? ⟨w.heap.size, 2, none⟩ = some (.slice (some ⟨g, o, none⟩) s.gone.length cg) := (HB3.out.cell (p := ⟨w.heap.size, 2, none⟩) (by show w.heap.size < wa.heap.size; omega)).trans c2
                  have hpw := (HW3.out.cell (p := ⟨g, o + (k - 1), none⟩) hg).trans hp1
                  clear hb3
                  go_wp2_with fail
                  go_ret
                  exact ⟨ret_bool HT.out.symm, HW3.out⟩
                · have hz1 : Op.bytesLess s.gone[k - 1] s.gone[k] = true := hz
                  have HF := l3Find_any s.staged s.gone[k] (.slice a2 s.staged.length cs)
                  by_cases ef : findF s.staged s.gone[k] = -1
                  · have HO2 := Lib.hid (gone_next hlt HO.out en ef (fun _ => hz))
                    rw [ef] at HF
                    have HFF := Lib.hid HF
                    generalize s.gone[k - 1] = z at hp1 hz hz1
                    generalize s.gone[k] = x at hc1' HC hxk hz1 HFF
                    clear HO hcell1 hatg en hz hA HF ef
                    go_wp2_with fail
                    refine (HC.out wr).mono ?_
                    rintro e w3 ⟨rfl, hb3⟩
                    have HB3 := Lib.hid (HB.out.trans (hb3.mono HB.out.size))
                    have HW3 := Lib.hid (HA.out.trans (HB3.out.mono HA.out.size))
                    have d2 : w3.cell? ⟨w.heap.size, 2, none⟩ = some (.slice (some ⟨g, o, none⟩) s.gone.length cg) := (HB3.out.cell (p := ⟨w.heap.size, 2, none⟩) (by show w.heap.size < wa.heap.size; omega)).trans c2
                    have d1 : w3.cell? ⟨w.heap.size, 1, none⟩ = some (.slice a2 s.staged.length cs) := (HB3.out.cell (p := ⟨w.heap.size, 1, none⟩) (by show w.heap.size < wa.heap.size; omega)).trans c1
                    have hpw := (HW3.out.cell (p := ⟨g, o + (k - 1), none⟩) hg).trans hp1
                    clear hb3
                    go_wp2_with fail
                    refine (HFF.out w3 (H2.out.below HW3.out)).mono ?_
                    rintro e w4 ⟨rfl, hb4⟩
                    have HB4 := Lib.hid (HB3.out.trans (hb4.mono HB3.out.size))
                    clear hb4
                    go_wp2_with fail
                    go_roundw
                    case rel => exact ⟨k + 1, by omega, by go_num, HB4, HO2⟩
                    case measure => simp [intOf]; omega
                  · have HT := Lib.hid (gone_bad hlt (.inr (.inl ef)))
                    have hfr := find_range s.staged s.gone[k]
                    have HFF := Lib.hid HF
                    generalize findF s.staged s.gone[k] = fi at HFF ef hfr
                    have hf0 : decide (fi ≥ 0) = true := decide_eq_true (by omega)
                    have hf0' : decide (0 ≤ fi) = true := decide_eq_true (by omega)
                    generalize s.gone[k - 1] = z at hp1 hz hz1
                    generalize s.gone[k] = x at hc1' HC hxk hz1 HFF
                    clear HO hcell1 hatg en hz hA HF ef
                    go_wp2_with fail
                    refine (HC.out wr).mono ?_
                    rintro e w3 ⟨rfl, hb3⟩
                    have HB3 := Lib.hid (HB.out.trans (hb3.mono HB.out.size))
                    have HW3 := Lib.hid (HA.out.trans (HB3.out.mono HA.out.size))
                    have d2 : w3.cell? ⟨w.heap.size, 2, none⟩ = some (.slice (some ⟨g, o, none⟩) s.gone.length cg) := (HB3.out.cell (p := ⟨w.heap.size, 2, none⟩) (by show w.heap.size < wa.heap.size; omega)).trans c2
                    have d1 : w3.cell? ⟨w.heap.size, 1, none⟩ = some (.slice a2 s.staged.length cs) := (HB3.out.cell (p := ⟨w.heap.size, 1, none⟩) (by show w.heap.size < wa.heap.size; omega)).trans c1
                    have hpw := (HW3.out.cell (p := ⟨g, o + (k - 1), none⟩) hg).trans hp1
                    clear hb3
                    go_wp2_with fail
                    refine (HFF.out w3 (H2.out.below HW3.out)).mono ?_
                    rintro e w4 ⟨rfl, hb4⟩
                    have HB4 := Lib.hid (HB3.out.trans (hb4.mono HB3.out.size))
                    clear hb4
                    go_wp2_with fail
                    go_ret
                    exact ⟨ret_bool HT.out.symm, HA.out.trans (HB4.out.mono HA.out.size)⟩
              · have hk0 : decide ((0 : Int) < (k : Int)) = false := decide_eq_false (by omega)
                have HF := l3Find_any s.staged s.gone[k] (.slice a2 s.staged.length cs)
                by_cases ef : findF s.staged s.gone[k] = -1
                · have HO2 := Lib.hid (gone_next hlt HO.out en ef (fun h => absurd h h0))
                  rw [ef] at HF
                  have HFF := Lib.hid HF
                  generalize s.gone[k] = x at hc1' HC hxk HFF
                  clear HO hcell1 hatg en HF ef
                  go_wp2_with fail
                  refine (HC.out wr).mono ?_
                  rintro e w3 ⟨rfl, hb3⟩
                  have HB3 := Lib.hid (HB.out.trans (hb3.mono HB.out.size))
                  have HW3 := Lib.hid (HA.out.trans (HB3.out.mono HA.out.size))
                  have d1 : w3.cell? ⟨w.heap.size, 1, none⟩ = some (.slice a2 s.staged.length cs) := (HB3.out.cell (p := ⟨w.heap.size, 1, none⟩) (by show w.heap.size < wa.heap.size; omega)).trans c1
                  clear hb3
                  go_wp2_with fail
                  refine (HFF.out w3 (H2.out.below HW3.out)).mono ?_
                  rintro e w4 ⟨rfl, hb4⟩
                  have HB4 := Lib.hid (HB3.out.trans (hb4.mono HB3.out.size))
                  clear hb4
                  go_wp2_with fail
                  go_roundw
                  case rel => exact ⟨k + 1, by omega, by go_num, HB4, HO2⟩
                  case measure => simp [intOf]; omega
                · have HT := Lib.hid (gone_bad hlt (.inr (.inl ef)))
                  have hfr := find_range s.staged s.gone[k]
                  have HFF := Lib.hid HF
                  generalize findF s.staged s.gone[k] = fi at HFF ef hfr
                  have hf0 : decide (fi ≥ 0) = true := decide_eq_true (by omega)
                  have hf0' : decide (0 ≤ fi) = true := decide_eq_true (by omega)
                  generalize s.gone[k] = x at hc1' HC hxk HFF
                  clear HO hcell1 hatg en HF ef
                  go_wp2_with fail
                  refine (HC.out wr).mono ?_
                  rintro e w3 ⟨rfl, hb3⟩
                  have HB3 := Lib.hid (HB.out.trans (hb3.mono HB.out.size))
                  have HW3 := Lib.hid (HA.out.trans (HB3.out.mono HA.out.size))
                  have d1 : w3.cell? ⟨w.heap.size, 1, none⟩ = some (.slice a2 s.staged.length cs) := (HB3.out.cell (p := ⟨w.heap.size, 1, none⟩) (by show w.heap.size < wa.heap.size; omega)).trans c1
                  clear hb3
                  go_wp2_with fail
                  refine (HFF.out w3 (H2.out.below HW3.out)).mono ?_
                  rintro e w4 ⟨rfl, hb4⟩
                  have HB4 := Lib.hid (HB3.out.trans (hb4.mono HB3.out.size))
                  clear hb4
                  go_wp2_with fail
                  go_ret
                  exact ⟨ret_bool HT.out.symm, HA.out.trans (HB4.out.mono HA.out.size)⟩
          · have HT := Lib.hid (HT0.out (gone_end (by omega) HO.out))
            have G3 := Lib.hid (fun (v : Value) W hr => specGoodFiles_any (takenF s) v W hr (fun f hf => by rcases mem_taken hf with h | h; exact HX2.out f h; exact HX1.out f h))
            have e0 := (HB.out.cell (p := ⟨w.heap.size, 0, none⟩) (by show w.heap.size < wa.heap.size; omega)).trans c0
            have e1 := (HB.out.cell (p := ⟨w.heap.size, 1, none⟩) (by show w.heap.size < wa.heap.size; omega)).trans c1
            have e2 := (HB.out.cell (p := ⟨w.heap.size, 2, none⟩) (by show w.heap.size < wa.heap.size; omega)).trans c2
            clear HO hatg HT0
            go_wp2_with fail
            refine (l3Taken_any s _ wr (HST.out.below HW.out) (by omega) (by omega) (by omega)).mono ?_
            rintro e w3 ⟨v3, rfl, hown3, hb3⟩
            have HB3 := Lib.hid (HW.out.trans (hb3.mono HW.out.size))
            have HN3 := Lib.hid hown3
            clear hown3 hb3
            go_wp2_with fail
            refine (G3.out v3 w3 (RowF.of_own HN3.out)).mono ?_
            rintro e w4 ⟨rfl, hb4⟩
            have HB4 := Lib.hid (HB3.out.trans (hb4.mono HB3.out.size))
            clear hb4
            go_wp2_with fail
            go_ret
            exact ⟨ret_bool HT.out.symm, HB4.out⟩

end Go.Proofs.YtgcaplbeahjbmaaGreatDoor

/- Walks: the tests on a path's bytes, both programs'. -/
namespace Go.Proofs.YtgcaplbeahjbmaaGreatDoor.D1
open Go.RowKit Pth

theorem ret_bool {a b : Bool} (h : a = b) : Ending.returned (.bool a) = .returned (.bool b) := by rw [h]

set_option maxHeartbeats 400000 in
theorem isPathRune_any (c : Int) (w : World) :
    Calls Tryz.prog 101 #[.int .i32 c] w fun e w' => e = .returned (.bool (pb c)) ∧ w = w' := by
  go_enter Tryz.func101, Tryz.ntmps101
  go_wp2
  all_goals
    go_ret
    exact ⟨ret_bool (by rw [Bool.eq_iff_iff]; simp [pb] <;> omega), rfl⟩

set_option maxHeartbeats 400000 in
theorem l1Rooted_any (s : ByteArray) (w : World) (hs : s.size ≤ maxLen) :
    Calls Tryz.prog 59 #[.string s] w fun e w' => e = .returned (.bool (rootedL s.data.toList)) ∧ w = w' := by
  unfold maxLen at hs
  by_cases h0 : 0 < s.size
  · have hr := rooted_pos h0
    have HR : Hid (rootedL s.data.toList = ((s[0].toNat : Int) == 47)) := hr
    clear hr
    go_enter Tryz.func59, Tryz.ntmps59
    go_wp2
    all_goals
      go_ret
      exact ⟨ret_bool (by rw [HR.out]), rfl⟩
  · have HR : Hid (rootedL s.data.toList = false) := rooted_nil (by omega)
    go_enter Tryz.func59, Tryz.ntmps59
    go_wp2
    all_goals
      go_ret
      exact ⟨ret_bool (by rw [HR.out]), rfl⟩

set_option maxHeartbeats 1000000 in
theorem l1Path_any (s : ByteArray) (w : World) (hs : s.size ≤ maxLen) :
    Calls Tryz.prog 49 #[.string s] w fun e w' => e = .returned (.bool (pathL s.data.toList)) ∧ w = w' := by
  unfold maxLen at hs
  go_enter Tryz.func49, Tryz.ntmps49
  go_wp2
  go_loop [3] (fun i => ∃ k : Nat, k ≤ s.size ∧ i = .int .i64 k ∧ Hid (okL (s.data.toList.take k) = true)) (fun i => s.size - (intOf i).toNat)
  case atStart => exact ⟨0, Nat.zero_le _, rfl, rfl⟩
  case round =>
    obtain ⟨k, hk, rfl, HO⟩ := hrel
    by_cases hlt : k < s.size
    · go_wp2
      all_goals first
        | (go_round
           case rel => exact ⟨k + 1, by omega, by go_num, okL_next hlt HO.out (by clear HO; go_light; simp_all [pb] <;> omega)⟩
           case measure => simp [intOf]; omega)
        | (go_ret
           exact ⟨ret_bool (pathL_false k hlt (by clear HO; go_light; simp_all [pb] <;> omega)).symm, rfl⟩)
    · go_wp2
      go_ret
      exact ⟨ret_bool (by rw [pathL_end (k := k) (by omega) HO.out]; go_num), rfl⟩

end Go.Proofs.YtgcaplbeahjbmaaGreatDoor.D1

/- The library's contracts that the walks use, at this program: each an application of the shelf's; each structure's fields are facts of the loaded program. -/
namespace Go.Proofs
open Go.Shelf Go.RowKit
def Tryz.lays169_ren : Go.Shelf.Ren := ⟨fun | 169 => 104 | n => n, fun | 70 => 121 | 9 => 9 | 0 => 0 | 72 => 123 | 37 => 77 | 127 => 107 | 3 => 3 | 5 => 5 | n => n, fun | n => n⟩
theorem Tryz.lays169 : Go.Proofs.Lays.n169 Tryz.prog Tryz.lays169_ren := {
  mixed := by kernel_rfl
  f169 := Tryz.func104.trans (congrArg some (by kernel_rfl))
  t0 := Tryz.underlying0
  a0 := Tryz.isAgg0
  z0 := Tryz.sizeOf0
  v0 := Tryz.zeroValue0
  t3 := Tryz.underlying3
  a3 := Tryz.isAgg3
  z3 := Tryz.sizeOf3
  v3 := Tryz.zeroValue3
  t9 := Tryz.underlying9
  a9 := Tryz.isAgg9
  z9 := Tryz.sizeOf9
  v9 := Tryz.zeroValue9
  t37 := Tryz.underlying77
  a37 := Tryz.isAgg77
  z37 := Tryz.sizeOf77
  v37 := Tryz.zeroValue77
  t70 := Tryz.underlying121
  a70 := Tryz.isAgg121
  z70 := Tryz.sizeOf121
  v70 := Tryz.zeroValue121
  t72 := Tryz.underlying123
  a72 := Tryz.isAgg123
  z72 := Tryz.sizeOf123
  v72 := Tryz.zeroValue123
  t127 := Tryz.underlying107
  a127 := Tryz.isAgg107
  z127 := Tryz.sizeOf107
  v127 := Tryz.zeroValue107 }
theorem Tryz.Builder_Extra_169 : Builder.Extra Tryz.prog Tryz.lays169_ren := {
  sizeBuilder := by kernel_rfl
  liesBuilder := by kernel_rfl
  t5 := Tryz.underlying5
  a5 := Tryz.isAgg5
  z5 := Tryz.sizeOf5
  v5 := Tryz.zeroValue5
  infoByte := by kernel_rfl
  cellsByte := by kernel_rfl
  sizeByte := by kernel_rfl
  neB5 := by decide }
theorem Tryz.Builder_String_any (B b : Nat) (l : List UInt8) (w : World) (h : Lib.IsBuilder 123 5 B b (Lib.byteCells l) w) (hBw : B ≤ w.heap.size) :
    Calls Tryz.prog 104 #[.pointer (some ⟨b, 0, none⟩)] w fun e w' => e = .returned (.string ⟨l.toArray⟩) ∧ Below B w w' := Any.Builder_String_any Tryz.lays169 Tryz.Builder_Extra_169 B b l w h hBw
def Tryz.lays106_ren : Go.Shelf.Ren := ⟨fun | 106 => 63 | 213 => 78 | 265 => 96 | n => n, fun | 9 => 9 | 3 => 3 | n => n, fun | n => n⟩
theorem Tryz.lays106 : Go.Proofs.Lays.n106 Tryz.prog Tryz.lays106_ren := {
  mixed := by kernel_rfl
  f106 := Tryz.func63.trans (congrArg some (by kernel_rfl))
  f213 := Tryz.func78.trans (congrArg some (by kernel_rfl))
  f265 := Tryz.func96.trans (congrArg some (by kernel_rfl))
  t3 := Tryz.underlying3
  a3 := Tryz.isAgg3
  z3 := Tryz.sizeOf3
  v3 := Tryz.zeroValue3
  t9 := Tryz.underlying9
  a9 := Tryz.isAgg9
  z9 := Tryz.sizeOf9
  v9 := Tryz.zeroValue9 }
theorem Tryz.strings_Compare (a b : ByteArray) (w : World) :
    Calls Tryz.prog 63 #[.string a, .string b] w fun e w' => e = .returned (.int .i64 (Lib.compareBytes a.data.toList b.data.toList)) ∧ w' = w := Any.strings_Compare Tryz.lays106 a b w
def Tryz.laysM316_ren : Go.Shelf.Ren := ⟨fun | 316 => 65 | n => n, fun | 9 => 9 | 3 => 3 | 4 => 4 | 37 => 77 | 0 => 0 | 127 => 107 | 5 => 5 | n => n, fun | n => n⟩
theorem Tryz.laysM316 : Go.Proofs.LaysM.n316 Tryz.prog Tryz.laysM316_ren := {
  mixed := by kernel_rfl
  f316 := Tryz.func65.trans (congrArg some (by kernel_rfl))
  t0 := Tryz.underlying0
  a0 := Tryz.isAgg0
  z0 := Tryz.sizeOf0
  v0 := Tryz.zeroValue0
  t3 := Tryz.underlying3
  a3 := Tryz.isAgg3
  z3 := Tryz.sizeOf3
  v3 := Tryz.zeroValue3
  t4 := Tryz.underlying4
  a4 := Tryz.isAgg4
  z4 := Tryz.sizeOf4
  v4 := Tryz.zeroValue4
  t9 := Tryz.underlying9
  a9 := Tryz.isAgg9
  z9 := Tryz.sizeOf9
  v9 := Tryz.zeroValue9
  t37 := Tryz.underlying77
  a37 := Tryz.isAgg77
  z37 := Tryz.sizeOf77
  v37 := Tryz.zeroValue77
  t127 := Tryz.underlying107
  a127 := Tryz.isAgg107
  z127 := Tryz.sizeOf107
  v127 := Tryz.zeroValue107
  t5 := Tryz.underlying5
  a5 := Tryz.isAgg5
  z5 := Tryz.sizeOf5
  v5 := Tryz.zeroValue5
  i0 := by kernel_rfl
  i3 := by kernel_rfl
  i4 := by kernel_rfl
  i5 := by kernel_rfl
  i9 := by kernel_rfl
  i37 := by kernel_rfl
  i127 := by kernel_rfl }
theorem Tryz.stringslite_Clone (s : ByteArray) (w : World) (hlim : s.size ≤ 281474976710656) :
    Calls Tryz.prog 65 #[.string s] w fun e w' => e = .returned (.string s) ∧ Below w.heap.size w w' := Any.stringslite_Clone Tryz.laysM316 s w hlim
def Tryz.laysM143_ren : Go.Shelf.Ren := ⟨fun | 143 => 121 | 219 => 125 | 217 => 127 | 225 => 128 | 224 => 129 | 267 => 130 | 266 => 131 | 314 => 132 | n => n, fun | 9 => 9 | 3 => 3 | 4 => 4 | 5 => 5 | 46 => 84 | 146 => 154 | 51 => 98 | n => n, fun | 1 => 0 | n => n⟩
theorem Tryz.laysM143 : Go.Proofs.LaysM.n143 Tryz.prog Tryz.laysM143_ren := {
  mixed := by kernel_rfl
  f143 := Tryz.func121.trans (congrArg some (by kernel_rfl))
  f217 := Tryz.func127.trans (congrArg some (by kernel_rfl))
  f219 := Tryz.func125.trans (congrArg some (by kernel_rfl))
  f224 := Tryz.func129.trans (congrArg some (by kernel_rfl))
  f225 := Tryz.func128.trans (congrArg some (by kernel_rfl))
  f266 := Tryz.func131.trans (congrArg some (by kernel_rfl))
  f267 := Tryz.func130.trans (congrArg some (by kernel_rfl))
  f314 := Tryz.func132.trans (congrArg some (by kernel_rfl))
  t3 := Tryz.underlying3
  a3 := Tryz.isAgg3
  z3 := Tryz.sizeOf3
  v3 := Tryz.zeroValue3
  t4 := Tryz.underlying4
  a4 := Tryz.isAgg4
  z4 := Tryz.sizeOf4
  v4 := Tryz.zeroValue4
  t5 := Tryz.underlying5
  a5 := Tryz.isAgg5
  z5 := Tryz.sizeOf5
  v5 := Tryz.zeroValue5
  t9 := Tryz.underlying9
  a9 := Tryz.isAgg9
  z9 := Tryz.sizeOf9
  v9 := Tryz.zeroValue9
  t46 := Tryz.underlying84
  a46 := Tryz.isAgg84
  z46 := Tryz.sizeOf84
  v46 := Tryz.zeroValue84
  t51 := Tryz.underlying98
  a51 := Tryz.isAgg98
  z51 := Tryz.sizeOf98
  v51 := Tryz.zeroValue98
  t146 := Tryz.underlying154
  a146 := Tryz.isAgg154
  z146 := Tryz.sizeOf154
  v146 := Tryz.zeroValue154
  g1 := by kernel_rfl
  i3 := by kernel_rfl
  i4 := by kernel_rfl
  i5 := by kernel_rfl
  i9 := by kernel_rfl
  i46 := by kernel_rfl
  i51 := by kernel_rfl
  i146 := by kernel_rfl
  m1 := by kernel_rfl
  s1_3 := fun w h => Go.Proofs.cell_of_shapedOpen_int (zero := #[.int .i64 0]) (t := 3) h (of_decide_eq_true (by kernel_rfl)) (by kernel_rfl) rfl (by kernel_rfl) (by kernel_rfl) Tryz.underlying3 }
theorem Tryz.strings_Index_shaped (s sub : ByteArray) (w : World) (h : w.ShapedOpen Tryz.prog) (hs : s.size < 4294967281) :
    Calls Tryz.prog 121 #[.string s, .string sub] w fun e w' => e = .returned (.int .i64 (Lib.index s.data.toList sub.data.toList)) ∧ w' = w := Any.strings_Index_shaped Tryz.laysM143 s sub w h hs
def Tryz.lays99_ren : Go.Shelf.Ren := ⟨fun | 99 => 105 | 206 => 112 | n => n, fun | 9 => 9 | 4 => 4 | 3 => 3 | n => n, fun | n => n⟩
theorem Tryz.lays99 : Go.Proofs.Lays.n99 Tryz.prog Tryz.lays99_ren := {
  mixed := by kernel_rfl
  f99 := Tryz.func105.trans (congrArg some (by kernel_rfl))
  f206 := Tryz.func112.trans (congrArg some (by kernel_rfl))
  t3 := Tryz.underlying3
  a3 := Tryz.isAgg3
  z3 := Tryz.sizeOf3
  v3 := Tryz.zeroValue3
  t4 := Tryz.underlying4
  a4 := Tryz.isAgg4
  z4 := Tryz.sizeOf4
  v4 := Tryz.zeroValue4
  t9 := Tryz.underlying9
  a9 := Tryz.isAgg9
  z9 := Tryz.sizeOf9
  v9 := Tryz.zeroValue9 }
theorem Tryz.strings_HasPrefix (s p : ByteArray) (w : World) :
    Calls Tryz.prog 105 #[.string s, .string p] w fun e w' => e = .returned (.bool (Lib.hasPrefix s.data.toList p.data.toList)) ∧ w' = w := Any.strings_HasPrefix Tryz.lays99 s p w
def Tryz.lays146_ren : Go.Shelf.Ren := ⟨fun | 146 => 107 | 221 => 117 | 268 => 119 | 138 => 120 | 143 => 121 | 195 => 122 | 197 => 123 | 218 => 124 | 219 => 125 | 260 => 126 | 217 => 127 | 225 => 128 | 224 => 129 | 267 => 130 | 266 => 131 | 314 => 132 | n => n, fun | 9 => 9 | 31 => 23 | 3 => 3 | 4 => 4 | 0 => 0 | 105 => 146 | 21 => 21 | 5 => 5 | 46 => 84 | 119 => 150 | 139 => 153 | 138 => 152 | 146 => 154 | 51 => 98 | n => n, fun | 1 => 0 | 3 => 1 | 4 => 2 | n => n⟩
theorem Tryz.lays146 : Go.Proofs.Lays.n146 Tryz.prog Tryz.lays146_ren := {
  mixed := by kernel_rfl
  f138 := Tryz.func120.trans (congrArg some (by kernel_rfl))
  f143 := Tryz.func121.trans (congrArg some (by kernel_rfl))
  f146 := Tryz.func107.trans (congrArg some (by kernel_rfl))
  f195 := Tryz.func122.trans (congrArg some (by kernel_rfl))
  f197 := Tryz.func123.trans (congrArg some (by kernel_rfl))
  f217 := Tryz.func127.trans (congrArg some (by kernel_rfl))
  f218 := Tryz.func124.trans (congrArg some (by kernel_rfl))
  f219 := Tryz.func125.trans (congrArg some (by kernel_rfl))
  f221 := Tryz.func117.trans (congrArg some (by kernel_rfl))
  f224 := Tryz.func129.trans (congrArg some (by kernel_rfl))
  f225 := Tryz.func128.trans (congrArg some (by kernel_rfl))
  f260 := Tryz.func126.trans (congrArg some (by kernel_rfl))
  f266 := Tryz.func131.trans (congrArg some (by kernel_rfl))
  f267 := Tryz.func130.trans (congrArg some (by kernel_rfl))
  f268 := Tryz.func119.trans (congrArg some (by kernel_rfl))
  f314 := Tryz.func132.trans (congrArg some (by kernel_rfl))
  t0 := Tryz.underlying0
  a0 := Tryz.isAgg0
  z0 := Tryz.sizeOf0
  v0 := Tryz.zeroValue0
  t3 := Tryz.underlying3
  a3 := Tryz.isAgg3
  z3 := Tryz.sizeOf3
  v3 := Tryz.zeroValue3
  t4 := Tryz.underlying4
  a4 := Tryz.isAgg4
  z4 := Tryz.sizeOf4
  v4 := Tryz.zeroValue4
  t5 := Tryz.underlying5
  a5 := Tryz.isAgg5
  z5 := Tryz.sizeOf5
  v5 := Tryz.zeroValue5
  t9 := Tryz.underlying9
  a9 := Tryz.isAgg9
  z9 := Tryz.sizeOf9
  v9 := Tryz.zeroValue9
  t21 := Tryz.underlying21
  a21 := Tryz.isAgg21
  z21 := Tryz.sizeOf21
  v21 := Tryz.zeroValue21
  t31 := Tryz.underlying23
  a31 := Tryz.isAgg23
  z31 := Tryz.sizeOf23
  v31 := Tryz.zeroValue23
  t46 := Tryz.underlying84
  a46 := Tryz.isAgg84
  z46 := Tryz.sizeOf84
  v46 := Tryz.zeroValue84
  t51 := Tryz.underlying98
  a51 := Tryz.isAgg98
  z51 := Tryz.sizeOf98
  v51 := Tryz.zeroValue98
  t105 := Tryz.underlying146
  a105 := Tryz.isAgg146
  z105 := Tryz.sizeOf146
  v105 := Tryz.zeroValue146
  t119 := Tryz.underlying150
  a119 := Tryz.isAgg150
  z119 := Tryz.sizeOf150
  t138 := Tryz.underlying152
  a138 := Tryz.isAgg152
  z138 := Tryz.sizeOf152
  v138 := Tryz.zeroValue152
  t139 := Tryz.underlying153
  a139 := Tryz.isAgg153
  z139 := Tryz.sizeOf153
  v139 := Tryz.zeroValue153
  t146 := Tryz.underlying154
  a146 := Tryz.isAgg154
  z146 := Tryz.sizeOf154
  v146 := Tryz.zeroValue154
  g1 := by kernel_rfl
  g3 := by kernel_rfl
  g4 := by kernel_rfl }
theorem Tryz.strings_Split (s sep : ByteArray) (m : Int) (w : World) (hs : s.size < 4294967281) (hm : w.cell? ⟨0, 0, none⟩ = some (.int .i64 m)) (h1 : 1 ≤ sep.size) :
    Calls Tryz.prog 107 #[.string s, .string sep] w fun e w' =>
      e = .returned (.slice (some ⟨w.heap.size, 0, none⟩) (Lib.countB s sep + 1) (Lib.countB s sep + 1)) ∧ w' = w.alloc (.cells ((Lib.splitB sep 0 (Lib.countB s sep) s).map Value.string).toArray 9) := Any.strings_Split Tryz.lays146 (by kernel_rfl) s sep m w hs hm h1
/-- The library's one variable that the search reads holds an int. -/
theorem Tryz.max_len (w : World) (h : w.ShapedOpen Tryz.prog) : ∃ m, w.cell? ⟨0, 0, none⟩ = some (.int .i64 m) := Tryz.laysM143.s1_3 w h
/-- The text of a builder of the call's own. -/
theorem Tryz.build_text (B b : Nat) (l : List UInt8) (w : World) (h : Lib.IsBuilder 123 5 B b (Lib.byteCells l) w) (hBw : B ≤ w.heap.size) :
    Calls Tryz.prog 104 #[.pointer (some ⟨b, 0, none⟩)] w fun e w' => e = .returned (.string ⟨l.toArray⟩) ∧ Below B w w' := Tryz.Builder_String_any B b l w h hBw
/-- What begins with what. -/
theorem Tryz.has_prefix (s p : ByteArray) (w : World) : Calls Tryz.prog 105 #[.string s, .string p] w fun e w' => e = .returned (.bool (Lib.hasPrefix s.data.toList p.data.toList)) ∧ w' = w := Tryz.strings_HasPrefix s p w
/-- The pieces between separators. -/
theorem Tryz.split_at (s sep : ByteArray) (m : Int) (w : World) (hs : s.size < 4294967281) (hm : w.cell? ⟨0, 0, none⟩ = some (.int .i64 m)) (h1 : 1 ≤ sep.size) :
    Calls Tryz.prog 107 #[.string s, .string sep] w fun e w' =>
      e = .returned (.slice (some ⟨w.heap.size, 0, none⟩) (Lib.countB s sep + 1) (Lib.countB s sep + 1)) ∧ w' = w.alloc (.cells ((Lib.splitB sep 0 (Lib.countB s sep) s).map Value.string).toArray 9) :=
  Tryz.strings_Split s sep m w hs hm h1
end Go.Proofs

/- Walks: the writers of a strings.Builder that the call has made itself. -/
namespace Go.Proofs.YtgcaplbeahjbmaaGreatDoor.D1
open Go.RowKit Pth

theorem szB : (Tryz.prog.info? 123).map (·.size) = some 2 := by kernel_rfl
theorem lieB : liesAt Tryz.prog Tryz.prog.depth 123 (2 / Tryz.prog.cellsOf 123) 0 123 1 = true := by kernel_rfl
theorem infoB : (Tryz.prog.info? 5).map (fun i => (i.zero, i.size, i.bytes)) = some (some (.int .u8 0), 1, 1) := by kernel_rfl
theorem infoS : (Tryz.prog.info? 9).map (fun i => (i.zero, i.size, i.bytes)) = some (some (.string ByteArray.empty), 1, 16) := by kernel_rfl

set_option maxHeartbeats 400000 in
set_option maxRecDepth 100000 in
theorem check_used (b : Nat) (w : World) (h0 : w.cell? ⟨b, 0, none⟩ = some (.pointer (some ⟨b, 0, none⟩))) :
    Calls Tryz.prog 111 #[.pointer (some ⟨b, 0, none⟩)] w fun e w' => e = .returned (.tuple #[]) ∧ w = w' := by
  obtain ⟨j, hj, _⟩ := Option.map_eq_some_iff.1 szB
  go_enter Tryz.func111, Tryz.ntmps111
  go_wp2
  rw [Lib.run_neq_ptr_same w _ Tryz.underlying121 hj]
  go_wp2
  go_end0
  exact ⟨rfl, rfl⟩

set_option maxHeartbeats 400000 in
set_option maxRecDepth 100000 in
theorem check_fresh (b : Nat) (w : World) (h0 : w.cell? ⟨b, 0, none⟩ = some (.pointer none)) (hsh : w.shape? b = some (123, 2)) (hfz : w.frozen? ⟨b, 0, none⟩ = false) :
    Calls Tryz.prog 111 #[.pointer (some ⟨b, 0, none⟩)] w fun e w' => e = .returned (.tuple #[]) ∧ w' = w.setCell ⟨b, 0, none⟩ (.pointer (some ⟨b, 0, none⟩)) := by
  obtain ⟨j, hj, hjs⟩ := Option.map_eq_some_iff.1 szB
  go_enter Tryz.func111, Tryz.ntmps111
  go_wp2
  rw [Lib.run_to_unsafe w ⟨b, 0, none⟩ Tryz.underlying121 Tryz.underlying142 hj (by rw [hjs]; decide) hsh (Nat.zero_lt_succ 1)]
  simp only [Result.andThen]
  rw [Oper.upon_value]
  go_wp2
  rw [run_callFunc_extern Tryz.func118 (by kernel_rfl) (by kernel_rfl) (by kernel_rfl) (e := Extern.AbiNoEscape.same) (by kernel_rfl)]
  rw [Lib.run_noEscape]
  simp only [Result.andThen]
  rw [Oper.upon_value]
  go_wp2
  rw [Lib.run_from_unsafe w ⟨b, 0, none⟩ Tryz.underlying142 Tryz.underlying121 hj hsh lieB]
  simp only [Result.andThen]
  rw [Oper.upon_value]
  go_wp2
  go_end0
  exact ⟨rfl, rfl⟩

/-- Behind the check the builder holds its own address. -/
theorem check_any (B b : Nat) (bs : List Value) (w : World) (h : Lib.IsBuilder 123 5 B b bs w) :
    Calls Tryz.prog 111 #[.pointer (some ⟨b, 0, none⟩)] w fun e w' => e = .returned (.tuple #[]) ∧ Lib.BuilderAt 123 5 B b (.pointer (some ⟨b, 0, none⟩)) bs w' ∧ Below B w w' := by
  rcases h with h | h
  · refine (check_fresh b w h.cell0 h.shape h.frozen0).mono ?_
    rintro e w' ⟨rfl, rfl⟩
    exact ⟨rfl, h.used _, (Below.refl B w).setCell (p := ⟨b, 0, none⟩) h.1 _⟩
  · refine (check_used b w h.cell0).mono ?_
    rintro e w' ⟨rfl, rfl⟩
    exact ⟨rfl, h, Below.refl B _⟩

theorem lt_of_block {w : World} {b : Nat} {o : Obj} (h : w.heap[b]? = some o) : b < w.heap.size := by
  rcases Nat.lt_or_ge b w.heap.size with h' | h'
  · exact h'
  · rw [Array.getElem?_eq_none h'] at h; cases h

theorem one_new (w : World) (x : Value) (t : TypeId) : ∀ j u, [x][j]? = some u → (w.alloc (.cells #[x] t)).cell? ((⟨w.heap.size, 0, none⟩ : Addr).add j) = some u := by
  intro j u hj
  match j, hj with
  | 0, hj => simp at hj; subst hj; simp [Addr.add]

theorem own_slice {w : World} {B e n : Nat} {v : Value} {xs : List Value} (h : w.ownsRow B e 1 v n xs) : ∃ a c, v = .slice a n c := by
  rcases h.2 with ⟨hv, h0⟩ | ⟨g, cap, cur, hv, _⟩
  · exact ⟨none, 0, by rw [hv, h0]⟩
  · exact ⟨_, _, hv⟩

set_option maxHeartbeats 1000000 in
set_option maxRecDepth 100000 in
theorem writeByte_any (B b : Nat) (bs : List Value) (c : Int) (w : World) (h : Lib.IsBuilder 123 5 B b bs w) (hlen : bs.length + 1 ≤ 140737488355328) (hBw : B ≤ w.heap.size) :
    Calls Tryz.prog 102 #[.pointer (some ⟨b, 0, none⟩), .int .u8 c] w fun e w' => e = .returned .nilIface ∧ Lib.BuilderAt 123 5 B b (.pointer (some ⟨b, 0, none⟩)) (bs ++ [.int .u8 c]) w' ∧ Below B w w' := by
  obtain ⟨i0, hi, hz0, hz1, hz2⟩ := info_parts infoB
  go_enter Tryz.func102, Tryz.ntmps102
  go_wp2_with (go_at_call 111; refine (check_any B b bs _ h).mono ?_)
  rintro e w1 ⟨rfl, h1, hb1⟩
  obtain ⟨hB, v, hbk, hown, hne⟩ := h1
  have c0 : w1.cell? ⟨b, 0, none⟩ = some (.pointer (some ⟨b, 0, none⟩)) := by rw [Lib.cell_of_heap hbk]; rfl
  have c1 : w1.cell? ⟨b, 1, none⟩ = some v := by rw [Lib.cell_of_heap hbk]; rfl
  go_wp2_with (at_builtin; refine wpList_append_own _ rfl _ _ 77 rfl B 5 i0 (.int .u8 0) 1 1 Tryz.underlying77 hi hz0 hz1 hz2 rfl (by decide) _ _ _ rfl (hown.alloc _) ⟨w1.heap.size, 0, none⟩ 1 1 [.int .u8 c] rfl rfl ?c1 ?c2 ?c3 ?c4 ?c5 ?_)
  case c1 => exact one_new w1 _ _
  case c2 => intro u hu; simp at hu; subst hu; rfl
  case c3 => unfold maxLen; omega
  case c4 => omega
  case c5 => have := hb1.size; simp; omega
  intro v' w2 hown' hgrow _
  have hlt := lt_of_block hbk
  have hb2 : w2.heap[b]? = some (.cells #[.pointer (some ⟨b, 0, none⟩), v] 123 (0, 0)) := by
    rw [hgrow.block b (by simp; omega) (fun e => hne e.symm), Lib.alloc_old w1 _ b hlt]
    exact hbk
  have d0 : w2.cell? ⟨b, 0, none⟩ = some (.pointer (some ⟨b, 0, none⟩)) := by rw [Lib.cell_of_heap hb2]; rfl
  have d1 : w2.cell? ⟨b, 1, none⟩ = some v := by rw [Lib.cell_of_heap hb2]; rfl
  have f1 : w2.frozen? ⟨b, 1, none⟩ = false := Lib.frozen_of_heap hb2 1
  obtain ⟨ao, cap, rfl⟩ := own_slice hown'
  go_wp2
  go_ret
  refine ⟨rfl, ?_, ?_⟩
  · exact Lib.BuilderAt.put (T := 123) (e := 5) hB hb2 (bs' := bs ++ [.int .u8 c]) (by simpa using hown') (by decide)
  · exact ((hb1.alloc (by have := hb1.size; omega) _).grown hgrow (by have := hb1.size; simp; omega) (fun k hk => (hown.lt k hk).1)).setCell (p := ⟨b, 1, none⟩) hB _

set_option maxHeartbeats 1000000 in
set_option maxRecDepth 100000 in
theorem writeString_any (B b : Nat) (bs : List Value) (s : ByteArray) (w : World) (h : Lib.IsBuilder 123 5 B b bs w) (hlen : bs.length + s.size ≤ 140737488355328) (hBw : B ≤ w.heap.size) :
    Calls Tryz.prog 103 #[.pointer (some ⟨b, 0, none⟩), .string s] w fun e w' => e = .returned (.tuple #[.int .i64 s.size, .nilIface]) ∧ Lib.BuilderAt 123 5 B b (.pointer (some ⟨b, 0, none⟩)) (bs ++ Lib.strCells s) w' ∧ Below B w w' := by
  obtain ⟨i0, hi, hz0, hz1, hz2⟩ := info_parts infoB
  go_enter Tryz.func103, Tryz.ntmps103
  go_wp2_with (go_at_call 111; refine (check_any B b bs _ h).mono ?_)
  rintro e w1 ⟨rfl, h1, hb1⟩
  obtain ⟨hB, v, hbk, hown, hne⟩ := h1
  have c0 : w1.cell? ⟨b, 0, none⟩ = some (.pointer (some ⟨b, 0, none⟩)) := by rw [Lib.cell_of_heap hbk]; rfl
  have c1 : w1.cell? ⟨b, 1, none⟩ = some v := by rw [Lib.cell_of_heap hbk]; rfl
  go_wp2_with (at_builtin; refine Lib.wpList_append_own_string _ rfl _ _ 77 9 rfl B 5 i0 Tryz.underlying77 Tryz.underlying9 hi hz0 hz1 hz2 _ _ _ rfl hown s rfl ?c3 ?c4 ?c5 ?_)
  case c3 => unfold maxLen; omega
  case c4 => omega
  case c5 => have := hb1.size; omega
  intro v' w2 hown' hgrow _
  have hlt := lt_of_block hbk
  have hb2 : w2.heap[b]? = some (.cells #[.pointer (some ⟨b, 0, none⟩), v] 123 (0, 0)) := by
    rw [hgrow.block b hlt (fun e => hne e.symm)]
    exact hbk
  have d0 : w2.cell? ⟨b, 0, none⟩ = some (.pointer (some ⟨b, 0, none⟩)) := by rw [Lib.cell_of_heap hb2]; rfl
  have d1 : w2.cell? ⟨b, 1, none⟩ = some v := by rw [Lib.cell_of_heap hb2]; rfl
  have f1 : w2.frozen? ⟨b, 1, none⟩ = false := Lib.frozen_of_heap hb2 1
  obtain ⟨ao, cap, rfl⟩ := own_slice hown'
  go_wp2
  go_ret2
  refine ⟨rfl, ?_, ?_⟩
  · exact Lib.BuilderAt.put (T := 123) (e := 5) hB hb2 (bs' := bs ++ Lib.strCells s) (by simpa [Lib.strCells_length] using hown') (by decide)
  · exact (hb1.grown hgrow (by have := hb1.size; omega) (fun k hk => (hown.lt k hk).1)).setCell (p := ⟨b, 1, none⟩) hB _

end Go.Proofs.YtgcaplbeahjbmaaGreatDoor.D1

/- Walks: the reference's paths: pieces, parts, text. -/
namespace Go.Proofs.YtgcaplbeahjbmaaGreatDoor.D1
open Go.RowKit Pth

/-- Texts as cells. -/
def S (l : List (List UInt8)) : List Value := l.map fun x => .string ⟨x.toArray⟩
theorem S_len (l : List (List UInt8)) : (S l).length = l.length := by simp [S]
theorem S_snoc (l : List (List UInt8)) (x : List UInt8) : S (l ++ [x]) = S l ++ [.string ⟨x.toArray⟩] := by simp [S]

/-- A list of texts is handed back in memory of the call's own. -/
def RowPost (B : Nat) (l : List (List UInt8)) (w : World) (e : Ending) (w' : World) : Prop :=
  ∃ v, e = .returned v ∧ w'.ownsRow B 9 1 v l.length (S l) ∧ Below B w w'

theorem extract_mid (s : ByteArray) (f k : Nat) : s.extract f k = ⟨(mid s.data.toList f k).toArray⟩ := by
  apply ByteArray.ext
  apply Array.ext'
  simp [mid, ByteArray.data_extract, List.extract_eq_take_drop, List.drop_take]

/-- A text put behind a list of the call's own. -/
theorem wpApp {ops : Array Oper} {rest : List Oper} {o : Oper} {a : Act} {Q : Exit → Act → World → Prop} {w : World} {z : ByteArray} (hgd : o.guard = none) (s x : Operand)
    (ho : o.op = .call { callee := .builtin .append, args := #[s, x], argTypes := #[23, 23] })
    (B : Nat) (v : Value) (l : List (List UInt8)) (y : List UInt8) (hz : z = ⟨y.toArray⟩) (hs : a.eval s = v) (hown : w.ownsRow B 9 1 v l.length (S l)) (N : Nat) (hx : a.eval x = .slice (some ⟨N, 0, none⟩) 1 1) (hN : N = w.heap.size)
    (hlen : l.length ≤ 1000000) (hB : B ≤ w.heap.size)
    (h : ∀ v' w', w'.ownsRow B 9 1 v' (l ++ [y]).length (S (l ++ [y])) → Below B w w' → w.grownBy w' v.ownBlock → wpList Tryz.prog ops Q rest (a.put o.dst v') w') :
    wpList Tryz.prog ops Q (o :: rest) a (w.alloc (.cells #[.string z] 9)) := by
  subst hz hN
  obtain ⟨i0, hi, hz0, hz1, hz2⟩ := info_parts infoS
  refine wpList_append_own _ hgd s x 23 ho B 9 i0 (.string ByteArray.empty) 1 16 Tryz.underlying23 hi hz0 hz1 hz2 rfl (by decide) v l.length (S l) hs (hown.alloc _) ⟨w.heap.size, 0, none⟩ 1 1 [.string ⟨y.toArray⟩] hx rfl (one_new w _ _) ?_ ?_ ?_ ?_ ?_
  · intro u hu; simp at hu; subst hu; rfl
  · unfold maxLen; omega
  · omega
  · simp; omega
  · intro v' w' h1 h2 _
    have hg : w.grownBy w' v.ownBlock := ⟨h2.os, h2.tape, h2.output, Nat.le_trans (by simp) h2.size, fun k hk hne => (h2.block k (by simp; omega) hne).trans (Below.heap_alloc _ _ _ hk)⟩
    refine h v' w' (by simpa [S_snoc] using h1) ?_ hg
    exact (Below.refl B w).grown hg hB (fun k hk => (hown.lt k hk).1)

set_option maxHeartbeats 1000000 in
theorem l1Split_any (s : ByteArray) (w : World) (hs : s.size ≤ 1000) :
    Calls Tryz.prog 66 #[.string s, .int .u8 47] w (RowPost w.heap.size (splitL s.data.toList) w) := by
  go_enter Tryz.func66, Tryz.ntmps66
  go_wp2
  go_loopw [5, 6, 7] (fun v f i wr => ∃ (acc : List (List UInt8)) (a k : Nat), a ≤ k ∧ k ≤ s.size ∧ acc.length ≤ k ∧ f = .int .i64 a ∧ i = .int .i64 k ∧ wr.ownsRow w.heap.size 9 1 v acc.length (S acc) ∧ Below w.heap.size w wr ∧
     Hid (splitL s.data.toList = acc ++ splitAux (mid s.data.toList a k).reverse (s.data.toList.drop k))) (fun _ _ i _ => s.size - (intOf i).toNat)
  case atStart => exact ⟨[], 0, 0, Nat.le_refl _, Nat.zero_le _, by simp, rfl, rfl, World.ownsRow_nil _ _ _ _, Below.refl _ _, split_start s⟩
  case round =>
    obtain ⟨acc, a, k, hak, hk, hal, rfl, rfl, hown, hb, HS⟩ := hrel
    have hbs := hb.size
    by_cases hlt : k < s.size
    · by_cases hc : s[k].toNat = 47
      · have hc1 : ((s[k].toNat : Int) == 47) = true := by simp [hc]
        have HC : Hid (s[k].toNat = 47) := hc
        clear hc
        go_wp2_with (at_builtin; go_must (refine wpApp rfl _ _ rfl w.heap.size _ acc (mid s.data.toList a k) (extract_mid s a k) rfl hown _ rfl rfl (by omega) hbs ?_); intro v' w2 hown2 hb2 hg2)
        go_roundw
        case rel => exact ⟨acc ++ [mid s.data.toList a k], k + 1, k + 1, by omega, by omega, by simp; omega, by go_num, by go_num, hown2, hb.trans hb2, split_slash hlt HC.out HS.out⟩
        case measure => simp [intOf]; omega
      · have hc1 : ((s[k].toNat : Int) == 47) = false := by simp; omega
        have HC : Hid (¬ s[k].toNat = 47) := hc
        clear hc
        go_wp2_with fail
        go_roundw
        case rel => exact ⟨acc, a, k + 1, by omega, by omega, by omega, rfl, by go_num, hown, hb, split_other hak hlt HC.out HS.out⟩
        case measure => simp [intOf]; omega
    · go_wp2_with (at_builtin; refine wpApp rfl _ _ rfl w.heap.size _ acc (mid s.data.toList a s.size) (extract_mid s a s.size) rfl hown _ rfl rfl (by omega) hbs ?_; intro v' w2 hown2 hb2 hg2)
      go_ret
      exact ⟨_, rfl, by rw [split_end (k := k) (by omega) HS.out]; exact hown2, hb.trans hb2⟩

end Go.Proofs.YtgcaplbeahjbmaaGreatDoor.D1

/- Walks: the reference's parts of a path. -/
namespace Go.Proofs.YtgcaplbeahjbmaaGreatDoor.D1
open Go.RowKit Pth

theorem S_at {l : List (List UInt8)} {k : Nat} (hk : k < l.length) : (S l)[k]? = some (.string ⟨(l[k]).toArray⟩) := by
  simp [S, hk]

theorem own_at {w : World} {B n : Nat} {v : Value} {l : List (List UInt8)} (h : w.ownsRow B 9 1 v n (S l)) (k : Nat) (hk : k < l.length) :
    ∃ g cap, v = .slice (some ⟨g, 0, none⟩) n cap ∧ B ≤ g ∧ g < w.heap.size ∧ n ≤ cap ∧ cap ≤ maxLen ∧ w.cell? ⟨g, k, none⟩ = some (.string ⟨(l[k]).toArray⟩) := by
  have hn : n = l.length := by have := h.1; rw [S_len] at this; omega
  rcases h.2 with ⟨_, h0⟩ | ⟨g, cap, cur, hv, hB, hh, hnc, hcm, _⟩
  · omega
  · refine ⟨g, cap, hv, hB, lt_of_block hh, hnc, hcm, ?_⟩
    have := h.cells (g := g) (by rw [hv]; rfl) k _ (S_at hk)
    have e : (⟨g, 0, none⟩ : Addr).add k = ⟨g, k, none⟩ := by unfold Addr.add; split <;> simp_all
    rw [e] at this
    exact this

theorem own_pop {w : World} {B g c : Nat} {a : List (List UInt8)} {q : List UInt8} (h : w.ownsRow B 9 1 (.slice (some ⟨g, 0, none⟩) (a.length + 1) c) (a.length + 1) (S (a ++ [q]))) :
    w.ownsRow B 9 1 (.slice (some ⟨g, 0, none⟩) a.length c) a.length (S a) := by
  rcases h.2 with ⟨h0, _⟩ | ⟨g', cap', cur, hv, hB, hh, hn, hcap, hsz, htake⟩
  · cases h0
  · cases hv
    refine ⟨by rw [S_len]; omega, .inr ⟨g, c, cur, rfl, hB, hh, by omega, hcap, hsz, ?_⟩⟩
    have h3 : (cur.toList.take ((a.length + 1) * 1)).take (a.length * 1) = (S (a ++ [q])).take (a.length * 1) := by rw [htake]
    rw [List.take_take, Nat.min_eq_left (by omega)] at h3
    rw [h3, S_snoc, Nat.mul_one]
    have e : a.length = (S a).length := (S_len a).symm
    rw [e]
    simp

theorem l1Rooted_eq {b : Bool} (s : ByteArray) (w : World) (hs : s.size ≤ 1000) (hb : Hid (rootedL s.data.toList = b)) :
    Calls Tryz.prog 59 #[.string s] w fun e w' => e = .returned (.bool b) ∧ w = w' := by
  have h := l1Rooted_any s w (by unfold maxLen; omega)
  rw [hb.out] at h
  exact h

theorem own_base {w : World} {B B' n : Nat} {v : Value} {xs : List Value} (h : w.ownsRow B 9 1 v n xs) (hB : B' ≤ B) : w.ownsRow B' 9 1 v n xs := by
  refine ⟨h.1, ?_⟩
  rcases h.2 with h0 | ⟨g, cap, cur, hv, hg, r⟩
  · exact .inl h0
  · exact .inr ⟨g, cap, cur, hv, by omega, r⟩

/-- The last one of a list, where it has one. -/
theorem last_of (acc : List (List UInt8)) : acc = [] ∨ ∃ a q, acc = a ++ [q] := by
  rcases List.eq_nil_or_concat acc with h | ⟨a, q, h⟩
  · exact .inl h
  · exact .inr ⟨a, q, by rw [h, List.concat_eq_append]⟩

theorem own_last {w : World} {B n : Nat} {v : Value} {a : List (List UInt8)} {q : List UInt8} (h : w.ownsRow B 9 1 v n (S (a ++ [q]))) :
    ∃ g cap, v = .slice (some ⟨g, 0, none⟩) n cap ∧ B ≤ g ∧ g < w.heap.size ∧ n ≤ cap ∧ cap ≤ maxLen ∧ w.cell? ⟨g, a.length, none⟩ = some (.string ⟨q.toArray⟩) := by
  have := own_at h a.length (by simp)
  simpa using this

set_option maxHeartbeats 2000000 in
theorem l1Parts_any (s : ByteArray) (w : World) (hs : s.size ≤ 1000) :
    Calls Tryz.prog 58 #[.string s] w (RowPost w.heap.size (partsL s.data.toList) w) := by
  go_enter Tryz.func58, Tryz.ntmps58
  go_wp2_with (go_at_call 66; refine (l1Split_any s _ hs).mono ?_)
  rintro e w1 ⟨v1, rfl, hown1, hb1⟩
  obtain ⟨ao, cap, rfl⟩ := own_slice hown1
  have hb1s := hb1.size
  have hls := split_len s
  go_wp2_with fail
  go_loopw [3, 10] (fun v i wr => ∃ (acc : List (List UInt8)) (k : Nat), k ≤ (splitL s.data.toList).length ∧ acc.length ≤ k ∧ i = .int .i64 k ∧ wr.ownsRow w1.heap.size 9 1 v acc.length (S acc) ∧ Below w1.heap.size w1 wr ∧
     Hid (partsL s.data.toList = partsFrom (rootedL s.data.toList) acc ((splitL s.data.toList).drop k))) (fun _ i _ => (splitL s.data.toList).length - (intOf i).toNat)
  case atStart => exact ⟨[], 0, Nat.zero_le _, by simp, rfl, World.ownsRow_nil _ _ _ _, Below.refl _ _, rfl⟩
  case round =>
    obtain ⟨acc, k, hk, hal, rfl, hown, hb, HS⟩ := hrel
    have hbs := hb.size
    by_cases hlt : k < (splitL s.data.toList).length
    · obtain ⟨g, cap', hv, hg1, hg2, _, _, hcell⟩ := own_at hown1 k hlt
      injection hv with hv1 hv2 hv3
      subst hv1
      have hcr : wr.cell? ⟨g, k, none⟩ = some (.string ⟨((splitL s.data.toList)[k]).toArray⟩) := by rw [hb.cell (p := ⟨g, k, none⟩) hg2]; exact hcell
      clear hv3 hcell
      have HS2 : Hid (partsL s.data.toList = partsFrom (rootedL s.data.toList) (pstep (rootedL s.data.toList) acc ((splitL s.data.toList)[k])) ((splitL s.data.toList).drop (k + 1))) := parts_step hlt rfl HS.out
      generalize (splitL s.data.toList)[k] = p at hcr HS2
      clear HS
      by_cases hp0 : p = [] ∨ p = [46]
      · rw [pstep_skip hp0] at HS2
        obtain ⟨sv, sc, hsv⟩ := own_slice hown
        subst hsv
        rcases hp0 with hp0 | hp0
        all_goals
          subst hp0
          go_wp2_with fail
          go_roundw
          case rel => exact ⟨acc, k + 1, by omega, by omega, by go_num, hown, hb, HS2⟩
          case measure => simp [intOf]; omega
      · by_cases hp1 : p = dots
        · subst hp1
          unfold dots at hcr
          clear hp0
          rcases last_of acc with hacc | ⟨a, q, hacc⟩
          · subst hacc
            obtain ⟨sv, sc, hsv⟩ := own_slice hown
            subst hsv
            rcases hr : rootedL s.data.toList with _ | _
            · rw [hr, pstep_up0] at HS2
              have HR : Hid (rootedL s.data.toList = false) := hr
              clear hr
              go_wp2_with (first | (go_at_call 59; refine (l1Rooted_eq s _ hs HR).mono ?_; rintro e w' ⟨rfl, rfl⟩) | (at_builtin; refine wpApp rfl _ _ rfl w1.heap.size _ [] dots rfl rfl hown _ rfl rfl (by simp) hbs ?_; intro v' w2 hown2 hb2 hg2))
              go_roundw
              case rel => exact ⟨[] ++ [dots], k + 1, by omega, by simp, by go_num, hown2, hb.trans hb2, HS2⟩
              case measure => simp [intOf]; omega
            · rw [hr, pstep_stay0] at HS2
              have HR : Hid (rootedL s.data.toList = true) := hr
              clear hr
              go_wp2_with (go_at_call 59; refine (l1Rooted_eq s _ hs HR).mono ?_; rintro e w' ⟨rfl, rfl⟩)
              go_roundw
              case rel => exact ⟨[], k + 1, by omega, by simp, by go_num, hown, hb, HS2⟩
              case measure => simp [intOf]; omega
          · subst hacc
            have hn : (a ++ [q]).length = a.length + 1 := by simp
            rw [hn] at hown hal
            obtain ⟨g2, c2, hsv, hg3, hg4, hc3, hc4, hlast⟩ := own_last hown
            unfold maxLen at hc4
            subst hsv
            clear hn
            by_cases hq : q = dots
            · subst hq
              unfold dots at hlast
              rcases hr : rootedL s.data.toList with _ | _
              · rw [hr, pstep_up] at HS2
                have HR : Hid (rootedL s.data.toList = false) := hr
                clear hr
                go_wp2_with (first | (go_at_call 59; refine (l1Rooted_eq s _ hs HR).mono ?_; rintro e w' ⟨rfl, rfl⟩) | (at_builtin; refine wpApp rfl _ _ rfl w1.heap.size _ (a ++ [dots]) dots rfl rfl (by rw [List.length_append]; exact hown) _ rfl rfl (by simp; omega) hbs ?_; intro v' w2 hown2 hb2 hg2))
                go_roundw
                case rel => exact ⟨(a ++ [dots]) ++ [dots], k + 1, by omega, by simp; omega, by go_num, hown2, hb.trans hb2, HS2⟩
                case measure => simp [intOf]; omega
              · rw [hr, pstep_stay] at HS2
                have HR : Hid (rootedL s.data.toList = true) := hr
                clear hr
                go_wp2_with (go_at_call 59; refine (l1Rooted_eq s _ hs HR).mono ?_; rintro e w' ⟨rfl, rfl⟩)
                go_roundw
                case rel => exact ⟨a ++ [dots], k + 1, by omega, by simp; omega, by go_num, by rw [List.length_append]; exact hown, hb, HS2⟩
                case measure => simp [intOf]; omega
            · rw [pstep_drop hq] at HS2
              have hq1 : ¬ q = [46, 46] := hq
              have hq2 : (q == [46, 46]) = false := by simpa using hq1
              clear hq
              go_wp2_with fail
              go_roundw
              case rel => exact ⟨a, k + 1, by omega, by omega, by go_num, own_pop hown, hb, HS2⟩
              case measure => simp [intOf]; omega
        · have hp2 : ¬ p = [] := fun h => hp0 (.inl h)
          have hp3 : ¬ p = [46] := fun h => hp0 (.inr h)
          rw [pstep_name hp2 hp3 hp1] at HS2
          have hp4 : p.isEmpty = false := by simpa using hp2
          have hp5 : (p == [46]) = false := by simpa using hp3
          have hp6 : (p == [46, 46]) = false := by simpa [dots] using hp1
          have hp7 : ¬ p = [46, 46] := hp1
          clear hp0 hp1
          obtain ⟨sv, sc, hsv⟩ := own_slice hown
          subst hsv
          go_wp2_with (at_builtin; refine wpApp rfl _ _ rfl w1.heap.size _ acc p rfl rfl hown _ rfl rfl (by omega) hbs ?_; intro v' w2 hown2 hb2 hg2)
          go_roundw
          case rel => exact ⟨acc ++ [p], k + 1, by omega, by simp; omega, by go_num, hown2, hb.trans hb2, HS2⟩
          case measure => simp [intOf]; omega
    · go_wp2_with fail
      go_ret
      exact ⟨_, rfl, by rw [parts_end (k := k) (by omega) HS.out]; exact own_base hown hb1s, hb1.trans (hb.mono hb1s)⟩

end Go.Proofs.YtgcaplbeahjbmaaGreatDoor.D1
