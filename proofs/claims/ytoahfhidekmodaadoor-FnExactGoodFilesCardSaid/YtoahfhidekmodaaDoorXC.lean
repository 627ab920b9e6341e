/- Walks: the reference's paths: pieces, parts, text. -/
import Derived.Test.YtoahfhidekmodaaDoorXB
import Derived.Deep.LoopGhost
import Derived.Deep.DeepMust
namespace Go.Proofs.YtoahfhidekmodaaDoor.D1
open Go.RowKit Pth

/-- Texts as cells. -/
def S (l : List (List UInt8)) : List Value := l.map fun x => .string ⟨x.toArray⟩
theorem S_len (l : List (List UInt8)) : (S l).length = l.length := by simp [S]
theorem S_snoc (l : List (List UInt8)) (x : List UInt8) : S (l ++ [x]) = S l ++ [.string ⟨x.toArray⟩] := by simp [S]

/-- A list of texts is handed back in memory of the call's own. -/
def RowPost (B : Nat) (l : List (List UInt8)) (w : World) (e : Ending) (w' : World) : Prop :=
  ∃ v, e = .returned v ∧ w'.ownsRow B 9 1 v l.length (S l) ∧ Below B w w'

theorem extract_mid (s : ByteArray) (f k : Nat) : s.extract f k = ⟨(mid s.data.toList f k).toArray⟩ := by
  apply ByteArray.ext
  apply Array.ext'
  simp [mid, ByteArray.data_extract, List.extract_eq_take_drop, List.drop_take]

/-- A text put behind a list of the call's own. -/
theorem wpApp {ops : Array Oper} {rest : List Oper} {o : Oper} {a : Act} {Q : Exit → Act → World → Prop} {w : World} {z : ByteArray} (hgd : o.guard = none) (s x : Operand)
    (ho : o.op = .call { callee := .builtin .append, args := #[s, x], argTypes := #[29, 29] })
    (B : Nat) (v : Value) (l : List (List UInt8)) (y : List UInt8) (hz : z = ⟨y.toArray⟩) (hs : a.eval s = v) (hown : w.ownsRow B 9 1 v l.length (S l)) (N : Nat) (hx : a.eval x = .slice (some ⟨N, 0, none⟩) 1 1) (hN : N = w.heap.size)
    (hlen : l.length ≤ 1000000) (hB : B ≤ w.heap.size)
    (h : ∀ v' w', w'.ownsRow B 9 1 v' (l ++ [y]).length (S (l ++ [y])) → Below B w w' → w.grownBy w' v.ownBlock → wpList Tryd.prog ops Q rest (a.put o.dst v') w') :
    wpList Tryd.prog ops Q (o :: rest) a (w.alloc (.cells #[.string z] 9)) := by
  subst hz hN
  obtain ⟨i0, hi, hz0, hz1, hz2⟩ := info_parts infoS
  refine wpList_append_own _ hgd s x 29 ho B 9 i0 (.string ByteArray.empty) 1 16 Tryd.underlying29 hi hz0 hz1 hz2 rfl (by decide) v l.length (S l) hs (hown.alloc _) ⟨w.heap.size, 0, none⟩ 1 1 [.string ⟨y.toArray⟩] hx rfl (one_new w _ _) ?_ ?_ ?_ ?_ ?_
  · intro u hu; simp at hu; subst hu; rfl
  · unfold maxLen; omega
  · omega
  · simp; omega
  · intro v' w' h1 h2 _
    have hg : w.grownBy w' v.ownBlock := ⟨h2.os, h2.tape, h2.output, Nat.le_trans (by simp) h2.size, fun k hk hne => (h2.block k (by simp; omega) hne).trans (Below.heap_alloc _ _ _ hk)⟩
    refine h v' w' (by simpa [S_snoc] using h1) ?_ hg
    exact (Below.refl B w).grown hg hB (fun k hk => (hown.lt k hk).1)

set_option maxHeartbeats 1000000 in
theorem l1Split_any (s : ByteArray) (w : World) (hs : s.size ≤ 1000) :
    Calls Tryd.prog 52 #[.string s, .int .u8 47] w (RowPost w.heap.size (splitL s.data.toList) w) := by
  go_enter Tryd.func52, Tryd.ntmps52
  go_wp2
  go_loopw [5, 6, 7] (fun v f i wr => ∃ (acc : List (List UInt8)) (a k : Nat), a ≤ k ∧ k ≤ s.size ∧ acc.length ≤ k ∧ f = .int .i64 a ∧ i = .int .i64 k ∧ wr.ownsRow w.heap.size 9 1 v acc.length (S acc) ∧ Below w.heap.size w wr ∧
     Hid (splitL s.data.toList = acc ++ splitAux (mid s.data.toList a k).reverse (s.data.toList.drop k))) (fun _ _ i _ => s.size - (intOf i).toNat)
  case atStart => exact ⟨[], 0, 0, Nat.le_refl _, Nat.zero_le _, by simp, rfl, rfl, World.ownsRow_nil _ _ _ _, Below.refl _ _, split_start s⟩
  case round =>
    obtain ⟨acc, a, k, hak, hk, hal, rfl, rfl, hown, hb, HS⟩ := hrel
    have hbs := hb.size
    by_cases hlt : k < s.size
    · by_cases hc : s[k].toNat = 47
      · have hc1 : ((s[k].toNat : Int) == 47) = true := by simp [hc]
        have HC : Hid (s[k].toNat = 47) := hc
        clear hc
        go_wp2_with (at_builtin; go_must (refine wpApp rfl _ _ rfl w.heap.size _ acc (mid s.data.toList a k) (extract_mid s a k) rfl hown _ rfl rfl (by omega) hbs ?_); intro v' w2 hown2 hb2 hg2)
        go_roundw
        case rel => exact ⟨acc ++ [mid s.data.toList a k], k + 1, k + 1, by omega, by omega, by simp; omega, by go_num, by go_num, hown2, hb.trans hb2, split_slash hlt HC.out HS.out⟩
        case measure => simp [intOf]; omega
      · have hc1 : ((s[k].toNat : Int) == 47) = false := by simp; omega
        have HC : Hid (¬ s[k].toNat = 47) := hc
        clear hc
        go_wp2_with fail
        go_roundw
        case rel => exact ⟨acc, a, k + 1, by omega, by omega, by omega, rfl, by go_num, hown, hb, split_other hak hlt HC.out HS.out⟩
        case measure => simp [intOf]; omega
    · go_wp2_with (at_builtin; refine wpApp rfl _ _ rfl w.heap.size _ acc (mid s.data.toList a s.size) (extract_mid s a s.size) rfl hown _ rfl rfl (by omega) hbs ?_; intro v' w2 hown2 hb2 hg2)
      go_ret
      exact ⟨_, rfl, by rw [split_end (k := k) (by omega) HS.out]; exact hown2, hb.trans hb2⟩

end Go.Proofs.YtoahfhidekmodaaDoor.D1
