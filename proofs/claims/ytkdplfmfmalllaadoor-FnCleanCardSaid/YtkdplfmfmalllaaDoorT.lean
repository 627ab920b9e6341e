/- A list of texts put behind another one, wherever it lies. -/
import Derived.Test.YtkdplfmfmalllaaDoorR
import Derived.StillTailTactics
namespace Go.Proofs.YtkdplfmfmalllaaDoor
open Go.RowKit Pth

theorem S_append (a b : List (List UInt8)) : S (a ++ b) = S a ++ S b := by simp [S]
theorem S_one (l : List (List UInt8)) : ∀ u ∈ S l, u.oneCell' = true := by
  intro u hu
  simp only [S, List.mem_map] at hu
  obtain ⟨x, _, rfl⟩ := hu
  rfl

theorem run_append_none (w : World) (B n c : Nat) (ty : TypeId) (v : Value) (xs : List Value) (hown : w.ownsRow B 9 1 v n xs) :
    (Builtin.append_ #[41, 41] ty #[v, .slice none 0 c]).run Tryd.prog w = .ok v w := by
  obtain ⟨i0, hi, hz0, hz1, hz2⟩ := info_parts infoS
  rcases hown.2 with ⟨rfl, rfl⟩ | ⟨g, cap, cur, rfl, _, _, hnc, _⟩
  · simp [Builtin.append_, run_underlying Tryd.underlying41, sizeOf, typeInfo, hi, Builtin.lenOf, Builtin.firstCells]
  · simp [Builtin.append_, run_underlying Tryd.underlying41, sizeOf, typeInfo, hi, Builtin.lenOf, Builtin.firstCells, hnc, storeCells]

theorem run_append_row (w : World) (B : Nat) (ty : TypeId) (v : Value) (l l2 : List (List UInt8)) (A : Option Addr) (c : Nat) (hown : w.ownsRow B 9 1 v l.length (S l)) (hrow : RowAt w (.slice A l2.length c) l2)
    (hlen : l.length + l2.length ≤ 1000000) (hB : B ≤ w.heap.size) :
    ∃ v' w', (Builtin.append_ #[41, 41] ty #[v, .slice A l2.length c]).run Tryd.prog w = .ok v' w' ∧ w'.ownsRow B 9 1 v' (l ++ l2).length (S (l ++ l2)) ∧ w.grownBy w' v.ownBlock := by
  obtain ⟨i0, hi, hz0, hz1, hz2⟩ := info_parts infoS
  obtain ⟨A', c', hv, hat⟩ := hrow
  injection hv with hA _ _
  subst hA
  have go : ∀ ad : Addr, (∀ j u, (S l2)[j]? = some u → w.cell? (ad.add j) = some u) → ∃ v' w', (Builtin.append_ #[41, 41] ty #[v, .slice (some ad) l2.length c]).run Tryd.prog w = .ok v' w' ∧ w'.ownsRow B 9 1 v' (l ++ l2).length (S (l ++ l2)) ∧ w.grownBy w' v.ownBlock := by
    intro ad hc
    obtain ⟨v', w', h1, h2, h3, _⟩ := run_append_own (P := Tryd.prog) w B 41 ty 9 i0 (.string ByteArray.empty) 1 16 Tryd.underlying41 hi hz0 hz1 hz2 rfl (by decide) v l.length (S l) hown ad l2.length c (S l2) (by rw [S_len]; omega) hc (S_one l2) (by unfold maxLen; omega) (by omega) hB
    exact ⟨v', w', h1, by rw [S_append, List.length_append]; exact h2, h3⟩
  rcases l2 with _ | ⟨p, t⟩
  · rcases A with _ | ad
    · exact ⟨v, w, run_append_none w B l.length c ty v (S l) hown, by simpa using hown, ⟨rfl, rfl, rfl, Nat.le_refl _, fun _ _ _ => rfl⟩⟩
    · exact go ad (fun j u hu => by simp [S] at hu)
  · obtain ⟨g, o, rfl, _, _⟩ := hat 0 (by simp)
    refine go _ (fun j u hu => ?_)
    have hj : j < (p :: t).length := by
      have := (List.getElem?_eq_some_iff.1 hu).1
      rw [S_len] at this; exact this
    obtain ⟨g', o', he, _, hc⟩ := hat j hj
    injection he with he
    injection he with h1 h2
    subst h1 h2
    rw [S_at hj] at hu
    injection hu with hu
    subst hu
    have e : (⟨g, o, none⟩ : Addr).add j = ⟨g, o + j, none⟩ := by unfold Addr.add; split <;> simp_all
    rw [e]; exact hc

theorem wpAppRow {ops : Array Oper} {rest : List Oper} {o : Oper} {a : Act} {Q : Exit → Act → World → Prop} {w : World} (hgd : o.guard = none) (s x : Operand)
    (ho : o.op = .call { callee := .builtin .append, args := #[s, x], argTypes := #[41, 41] })
    (B : Nat) (v : Value) (l l2 : List (List UInt8)) (A : Option Addr) (c : Nat) (hs : a.eval s = v) (hown : w.ownsRow B 9 1 v l.length (S l)) (hx : a.eval x = .slice A l2.length c) (hrow : RowAt w (.slice A l2.length c) l2)
    (hlen : l.length + l2.length ≤ 1000000) (hB : B ≤ w.heap.size)
    (h : ∀ v' w', w'.ownsRow B 9 1 v' (l ++ l2).length (S (l ++ l2)) → w.grownBy w' v.ownBlock → wpList Tryd.prog ops Q rest (a.put o.dst v') w') :
    wpList Tryd.prog ops Q (o :: rest) a w := by
  refine wpList_plain hgd fun K hK => ?_
  obtain ⟨v', w', hrun, h2, h3⟩ := run_append_row w B o.type v l l2 A c hown hrow hlen hB
  unfold Oper.wp execOp
  simp only [ho, resolve, invoke, builtin, Sem.run_bind, Sem.run_pure, Result.andThen_ok, List.map_toArray, List.map_cons, List.map_nil, hs, hx, hrun]
  exact hK _ _ (h v' w' h2 h3)

end Go.Proofs.YtkdplfmfmalllaaDoor
