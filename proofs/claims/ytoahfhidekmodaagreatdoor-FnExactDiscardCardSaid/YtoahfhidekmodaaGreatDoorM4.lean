/- Texts of one claim, joined in their order. -/
import Derived.Deep.LoopGhost
import Derived.Deep.DeepMust
import Derived.BigQuiet
import Derived.Lib.Hide
import Derived.Laws.RangeAny
import Derived.Laws.EntriesVeiled
import Derived.Test.YtoahfhidekmodaaGreatDoorM3

/- Walks: the writers of a strings.Builder that the call has made itself. -/
namespace Go.Proofs.YtoahfhidekmodaaGreatDoor.D1
open Go.RowKit Pth

theorem szB : (Tryz.prog.info? 145).map (·.size) = some 2 := by kernel_rfl
theorem lieB : liesAt Tryz.prog Tryz.prog.depth 145 (2 / Tryz.prog.cellsOf 145) 0 145 1 = true := by kernel_rfl
theorem infoB : (Tryz.prog.info? 5).map (fun i => (i.zero, i.size, i.bytes)) = some (some (.int .u8 0), 1, 1) := by kernel_rfl
theorem infoS : (Tryz.prog.info? 9).map (fun i => (i.zero, i.size, i.bytes)) = some (some (.string ByteArray.empty), 1, 16) := by kernel_rfl

set_option maxHeartbeats 400000 in
set_option maxRecDepth 100000 in
theorem check_used (b : Nat) (w : World) (h0 : w.cell? ⟨b, 0, none⟩ = some (.pointer (some ⟨b, 0, none⟩))) :
    Calls Tryz.prog 142 #[.pointer (some ⟨b, 0, none⟩)] w fun e w' => e = .returned (.tuple #[]) ∧ w = w' := by
  obtain ⟨j, hj, _⟩ := Option.map_eq_some_iff.1 szB
  go_enter Tryz.func142, Tryz.ntmps142
  go_wp2
  rw [Lib.run_neq_ptr_same w _ Tryz.underlying143 hj]
  go_wp2
  go_end0
  exact ⟨rfl, rfl⟩

set_option maxHeartbeats 400000 in
set_option maxRecDepth 100000 in
theorem check_fresh (b : Nat) (w : World) (h0 : w.cell? ⟨b, 0, none⟩ = some (.pointer none)) (hsh : w.shape? b = some (145, 2)) (hfz : w.frozen? ⟨b, 0, none⟩ = false) :
    Calls Tryz.prog 142 #[.pointer (some ⟨b, 0, none⟩)] w fun e w' => e = .returned (.tuple #[]) ∧ w' = w.setCell ⟨b, 0, none⟩ (.pointer (some ⟨b, 0, none⟩)) := by
  obtain ⟨j, hj, hjs⟩ := Option.map_eq_some_iff.1 szB
  go_enter Tryz.func142, Tryz.ntmps142
  go_wp2
  rw [Lib.run_to_unsafe w ⟨b, 0, none⟩ Tryz.underlying143 Tryz.underlying163 hj (by rw [hjs]; decide) hsh (Nat.zero_lt_succ 1)]
  simp only [Result.andThen]
  rw [Oper.upon_value]
  go_wp2
  rw [run_callFunc_extern Tryz.func149 (by kernel_rfl) (by kernel_rfl) (by kernel_rfl) (e := Extern.AbiNoEscape.same) (by kernel_rfl)]
  rw [Lib.run_noEscape]
  simp only [Result.andThen]
  rw [Oper.upon_value]
  go_wp2
  rw [Lib.run_from_unsafe w ⟨b, 0, none⟩ Tryz.underlying163 Tryz.underlying143 hj hsh lieB]
  simp only [Result.andThen]
  rw [Oper.upon_value]
  go_wp2
  go_end0
  exact ⟨rfl, rfl⟩

/-- Behind the check the builder holds its own address. -/
theorem check_any (B b : Nat) (bs : List Value) (w : World) (h : Lib.IsBuilder 145 5 B b bs w) :
    Calls Tryz.prog 142 #[.pointer (some ⟨b, 0, none⟩)] w fun e w' => e = .returned (.tuple #[]) ∧ Lib.BuilderAt 145 5 B b (.pointer (some ⟨b, 0, none⟩)) bs w' ∧ Below B w w' := by
  rcases h with h | h
  · refine (check_fresh b w h.cell0 h.shape h.frozen0).mono ?_
    rintro e w' ⟨rfl, rfl⟩
    exact ⟨rfl, h.used _, (Below.refl B w).setCell (p := ⟨b, 0, none⟩) h.1 _⟩
  · refine (check_used b w h.cell0).mono ?_
    rintro e w' ⟨rfl, rfl⟩
    exact ⟨rfl, h, Below.refl B _⟩

theorem lt_of_block {w : World} {b : Nat} {o : Obj} (h : w.heap[b]? = some o) : b < w.heap.size := by
  rcases Nat.lt_or_ge b w.heap.size with h' | h'
  · exact h'
  · rw [Array.getElem?_eq_none h'] at h; cases h

theorem one_new (w : World) (x : Value) (t : TypeId) : ∀ j u, [x][j]? = some u → (w.alloc (.cells #[x] t)).cell? ((⟨w.heap.size, 0, none⟩ : Addr).add j) = some u := by
  intro j u hj
  match j, hj with
  | 0, hj => simp at hj; subst hj; simp [Addr.add]

theorem own_slice {w : World} {B e n : Nat} {v : Value} {xs : List Value} (h : w.ownsRow B e 1 v n xs) : ∃ a c, v = .slice a n c := by
  rcases h.2 with ⟨hv, h0⟩ | ⟨g, cap, cur, hv, _⟩
  · exact ⟨none, 0, by rw [hv, h0]⟩
  · exact ⟨_, _, hv⟩

set_option maxHeartbeats 1000000 in
set_option maxRecDepth 100000 in
theorem writeByte_any (B b : Nat) (bs : List Value) (c : Int) (w : World) (h : Lib.IsBuilder 145 5 B b bs w) (hlen : bs.length + 1 ≤ 140737488355328) (hBw : B ≤ w.heap.size) :
    Calls Tryz.prog 133 #[.pointer (some ⟨b, 0, none⟩), .int .u8 c] w fun e w' => e = .returned .nilIface ∧ Lib.BuilderAt 145 5 B b (.pointer (some ⟨b, 0, none⟩)) (bs ++ [.int .u8 c]) w' ∧ Below B w w' := by
  obtain ⟨i0, hi, hz0, hz1, hz2⟩ := info_parts infoB
  go_enter Tryz.func133, Tryz.ntmps133
  go_wp2_with (go_at_call 142; refine (check_any B b bs _ h).mono ?_)
  rintro e w1 ⟨rfl, h1, hb1⟩
  obtain ⟨hB, v, hbk, hown, hne⟩ := h1
  have c0 : w1.cell? ⟨b, 0, none⟩ = some (.pointer (some ⟨b, 0, none⟩)) := by rw [Lib.cell_of_heap hbk]; rfl
  have c1 : w1.cell? ⟨b, 1, none⟩ = some v := by rw [Lib.cell_of_heap hbk]; rfl
  go_wp2_with (at_builtin; refine wpList_append_own _ rfl _ _ 22 rfl B 5 i0 (.int .u8 0) 1 1 Tryz.underlying22 hi hz0 hz1 hz2 rfl (by decide) _ _ _ rfl (hown.alloc _) ⟨w1.heap.size, 0, none⟩ 1 1 [.int .u8 c] rfl rfl ?c1 ?c2 ?c3 ?c4 ?c5 ?_)
  case c1 => exact one_new w1 _ _
  case c2 => intro u hu; simp at hu; subst hu; rfl
  case c3 => unfold maxLen; omega
  case c4 => omega
  case c5 => have := hb1.size; simp; omega
  intro v' w2 hown' hgrow _
  have hlt := lt_of_block hbk
  have hb2 : w2.heap[b]? = some (.cells #[.pointer (some ⟨b, 0, none⟩), v] 145 (0, 0)) := by
    rw [hgrow.block b (by simp; omega) (fun e => hne e.symm), Lib.alloc_old w1 _ b hlt]
    exact hbk
  have d0 : w2.cell? ⟨b, 0, none⟩ = some (.pointer (some ⟨b, 0, none⟩)) := by rw [Lib.cell_of_heap hb2]; rfl
  have d1 : w2.cell? ⟨b, 1, none⟩ = some v := by rw [Lib.cell_of_heap hb2]; rfl
  have f1 : w2.frozen? ⟨b, 1, none⟩ = false := Lib.frozen_of_heap hb2 1
  obtain ⟨ao, cap, rfl⟩ := own_slice hown'
  go_wp2
  go_ret
  refine ⟨rfl, ?_, ?_⟩
  · exact Lib.BuilderAt.put (T := 145) (e := 5) hB hb2 (bs' := bs ++ [.int .u8 c]) (by simpa using hown') (by decide)
  · exact ((hb1.alloc (by have := hb1.size; omega) _).grown hgrow (by have := hb1.size; simp; omega) (fun k hk => (hown.lt k hk).1)).setCell (p := ⟨b, 1, none⟩) hB _

set_option maxHeartbeats 1000000 in
set_option maxRecDepth 100000 in
theorem writeString_any (B b : Nat) (bs : List Value) (s : ByteArray) (w : World) (h : Lib.IsBuilder 145 5 B b bs w) (hlen : bs.length + s.size ≤ 140737488355328) (hBw : B ≤ w.heap.size) :
    Calls Tryz.prog 134 #[.pointer (some ⟨b, 0, none⟩), .string s] w fun e w' => e = .returned (.tuple #[.int .i64 s.size, .nilIface]) ∧ Lib.BuilderAt 145 5 B b (.pointer (some ⟨b, 0, none⟩)) (bs ++ Lib.strCells s) w' ∧ Below B w w' := by
  obtain ⟨i0, hi, hz0, hz1, hz2⟩ := info_parts infoB
  go_enter Tryz.func134, Tryz.ntmps134
  go_wp2_with (go_at_call 142; refine (check_any B b bs _ h).mono ?_)
  rintro e w1 ⟨rfl, h1, hb1⟩
  obtain ⟨hB, v, hbk, hown, hne⟩ := h1
  have c0 : w1.cell? ⟨b, 0, none⟩ = some (.pointer (some ⟨b, 0, none⟩)) := by rw [Lib.cell_of_heap hbk]; rfl
  have c1 : w1.cell? ⟨b, 1, none⟩ = some v := by rw [Lib.cell_of_heap hbk]; rfl
  go_wp2_with (at_builtin; refine Lib.wpList_append_own_string _ rfl _ _ 22 9 rfl B 5 i0 Tryz.underlying22 Tryz.underlying9 hi hz0 hz1 hz2 _ _ _ rfl hown s rfl ?c3 ?c4 ?c5 ?_)
  case c3 => unfold maxLen; omega
  case c4 => omega
  case c5 => have := hb1.size; omega
  intro v' w2 hown' hgrow _
  have hlt := lt_of_block hbk
  have hb2 : w2.heap[b]? = some (.cells #[.pointer (some ⟨b, 0, none⟩), v] 145 (0, 0)) := by
    rw [hgrow.block b hlt (fun e => hne e.symm)]
    exact hbk
  have d0 : w2.cell? ⟨b, 0, none⟩ = some (.pointer (some ⟨b, 0, none⟩)) := by rw [Lib.cell_of_heap hb2]; rfl
  have d1 : w2.cell? ⟨b, 1, none⟩ = some v := by rw [Lib.cell_of_heap hb2]; rfl
  have f1 : w2.frozen? ⟨b, 1, none⟩ = false := Lib.frozen_of_heap hb2 1
  obtain ⟨ao, cap, rfl⟩ := own_slice hown'
  go_wp2
  go_ret2
  refine ⟨rfl, ?_, ?_⟩
  · exact Lib.BuilderAt.put (T := 145) (e := 5) hB hb2 (bs' := bs ++ Lib.strCells s) (by simpa [Lib.strCells_length] using hown') (by decide)
  · exact (hb1.grown hgrow (by have := hb1.size; omega) (fun k hk => (hown.lt k hk).1)).setCell (p := ⟨b, 1, none⟩) hB _

end Go.Proofs.YtoahfhidekmodaaGreatDoor.D1

/- Walks: the reference's paths: pieces, parts, text. -/
namespace Go.Proofs.YtoahfhidekmodaaGreatDoor.D1
open Go.RowKit Pth

/-- Texts as cells. -/
def S (l : List (List UInt8)) : List Value := l.map fun x => .string ⟨x.toArray⟩
theorem S_len (l : List (List UInt8)) : (S l).length = l.length := by simp [S]
theorem S_snoc (l : List (List UInt8)) (x : List UInt8) : S (l ++ [x]) = S l ++ [.string ⟨x.toArray⟩] := by simp [S]

/-- A list of texts is handed back in memory of the call's own. -/
def RowPost (B : Nat) (l : List (List UInt8)) (w : World) (e : Ending) (w' : World) : Prop :=
  ∃ v, e = .returned v ∧ w'.ownsRow B 9 1 v l.length (S l) ∧ Below B w w'

theorem extract_mid (s : ByteArray) (f k : Nat) : s.extract f k = ⟨(mid s.data.toList f k).toArray⟩ := by
  apply ByteArray.ext
  apply Array.ext'
  simp [mid, ByteArray.data_extract, List.extract_eq_take_drop, List.drop_take]

/-- A text put behind a list of the call's own. -/
theorem wpApp {ops : Array Oper} {rest : List Oper} {o : Oper} {a : Act} {Q : Exit → Act → World → Prop} {w : World} {z : ByteArray} (hgd : o.guard = none) (s x : Operand)
    (ho : o.op = .call { callee := .builtin .append, args := #[s, x], argTypes := #[24, 24] })
    (B : Nat) (v : Value) (l : List (List UInt8)) (y : List UInt8) (hz : z = ⟨y.toArray⟩) (hs : a.eval s = v) (hown : w.ownsRow B 9 1 v l.length (S l)) (N : Nat) (hx : a.eval x = .slice (some ⟨N, 0, none⟩) 1 1) (hN : N = w.heap.size)
    (hlen : l.length ≤ 1000000) (hB : B ≤ w.heap.size)
    (h : ∀ v' w', w'.ownsRow B 9 1 v' (l ++ [y]).length (S (l ++ [y])) → Below B w w' → w.grownBy w' v.ownBlock → wpList Tryz.prog ops Q rest (a.put o.dst v') w') :
    wpList Tryz.prog ops Q (o :: rest) a (w.alloc (.cells #[.string z] 9)) := by
  subst hz hN
  obtain ⟨i0, hi, hz0, hz1, hz2⟩ := info_parts infoS
  refine wpList_append_own _ hgd s x 24 ho B 9 i0 (.string ByteArray.empty) 1 16 Tryz.underlying24 hi hz0 hz1 hz2 rfl (by decide) v l.length (S l) hs (hown.alloc _) ⟨w.heap.size, 0, none⟩ 1 1 [.string ⟨y.toArray⟩] hx rfl (one_new w _ _) ?_ ?_ ?_ ?_ ?_
  · intro u hu; simp at hu; subst hu; rfl
  · unfold maxLen; omega
  · omega
  · simp; omega
  · intro v' w' h1 h2 _
    have hg : w.grownBy w' v.ownBlock := ⟨h2.os, h2.tape, h2.output, Nat.le_trans (by simp) h2.size, fun k hk hne => (h2.block k (by simp; omega) hne).trans (Below.heap_alloc _ _ _ hk)⟩
    refine h v' w' (by simpa [S_snoc] using h1) ?_ hg
    exact (Below.refl B w).grown hg hB (fun k hk => (hown.lt k hk).1)

set_option maxHeartbeats 1000000 in
theorem l1Split_any (s : ByteArray) (w : World) (hs : s.size ≤ 1000) :
    Calls Tryz.prog 109 #[.string s, .int .u8 47] w (RowPost w.heap.size (splitL s.data.toList) w) := by
  go_enter Tryz.func109, Tryz.ntmps109
  go_wp2
  go_loopw [5, 6, 7] (fun v f i wr => ∃ (acc : List (List UInt8)) (a k : Nat), a ≤ k ∧ k ≤ s.size ∧ acc.length ≤ k ∧ f = .int .i64 a ∧ i = .int .i64 k ∧ wr.ownsRow w.heap.size 9 1 v acc.length (S acc) ∧ Below w.heap.size w wr ∧
     Hid (splitL s.data.toList = acc ++ splitAux (mid s.data.toList a k).reverse (s.data.toList.drop k))) (fun _ _ i _ => s.size - (intOf i).toNat)
  case atStart => exact ⟨[], 0, 0, Nat.le_refl _, Nat.zero_le _, by simp, rfl, rfl, World.ownsRow_nil _ _ _ _, Below.refl _ _, split_start s⟩
  case round =>
    obtain ⟨acc, a, k, hak, hk, hal, rfl, rfl, hown, hb, HS⟩ := hrel
    have hbs := hb.size
    by_cases hlt : k < s.size
    · by_cases hc : s[k].toNat = 47
      · have hc1 : ((s[k].toNat : Int) == 47) = true := by simp [hc]
        have HC : Hid (s[k].toNat = 47) := hc
        clear hc
        go_wp2_with (at_builtin; go_must (refine wpApp rfl _ _ rfl w.heap.size _ acc (mid s.data.toList a k) (extract_mid s a k) rfl hown _ rfl rfl (by omega) hbs ?_); intro v' w2 hown2 hb2 hg2)
        go_roundw
        case rel => exact ⟨acc ++ [mid s.data.toList a k], k + 1, k + 1, by omega, by omega, by simp; omega, by go_num, by go_num, hown2, hb.trans hb2, split_slash hlt HC.out HS.out⟩
        case measure => simp [intOf]; omega
      · have hc1 : ((s[k].toNat : Int) == 47) = false := by simp; omega
        have HC : Hid (¬ s[k].toNat = 47) := hc
        clear hc
        go_wp2_with fail
        go_roundw
        case rel => exact ⟨acc, a, k + 1, by omega, by omega, by omega, rfl, by go_num, hown, hb, split_other hak hlt HC.out HS.out⟩
        case measure => simp [intOf]; omega
    · go_wp2_with (at_builtin; refine wpApp rfl _ _ rfl w.heap.size _ acc (mid s.data.toList a s.size) (extract_mid s a s.size) rfl hown _ rfl rfl (by omega) hbs ?_; intro v' w2 hown2 hb2 hg2)
      go_ret
      exact ⟨_, rfl, by rw [split_end (k := k) (by omega) HS.out]; exact hown2, hb.trans hb2⟩

end Go.Proofs.YtoahfhidekmodaaGreatDoor.D1

/- Walks: the reference's parts of a path. -/
namespace Go.Proofs.YtoahfhidekmodaaGreatDoor.D1
open Go.RowKit Pth

theorem S_at {l : List (List UInt8)} {k : Nat} (hk : k < l.length) : (S l)[k]? = some (.string ⟨(l[k]).toArray⟩) := by
  simp [S, hk]

theorem own_at {w : World} {B n : Nat} {v : Value} {l : List (List UInt8)} (h : w.ownsRow B 9 1 v n (S l)) (k : Nat) (hk : k < l.length) :
    ∃ g cap, v = .slice (some ⟨g, 0, none⟩) n cap ∧ B ≤ g ∧ g < w.heap.size ∧ n ≤ cap ∧ cap ≤ maxLen ∧ w.cell? ⟨g, k, none⟩ = some (.string ⟨(l[k]).toArray⟩) := by
  have hn : n = l.length := by have := h.1; rw [S_len] at this; omega
  rcases h.2 with ⟨_, h0⟩ | ⟨g, cap, cur, hv, hB, hh, hnc, hcm, _⟩
  · omega
  · refine ⟨g, cap, hv, hB, lt_of_block hh, hnc, hcm, ?_⟩
    have := h.cells (g := g) (by rw [hv]; rfl) k _ (S_at hk)
    have e : (⟨g, 0, none⟩ : Addr).add k = ⟨g, k, none⟩ := by unfold Addr.add; split <;> simp_all
    rw [e] at this
    exact this

theorem own_pop {w : World} {B g c : Nat} {a : List (List UInt8)} {q : List UInt8} (h : w.ownsRow B 9 1 (.slice (some ⟨g, 0, none⟩) (a.length + 1) c) (a.length + 1) (S (a ++ [q]))) :
    w.ownsRow B 9 1 (.slice (some ⟨g, 0, none⟩) a.length c) a.length (S a) := by
  rcases h.2 with ⟨h0, _⟩ | ⟨g', cap', cur, hv, hB, hh, hn, hcap, hsz, htake⟩
  · cases h0
  · cases hv
    refine ⟨by rw [S_len]; omega, .inr ⟨g, c, cur, rfl, hB, hh, by omega, hcap, hsz, ?_⟩⟩
    have h3 : (cur.toList.take ((a.length + 1) * 1)).take (a.length * 1) = (S (a ++ [q])).take (a.length * 1) := by rw [htake]
    rw [List.take_take, Nat.min_eq_left (by omega)] at h3
    rw [h3, S_snoc, Nat.mul_one]
    have e : a.length = (S a).length := (S_len a).symm
    rw [e]
    simp

theorem l1Rooted_eq {b : Bool} (s : ByteArray) (w : World) (hs : s.size ≤ 1000) (hb : Hid (rootedL s.data.toList = b)) :
    Calls Tryz.prog 94 #[.string s] w fun e w' => e = .returned (.bool b) ∧ w = w' := by
  have h := l1Rooted_any s w (by unfold maxLen; omega)
  rw [hb.out] at h
  exact h

theorem own_base {w : World} {B B' n : Nat} {v : Value} {xs : List Value} (h : w.ownsRow B 9 1 v n xs) (hB : B' ≤ B) : w.ownsRow B' 9 1 v n xs := by
  refine ⟨h.1, ?_⟩
  rcases h.2 with h0 | ⟨g, cap, cur, hv, hg, r⟩
  · exact .inl h0
  · exact .inr ⟨g, cap, cur, hv, by omega, r⟩

/-- The last one of a list, where it has one. -/
theorem last_of (acc : List (List UInt8)) : acc = [] ∨ ∃ a q, acc = a ++ [q] := by
  rcases List.eq_nil_or_concat acc with h | ⟨a, q, h⟩
  · exact .inl h
  · exact .inr ⟨a, q, by rw [h, List.concat_eq_append]⟩

theorem own_last {w : World} {B n : Nat} {v : Value} {a : List (List UInt8)} {q : List UInt8} (h : w.ownsRow B 9 1 v n (S (a ++ [q]))) :
    ∃ g cap, v = .slice (some ⟨g, 0, none⟩) n cap ∧ B ≤ g ∧ g < w.heap.size ∧ n ≤ cap ∧ cap ≤ maxLen ∧ w.cell? ⟨g, a.length, none⟩ = some (.string ⟨q.toArray⟩) := by
  have := own_at h a.length (by simp)
  simpa using this

set_option maxHeartbeats 2000000 in
theorem l1Parts_any (s : ByteArray) (w : World) (hs : s.size ≤ 1000) :
    Calls Tryz.prog 93 #[.string s] w (RowPost w.heap.size (partsL s.data.toList) w) := by
  go_enter Tryz.func93, Tryz.ntmps93
  go_wp2_with (go_at_call 109; refine (l1Split_any s _ hs).mono ?_)
  rintro e w1 ⟨v1, rfl, hown1, hb1⟩
  obtain ⟨ao, cap, rfl⟩ := own_slice hown1
  have hb1s := hb1.size
  have hls := split_len s
  go_wp2_with fail
  go_loopw [3, 10] (fun v i wr => ∃ (acc : List (List UInt8)) (k : Nat), k ≤ (splitL s.data.toList).length ∧ acc.length ≤ k ∧ i = .int .i64 k ∧ wr.ownsRow w1.heap.size 9 1 v acc.length (S acc) ∧ Below w1.heap.size w1 wr ∧
     Hid (partsL s.data.toList = partsFrom (rootedL s.data.toList) acc ((splitL s.data.toList).drop k))) (fun _ i _ => (splitL s.data.toList).length - (intOf i).toNat)
  case atStart => exact ⟨[], 0, Nat.zero_le _, by simp, rfl, World.ownsRow_nil _ _ _ _, Below.refl _ _, rfl⟩
  case round =>
    obtain ⟨acc, k, hk, hal, rfl, hown, hb, HS⟩ := hrel
    have hbs := hb.size
    by_cases hlt : k < (splitL s.data.toList).length
    · obtain ⟨g, cap', hv, hg1, hg2, _, _, hcell⟩ := own_at hown1 k hlt
      injection hv with hv1 hv2 hv3
      subst hv1
      have hcr : wr.cell? ⟨g, k, none⟩ = some (.string ⟨((splitL s.data.toList)[k]).toArray⟩) := by rw [hb.cell (p := ⟨g, k, none⟩) hg2]; exact hcell
      clear hv3 hcell
      have HS2 : Hid (partsL s.data.toList = partsFrom (rootedL s.data.toList) (pstep (rootedL s.data.toList) acc ((splitL s.data.toList)[k])) ((splitL s.data.toList).drop (k + 1))) := parts_step hlt rfl HS.out
      generalize (splitL s.data.toList)[k] = p at hcr HS2
      clear HS
      by_cases hp0 : p = [] ∨ p = [46]
      · rw [pstep_skip hp0] at HS2
        obtain ⟨sv, sc, hsv⟩ := own_slice hown
        subst hsv
        rcases hp0 with hp0 | hp0
        all_goals
          subst hp0
          go_wp2_with fail
          go_roundw
          case rel => exact ⟨acc, k + 1, by omega, by omega, by go_num, hown, hb, HS2⟩
          case measure => simp [intOf]; omega
      · by_cases hp1 : p = dots
        · subst hp1
          unfold dots at hcr
          clear hp0
          rcases last_of acc with hacc | ⟨a, q, hacc⟩
          · subst hacc
            obtain ⟨sv, sc, hsv⟩ := own_slice hown
            subst hsv
            rcases hr : rootedL s.data.toList with _ | _
            · rw [hr, pstep_up0] at HS2
              have HR : Hid (rootedL s.data.toList = false) := hr
              clear hr
              go_wp2_with (first | (go_at_call 94; refine (l1Rooted_eq s _ hs HR).mono ?_; rintro e w' ⟨rfl, rfl⟩) | (at_builtin; refine wpApp rfl _ _ rfl w1.heap.size _ [] dots rfl rfl hown _ rfl rfl (by simp) hbs ?_; intro v' w2 hown2 hb2 hg2))
              go_roundw
              case rel => exact ⟨[] ++ [dots], k + 1, by omega, by simp, by go_num, hown2, hb.trans hb2, HS2⟩
              case measure => simp [intOf]; omega
            · rw [hr, pstep_stay0] at HS2
              have HR : Hid (rootedL s.data.toList = true) := hr
              clear hr
              go_wp2_with (go_at_call 94; refine (l1Rooted_eq s _ hs HR).mono ?_; rintro e w' ⟨rfl, rfl⟩)
              go_roundw
              case rel => exact ⟨[], k + 1, by omega, by simp, by go_num, hown, hb, HS2⟩
              case measure => simp [intOf]; omega
          · subst hacc
            have hn : (a ++ [q]).length = a.length + 1 := by simp
            rw [hn] at hown hal
            obtain ⟨g2, c2, hsv, hg3, hg4, hc3, hc4, hlast⟩ := own_last hown
            unfold maxLen at hc4
            subst hsv
            clear hn
            by_cases hq : q = dots
            · subst hq
              unfold dots at hlast
              rcases hr : rootedL s.data.toList with _ | _
              · rw [hr, pstep_up] at HS2
                have HR : Hid (rootedL s.data.toList = false) := hr
                clear hr
                go_wp2_with (first | (go_at_call 94; refine (l1Rooted_eq s _ hs HR).mono ?_; rintro e w' ⟨rfl, rfl⟩) | (at_builtin; refine wpApp rfl _ _ rfl w1.heap.size _ (a ++ [dots]) dots rfl rfl (by rw [List.length_append]; exact hown) _ rfl rfl (by simp; omega) hbs ?_; intro v' w2 hown2 hb2 hg2))
                go_roundw
                case rel => exact ⟨(a ++ [dots]) ++ [dots], k + 1, by omega, by simp; omega, by go_num, hown2, hb.trans hb2, HS2⟩
                case measure => simp [intOf]; omega
              · rw [hr, pstep_stay] at HS2
                have HR : Hid (rootedL s.data.toList = true) := hr
                clear hr
                go_wp2_with (go_at_call 94; refine (l1Rooted_eq s _ hs HR).mono ?_; rintro e w' ⟨rfl, rfl⟩)
                go_roundw
                case rel => exact ⟨a ++ [dots], k + 1, by omega, by simp; omega, by go_num, by rw [List.length_append]; exact hown, hb, HS2⟩
                case measure => simp [intOf]; omega
            · rw [pstep_drop hq] at HS2
              have hq1 : ¬ q = [46, 46] := hq
              have hq2 : (q == [46, 46]) = false := by simpa using hq1
              clear hq
              go_wp2_with fail
              go_roundw
              case rel => exact ⟨a, k + 1, by omega, by omega, by go_num, own_pop hown, hb, HS2⟩
              case measure => simp [intOf]; omega
        · have hp2 : ¬ p = [] := fun h => hp0 (.inl h)
          have hp3 : ¬ p = [46] := fun h => hp0 (.inr h)
          rw [pstep_name hp2 hp3 hp1] at HS2
          have hp4 : p.isEmpty = false := by simpa using hp2
          have hp5 : (p == [46]) = false := by simpa using hp3
          have hp6 : (p == [46, 46]) = false := by simpa [dots] using hp1
          have hp7 : ¬ p = [46, 46] := hp1
          clear hp0 hp1
          obtain ⟨sv, sc, hsv⟩ := own_slice hown
          subst hsv
          go_wp2_with (at_builtin; refine wpApp rfl _ _ rfl w1.heap.size _ acc p rfl rfl hown _ rfl rfl (by omega) hbs ?_; intro v' w2 hown2 hb2 hg2)
          go_roundw
          case rel => exact ⟨acc ++ [p], k + 1, by omega, by simp; omega, by go_num, hown2, hb.trans hb2, HS2⟩
          case measure => simp [intOf]; omega
    · go_wp2_with fail
      go_ret
      exact ⟨_, rfl, by rw [parts_end (k := k) (by omega) HS.out]; exact own_base hown hb1s, hb1.trans (hb.mono hb1s)⟩

end Go.Proofs.YtoahfhidekmodaaGreatDoor.D1

/- Walks: the reference's text of parts, and its clean path. -/
namespace Go.Proofs.YtoahfhidekmodaaGreatDoor.D1
open Go.RowKit Pth

/-- How many bytes the parts and their slashes are. -/
def weigh : List (List UInt8) → Nat
  | [] => 0
  | p :: r => p.length + 1 + weigh r
theorem weigh_take (l : List (List UInt8)) (k : Nat) (h : k < l.length) : weigh (l.take (k + 1)) = weigh (l.take k) + l[k].length + 1 := by
  induction l generalizing k with
  | nil => simp at h
  | cons p r ih =>
    cases k with
    | zero => simp [weigh]
    | succ k =>
      have := ih k (by simpa using h)
      simp only [List.take_succ_cons, weigh, List.getElem_cons_succ] at this ⊢
      omega
theorem weigh_le (l : List (List UInt8)) (k : Nat) : weigh (l.take k) ≤ weigh l := by
  induction l generalizing k with
  | nil => simp
  | cons p r ih =>
    cases k with
    | zero => simp [weigh]
    | succ k => have := ih k; simp only [List.take_succ_cons, weigh]; omega
theorem glue_len (l : List (List UInt8)) : (glue l).length ≤ weigh l := by
  induction l with
  | nil => simp [glue, weigh]
  | cons p r ih =>
    cases r with
    | nil => simp [glue, weigh]
    | cons q t => simp only [glue, weigh, List.length_append, List.length_cons] at ih ⊢; omega
theorem glue_take (l : List (List UInt8)) (k : Nat) (h : k < l.length) : glue (l.take (k + 1)) = if k = 0 then l[k] else glue (l.take k) ++ 47 :: l[k] := by
  rw [List.take_succ_eq_append_getElem h, glue_snoc]
  by_cases hk : k = 0
  · subst hk; simp
  · rw [if_neg hk, if_neg]
    intro h0
    have := congrArg List.length h0
    rw [List.length_take, List.length_nil] at this
    omega

/-- A text is handed back; below B nothing has turned. -/
def TextPost (B : Nat) (t : List UInt8) (w : World) (e : Ending) (w' : World) : Prop := e = .returned (.string ⟨t.toArray⟩) ∧ Below B w w'

theorem cat0 (p : List UInt8) : Value.string (⟨#[]⟩ ++ ⟨p.toArray⟩) = .string ⟨p.toArray⟩ := by
  rw [show (⟨#[]⟩ : ByteArray) = ⟨([] : List UInt8).toArray⟩ from rfl, ByteArray.mk_append_mk]; rfl
theorem cat1 (p : List UInt8) : Ending.returned (Value.string (⟨#[47]⟩ ++ ⟨p.toArray⟩)) = .returned (.string ⟨(47 :: p).toArray⟩) := by
  rw [show (⟨#[47]⟩ : ByteArray) = ⟨([47] : List UInt8).toArray⟩ from rfl, ByteArray.mk_append_mk]; rfl
theorem cat2 (a p : List UInt8) : Value.string (⟨a.toArray⟩ ++ ⟨#[47]⟩ ++ ⟨p.toArray⟩) = .string ⟨(a ++ 47 :: p).toArray⟩ := by
  rw [show (⟨#[47]⟩ : ByteArray) = ⟨([47] : List UInt8).toArray⟩ from rfl, ByteArray.mk_append_mk, ByteArray.mk_append_mk, List.append_assoc]; rfl

set_option maxHeartbeats 1000000 in
theorem l1Join_any (l : List (List UInt8)) (b : Bool) (B : Nat) (v : Value) (w : World) (hown : w.ownsRow B 9 1 v l.length (S l)) (hl : l.length ≤ 1000000) (hl2 : weigh l ≤ 1000000) :
    Calls Tryz.prog 92 #[v, .bool b] w fun e w' => e = .returned (.string ⟨(joinL l b).toArray⟩) ∧ w = w' := by
  obtain ⟨sv, sc, hsv⟩ := own_slice hown
  subst hsv
  go_enter Tryz.func92, Tryz.ntmps92
  go_wp2
  go_loop [5, 10] (fun t i => ∃ (k : Nat), k ≤ l.length ∧ i = .int .i64 k ∧ t = .string ⟨(glue (l.take k)).toArray⟩) (fun _ i => l.length - (intOf i).toNat)
  case atStart => exact ⟨0, Nat.zero_le _, rfl, rfl⟩
  case round =>
    obtain ⟨k, hk, rfl, rfl⟩ := hrel
    have hw1 := weigh_le l k
    have hw2 := glue_len (l.take k)
    have hgl : (glue (l.take k)).length ≤ 1000000 := by omega
    clear hw2
    by_cases hlt : k < l.length
    · obtain ⟨g, cap', hv, hg1, hg2, _, _, hcell⟩ := own_at hown k hlt
      injection hv with hv1 hv2 hv3
      subst hv1
      have HG := Lib.hid (glue_take l k hlt)
      have hw3 := weigh_take l k hlt
      have hw4 := weigh_le l (k + 1)
      generalize l[k] = p at hcell HG hw3
      have hpl : p.length ≤ 1000000 := by omega
      clear hv2 hv3 hw1 hw3 hw4
      by_cases hk0 : k = 0
      · subst hk0
        have hgk : Hid ((glue (l.take 1)) = p) := HG.out
        have g0 : glue (l.take 0) = [] := rfl
        rw [g0]
        clear HG g0 hgl
        go_wp2
        go_round
        case rel => exact ⟨1, by omega, rfl, by rw [hgk.out]; exact cat0 p⟩
        case measure => simp [intOf]; omega
      · have hgk : Hid ((glue (l.take (k + 1))) = glue (l.take k) ++ 47 :: p) := by have := HG.out; rw [if_neg hk0] at this; exact this
        have hk1 : 0 < k := by omega
        clear HG hk0
        go_wp2
        go_round
        case rel => exact ⟨k + 1, by omega, by go_num, by rw [hgk.out]; exact cat2 _ p⟩
        case measure => simp [intOf]; omega
    · have hkl : l.take k = l := List.take_of_length_le (by omega)
      rw [hkl] at hgl ⊢
      clear hkl hw1
      rcases b with _ | _
      · by_cases h0 : glue l = []
        · have HJ : Hid (joinL l false = [46]) := by simp [Hid, joinL, h0]
          rw [h0]
          clear h0 hgl
          go_wp2
          go_ret
          exact ⟨by rw [HJ.out] <;> rfl, rfl⟩
        · have HJ : Hid (joinL l false = glue l) := by simp [Hid, joinL, h0]
          have h1 : (glue l).isEmpty = false := by simpa using h0
          go_wp2
          go_ret
          exact ⟨by rw [HJ.out] <;> rfl, rfl⟩
      · have HJ : Hid (joinL l true = 47 :: glue l) := by simp [Hid, joinL]
        go_wp2
        go_ret
        exact ⟨by rw [HJ.out]; exact cat1 _, rfl⟩

theorem weigh_append (a b : List (List UInt8)) : weigh (a ++ b) = weigh a + weigh b := by
  induction a with
  | nil => simp [weigh]
  | cons p r ih => simp only [List.cons_append, weigh, ih]; omega
theorem weigh_splitAux (l : List UInt8) : ∀ cur, weigh (splitAux cur l) = cur.length + l.length + 1 := by
  induction l with
  | nil => intro cur; simp [splitAux, weigh]
  | cons c r ih =>
    intro cur
    rw [splitAux]
    split
    · simp only [weigh, ih, List.length_reverse, List.length_cons, List.length_nil]; omega
    · rw [ih]; simp only [List.length_cons]; omega
theorem weigh_pstep (b : Bool) (acc : List (List UInt8)) (p : List UInt8) : weigh (pstep b acc p) ≤ weigh acc + p.length + 1 := by
  unfold pstep
  split
  · omega
  · split
    · split
      · rcases last_of acc with h | ⟨a, q, h⟩
        · rw [h]; simp [weigh]
        · rw [h, List.dropLast_concat, weigh_append]; omega
      · split
        · omega
        · rw [weigh_append]; simp [weigh]; omega
    · rw [weigh_append]; simp [weigh]; omega
theorem weigh_from (b : Bool) (r : List (List UInt8)) : ∀ acc, weigh (partsFrom b acc r) ≤ weigh acc + weigh r := by
  induction r with
  | nil => intro acc; simp [partsFrom, weigh]
  | cons p t ih =>
    intro acc
    rw [partsFrom]
    have := ih (pstep b acc p)
    have := weigh_pstep b acc p
    simp only [weigh]
    omega
theorem weigh_parts (s : ByteArray) : weigh (partsL s.data.toList) ≤ s.size + 1 := by
  have h := weigh_from (rootedL s.data.toList) (splitL s.data.toList) []
  have h2 := weigh_splitAux s.data.toList []
  rw [len_eq] at h2
  simp only [weigh, List.length_nil] at h h2
  unfold partsL
  unfold splitL at h ⊢
  omega
theorem len_weigh (l : List (List UInt8)) : l.length ≤ weigh l := by
  induction l with
  | nil => simp [weigh]
  | cons p r ih => simp only [weigh, List.length_cons]; omega

set_option maxHeartbeats 1000000 in
theorem l1Clean_any (s : ByteArray) (w : World) (hs : s.size ≤ 1000) :
    Calls Tryz.prog 81 #[.string s] w (TextPost w.heap.size (cleanL s.data.toList) w) := by
  have hw1 := weigh_parts s
  have hw2 := len_weigh (partsL s.data.toList)
  go_enter Tryz.func81, Tryz.ntmps81
  go_wp2_with fail
  refine (l1Parts_any s _ hs).mono ?_
  rintro e w1 ⟨v1, rfl, hown1, hb1⟩
  go_wp2_with fail
  refine (l1Rooted_any s _ (by unfold maxLen; omega)).mono ?_
  rintro e w' ⟨rfl, rfl⟩
  go_wp2_with fail
  refine (l1Join_any _ _ _ _ _ hown1 (by omega) (by omega)).mono ?_
  rintro e w' ⟨rfl, rfl⟩
  go_wp2_with fail
  go_ret
  exact ⟨rfl, hb1⟩

/-- A text and a bool are handed back; what lay there lies there. -/
def TwoPost (t : List UInt8) (b : Bool) (w : World) (e : Ending) (w' : World) : Prop := e = .returned (.tuple #[.string ⟨t.toArray⟩, .bool b]) ∧ Below w.heap.size w w'
def BothPost (t : Bool) (b : Bool) (w : World) (e : Ending) (w' : World) : Prop := e = .returned (.tuple #[.bool t, .bool b]) ∧ Below w.heap.size w w'

theorem l1Path_eq {b : Bool} (s : ByteArray) (w : World) (hs : s.size ≤ maxLen) (hb : Hid (pathL s.data.toList = b)) :
    Calls Tryz.prog 80 #[.string s] w fun e w' => e = .returned (.bool b) ∧ w = w' := by
  have h := l1Path_any s w hs
  rw [hb.out] at h
  exact h
theorem path_size {s : ByteArray} (h : pathL s.data.toList = true) : s.size ≤ 60 := by
  simp only [pathL, Bool.and_eq_true, decide_eq_true_eq, len_eq] at h
  exact h.2

/-- What CleanPath answers. -/
def cleanT (l : List UInt8) : List UInt8 := if pathL l then cleanL l else []

end Go.Proofs.YtoahfhidekmodaaGreatDoor.D1

/- Walks: the program's test on a path, and its text of a route. -/
namespace Go.Proofs.YtoahfhidekmodaaGreatDoor.D1
open Go.RowKit Pth

/-- A bool is handed back; what lay there lies there. -/
def BoolPost (b : Bool) (w : World) (e : Ending) (w' : World) : Prop := e = .returned (.bool b) ∧ Below w.heap.size w w'

theorem isPathRune_eq {b : Bool} (c : Int) (w : World) (h : Hid (pb c = b)) :
    Calls Tryz.prog 132 #[.int .i32 c] w fun e w' => e = .returned (.bool b) ∧ w = w' := by
  have := isPathRune_any c w
  rw [h.out] at this
  exact this

set_option maxHeartbeats 1000000 in
theorem isPath_any (s : ByteArray) (w : World) (hs : s.size ≤ maxLen) :
    Calls Tryz.prog 119 #[.string s] w (BoolPost (pathL s.data.toList) w) := by
  unfold maxLen at hs
  by_cases hbig : 60 < s.size
  · have HP := Lib.hid (pathL_long hbig)
    go_enter Tryz.func119, Tryz.ntmps119
    go_wp2
    go_ret
    exact ⟨ret_bool HP.out.symm, Below.refl _ _⟩
  · go_enter Tryz.func119, Tryz.ntmps119
    go_wp2
    go_loopw [] (fun wr => ∃ pos : Nat, pos ≤ s.size ∧ wr = w.iter s pos ∧ Hid (okL (s.data.toList.take pos) = true)) (fun wr => s.size - wr.iterPos w.heap.size)
    case atStart => exact ⟨0, Nat.zero_le _, rfl, rfl⟩
    case round =>
      obtain ⟨pos, hp, rfl, HO⟩ := hrel
      by_cases hlt : pos < s.size
      · have hnx : ∀ ty, (Instr.next (.pointer (some ⟨w.heap.size, 0, none⟩)) true ty).run Tryz.prog (w.iter s pos) = _ := fun ty => run_next_any w s pos ty hlt
        by_cases ha : s[pos].toNat < 128
        · rw [decode_ascii s pos hlt ha] at hnx
          rcases hpb : pb (s[pos].toNat : Int) with _ | _
          · have HB := Lib.hid hpb
            clear hpb
            go_wp2_with (go_at_call 132; refine (isPathRune_eq _ _ HB).mono ?_; rintro e w' ⟨rfl, rfl⟩)
            go_ret
            exact ⟨ret_bool (pathL_false pos hlt HB.out).symm, (Below.refl _ _).alloc (Nat.le_refl _) _⟩
          · have HB := Lib.hid hpb
            clear hpb
            go_wp2_with (go_at_call 132; refine (isPathRune_eq _ _ HB).mono ?_; rintro e w' ⟨rfl, rfl⟩)
            go_roundw
            case rel => exact ⟨pos + 1, by omega, rfl, okL_next hlt HO.out HB.out⟩
            case measure => rw [World.iterPos_iter, World.iterPos_iter]; omega
        · have hd := (decode_high s pos hlt (by omega)).1
          have HB : Hid (pb (((Utf8.decode s pos).1 : Nat) : Int) = false) := pb_high (by omega)
          go_wp2_with (go_at_call 132; refine (isPathRune_eq _ _ HB).mono ?_; rintro e w' ⟨rfl, rfl⟩)
          go_ret
          exact ⟨ret_bool (pathL_false pos hlt (pb_high (by omega))).symm, (Below.refl _ _).alloc (Nat.le_refl _) _⟩
      · have hnx : ∀ ty, (Instr.next (.pointer (some ⟨w.heap.size, 0, none⟩)) true ty).run Tryz.prog (w.iter s pos) = _ := fun ty => run_next_end w s pos ty hlt
        have HP := Lib.hid (pathL_end (k := pos) (by omega) HO.out)
        go_wp2
        go_ret
        exact ⟨ret_bool (by rw [HP.out]; simp; omega), (Below.refl _ _).alloc (Nat.le_refl _) _⟩

end Go.Proofs.YtoahfhidekmodaaGreatDoor.D1

/- Walks: the program's text of a route. -/
namespace Go.Proofs.YtoahfhidekmodaaGreatDoor.D1
open Go.RowKit Pth

/-- The text that the program makes of parts. -/
def textL (l : List (List UInt8)) (r : Bool) : List UInt8 := if r then 47 :: glue l else if l = [] then [46] else glue l
def headL (r : Bool) : List UInt8 := if r then [47] else []

/-- The builder as the loop leaves it. -/
def Writes (w : World) (o : Obj) (acc : List UInt8) (wr : World) : Prop :=
  Lib.IsBuilder 145 5 (w.heap.size + 1) (w.heap.size + 1) (Lib.byteCells acc) wr ∧ Below (w.heap.size + 1) (w.alloc o) wr

theorem Writes.fresh (w : World) (o : Obj) : Writes w o [] ((w.alloc o).alloc (.cells #[.pointer none, .slice none 0 0] 145)) := by
  have h := Lib.fresh_isBuilder 145 5 (w.alloc o)
  have e : (w.alloc o).heap.size = w.heap.size + 1 := by simp
  rw [e] at h
  exact ⟨h, (Below.refl _ _).alloc (by simp) _⟩
theorem Writes.size {w : World} {o : Obj} {acc : List UInt8} {wr : World} (h : Writes w o acc wr) : w.heap.size + 1 ≤ wr.heap.size := by
  have := h.2.size; simp at this; omega
theorem Writes.old {w : World} {o : Obj} {acc : List UInt8} {wr : World} (h : Writes w o acc wr) {p : Addr} {u : Value} (hp : p.block < w.heap.size) (hc : w.cell? p = some u) : wr.cell? p = some u := by
  rw [h.2.cell (by omega), World.cell?_alloc_lt w o p hp]; exact hc
theorem Writes.below {w : World} {o : Obj} {acc : List UInt8} {wr w' : World} (h : Writes w o acc wr) (hb : Below (w.heap.size + 1) wr w') : Below w.heap.size w w' :=
  ((Below.refl _ _).alloc (Nat.le_refl _) o).trans ((h.2.trans hb).mono (by omega))

theorem put_slash {w : World} {o : Obj} {acc : List UInt8} {wr : World} (h : Writes w o acc wr) (hl : acc.length ≤ 2000000) :
    Calls Tryz.prog 133 #[.pointer (some ⟨w.heap.size + 1, 0, none⟩), .int .u8 47] wr fun e w' => e = .returned .nilIface ∧ Writes w o (acc ++ [47]) w' := by
  refine (writeByte_any (w.heap.size + 1) (w.heap.size + 1) _ 47 wr h.1 (by rw [Lib.byteCells_length]; omega) h.size).mono ?_
  rintro e w' ⟨rfl, hA, hb⟩
  refine ⟨rfl, .inr ?_, h.2.trans hb⟩
  rw [Lib.byteCells_append]
  exact hA
theorem put_text {w : World} {o : Obj} {acc : List UInt8} {wr : World} (p : List UInt8) (h : Writes w o acc wr) (hl : acc.length + p.length ≤ 3000000) :
    Calls Tryz.prog 134 #[.pointer (some ⟨w.heap.size + 1, 0, none⟩), .string ⟨p.toArray⟩] wr fun e w' => e = .returned (.tuple #[.int .i64 (p.length : Int), .nilIface]) ∧ Writes w o (acc ++ p) w' := by
  have hz : (ByteArray.mk p.toArray).size = p.length := by simp [ByteArray.size]
  refine (writeString_any (w.heap.size + 1) (w.heap.size + 1) _ ⟨p.toArray⟩ wr h.1 (by rw [Lib.byteCells_length, hz]; omega) h.size).mono ?_
  rintro e w' ⟨rfl, hA, hb⟩
  refine ⟨by rw [hz], .inr ?_, h.2.trans hb⟩
  rw [Lib.byteCells_append]
  exact hA
theorem get_text {w : World} {o : Obj} {acc : List UInt8} {wr : World} (h : Writes w o acc wr) :
    Calls Tryz.prog 135 #[.pointer (some ⟨w.heap.size + 1, 0, none⟩)] wr fun e w' => e = .returned (.string ⟨acc.toArray⟩) ∧ Below w.heap.size w w' := by
  refine (Tryz.build_text (w.heap.size + 1) (w.heap.size + 1) acc wr h.1 h.size).mono ?_
  rintro e w' ⟨rfl, hb⟩
  exact ⟨rfl, h.below hb⟩

theorem text_next (l : List (List UInt8)) (r : Bool) (k : Nat) (hk : k < l.length) (h0 : 0 < k) : headL r ++ glue (l.take (k + 1)) = ((headL r ++ glue (l.take k)) ++ [47]) ++ l[k] := by
  rw [glue_take l k hk, if_neg (by omega)]; simp
theorem text_first (l : List (List UInt8)) (r : Bool) (hk : 0 < l.length) : headL r ++ glue (l.take (0 + 1)) = (headL r ++ glue (l.take 0)) ++ l[0] := by
  rw [glue_take l 0 hk, if_pos rfl]; simp [glue]
theorem head_len (r : Bool) : (headL r).length ≤ 1 := by cases r <;> simp [headL]
theorem text_end {l : List (List UInt8)} {r : Bool} (h : r = true ∨ ¬ l = []) : textL l r = headL r ++ glue l := by
  cases r
  · simp at h; simp [textL, headL, h]
  · simp [textL, headL]

/-- A slice that reads as a list of texts, wherever it lies. -/
def RowAt (w : World) (v : Value) (l : List (List UInt8)) : Prop :=
  ∃ a c, v = .slice a l.length c ∧ ∀ k (hk : k < l.length), ∃ g o, a = some ⟨g, o, none⟩ ∧ g < w.heap.size ∧ w.cell? ⟨g, o + k, none⟩ = some (.string ⟨(l[k]).toArray⟩)
theorem row_own {w : World} {B : Nat} {v : Value} {l : List (List UInt8)} (h : w.ownsRow B 9 1 v l.length (S l)) : RowAt w v l := by
  obtain ⟨a, c, hv⟩ := own_slice h
  refine ⟨a, c, hv, fun k hk => ?_⟩
  obtain ⟨g, cap, hv2, _, hg, _, _, hc⟩ := own_at h k hk
  rw [hv] at hv2
  injection hv2 with h1
  exact ⟨g, 0, h1, hg, by rw [Nat.zero_add]; exact hc⟩

set_option maxHeartbeats 2000000 in
theorem routeText_row (l : List (List UInt8)) (r : Bool) (v : Value) (w : World) (hrow : RowAt w v l) (hl2 : weigh l ≤ 1000000) :
    Calls Tryz.prog 120 #[.agg #[.bool r, v]] w (TextPost w.heap.size (textL l r) w) := by
  have hl := len_weigh l
  obtain ⟨sv, sc, hsv, hat⟩ := hrow
  subst hsv
  have HAT := Lib.hid hat
  clear hat
  by_cases he : r = false ∧ l = []
  · obtain ⟨rfl, rfl⟩ := he
    go_enter Tryz.func120, Tryz.ntmps120
    go_wp2
    go_ret
    exact ⟨rfl, (Below.refl _ _).alloc (Nat.le_refl _) _⟩
  · have HE : Hid (textL l r = headL r ++ glue l) := text_end (by cases r <;> simp_all)
    have hf := Writes.fresh w (.cells #[.bool r, .slice sv l.length sc] 132)
    rcases r with _ | _
    · have hne2 : 0 < l.length := by
        rcases l with _ | ⟨x, t⟩
        · simp at he
        · simp
      have hne : ((l.length : Int) == 0) = false := by rw [beq_eq_false_iff_ne]; omega
      clear he
      go_enter Tryz.func120, Tryz.ntmps120
      go_wp2_with fail
      clear hne
      go_loopw [21] (fun i wr => ∃ k : Nat, k ≤ l.length ∧ i = .int .i64 k ∧ Writes w (.cells #[.bool false, .slice sv l.length sc] 132) (headL false ++ glue (l.take k)) wr) (fun i _ => l.length - (intOf i).toNat)
      case atStart => exact ⟨0, Nat.zero_le _, rfl, by simpa [glue, headL] using hf⟩
      case round =>
        obtain ⟨k, hk, rfl, hW⟩ := hrel
        have hg1 := glue_len (l.take k)
        have hg2 := weigh_le l k
        have hg3 := head_len false
        have hg4 : (headL false ++ glue (l.take k)).length ≤ 1000001 := by rw [List.length_append]; omega
        clear hg1 hg2 hg3
        by_cases hlt : k < l.length
        · obtain ⟨g, o, hv1, hb2, hcell⟩ := HAT.out k hlt
          subst hv1
          have hcr := hW.old (p := ⟨g, o + k, none⟩) hb2 hcell
          have hw3 := weigh_take l k hlt
          have hw4 := weigh_le l (k + 1)
          have hpl : (l[k]).length ≤ 1000000 := by omega
          clear hcell hw3 hw4
          by_cases hk0 : 0 < k
          · have HN := Lib.hid (text_next l false k hlt hk0)
            generalize l[k] = p at hcr hpl HN
            go_wp2_with fail
            refine (put_slash hW (by omega)).mono ?_
            rintro e w2 ⟨rfl, hW2⟩
            go_wp2_with fail
            refine (put_text p hW2 (by rw [List.length_append, List.length_singleton]; omega)).mono ?_
            rintro e w3 ⟨rfl, hW3⟩
            go_wp2_with fail
            go_roundw
            case rel => exact ⟨k + 1, by omega, by go_num, by rw [HN.out]; exact hW3⟩
            case measure => simp [intOf]; omega
          · obtain rfl : k = 0 := by omega
            rw [Nat.add_zero] at hcr
            have HN := Lib.hid (text_first l false hlt)
            generalize l[0] = p at hcr hpl HN
            go_wp2_with fail
            refine (put_text p hW (by omega)).mono ?_
            rintro e w3 ⟨rfl, hW3⟩
            go_wp2_with fail
            go_roundw
            case rel => exact ⟨0 + 1, by omega, rfl, by rw [HN.out]; exact hW3⟩
            case measure => simp [intOf]; omega
        · have hkl : l.take k = l := List.take_of_length_le (by omega)
          rw [hkl] at hW
          obtain ⟨t, HT, hWt⟩ : ∃ t, Hid (textL l false = t) ∧ Writes w (.cells #[.bool false, .slice sv l.length sc] 132) t wr := ⟨_, HE, hW⟩
          clear hkl hg4 HE hW
          go_wp2_with fail
          refine (get_text hWt).mono ?_
          rintro e w3 ⟨rfl, hb⟩
          go_wp2_with fail
          go_ret
          exact ⟨by rw [HT.out] <;> rfl, hb⟩
    · clear he
      go_enter Tryz.func120, Tryz.ntmps120
      go_wp2_with fail
      refine (put_slash hf (by simp)).mono ?_
      rintro e w2 ⟨rfl, hW2⟩
      have hc1 : w2.cell? ⟨w.heap.size, 1, none⟩ = some (.slice sv l.length sc) := by
        rw [hW2.2.cell (p := ⟨w.heap.size, 1, none⟩) (by simp)]; simp
      go_wp2_with fail
      go_loopw [21] (fun i wr => ∃ k : Nat, k ≤ l.length ∧ i = .int .i64 k ∧ Writes w (.cells #[.bool true, .slice sv l.length sc] 132) (headL true ++ glue (l.take k)) wr) (fun i _ => l.length - (intOf i).toNat)
      case atStart => exact ⟨0, Nat.zero_le _, rfl, by simpa [glue, headL] using hW2⟩
      case round =>
        obtain ⟨k, hk, rfl, hW⟩ := hrel
        have hg1 := glue_len (l.take k)
        have hg2 := weigh_le l k
        have hg3 := head_len true
        have hg4 : (headL true ++ glue (l.take k)).length ≤ 1000001 := by rw [List.length_append]; omega
        clear hg1 hg2 hg3
        by_cases hlt : k < l.length
        · obtain ⟨g, o, hv1, hb2, hcell⟩ := HAT.out k hlt
          subst hv1
          have hcr := hW.old (p := ⟨g, o + k, none⟩) hb2 hcell
          have hw3 := weigh_take l k hlt
          have hw4 := weigh_le l (k + 1)
          have hpl : (l[k]).length ≤ 1000000 := by omega
          clear hcell hw3 hw4
          by_cases hk0 : 0 < k
          · have HN := Lib.hid (text_next l true k hlt hk0)
            generalize l[k] = p at hcr hpl HN
            go_wp2_with fail
            refine (put_slash hW (by omega)).mono ?_
            rintro e w2 ⟨rfl, hW2⟩
            go_wp2_with fail
            refine (put_text p hW2 (by rw [List.length_append, List.length_singleton]; omega)).mono ?_
            rintro e w3 ⟨rfl, hW3⟩
            go_wp2_with fail
            go_roundw
            case rel => exact ⟨k + 1, by omega, by go_num, by rw [HN.out]; exact hW3⟩
            case measure => simp [intOf]; omega
          · obtain rfl : k = 0 := by omega
            rw [Nat.add_zero] at hcr
            have HN := Lib.hid (text_first l true hlt)
            generalize l[0] = p at hcr hpl HN
            go_wp2_with fail
            refine (put_text p hW (by omega)).mono ?_
            rintro e w3 ⟨rfl, hW3⟩
            go_wp2_with fail
            go_roundw
            case rel => exact ⟨0 + 1, by omega, rfl, by rw [HN.out]; exact hW3⟩
            case measure => simp [intOf]; omega
        · have hkl : l.take k = l := List.take_of_length_le (by omega)
          rw [hkl] at hW
          obtain ⟨t, HT, hWt⟩ : ∃ t, Hid (textL l true = t) ∧ Writes w (.cells #[.bool true, .slice sv l.length sc] 132) t wr := ⟨_, HE, hW⟩
          clear hkl hg4 HE hW
          go_wp2_with fail
          refine (get_text hWt).mono ?_
          rintro e w3 ⟨rfl, hb⟩
          go_wp2_with fail
          go_ret
          exact ⟨by rw [HT.out] <;> rfl, hb⟩

theorem routeText_any (l : List (List UInt8)) (r : Bool) (B : Nat) (v : Value) (w : World) (hown : w.ownsRow B 9 1 v l.length (S l)) (hl2 : weigh l ≤ 1000000) :
    Calls Tryz.prog 120 #[.agg #[.bool r, v]] w (TextPost w.heap.size (textL l r) w) := routeText_row l r v w (row_own hown) hl2

end Go.Proofs.YtoahfhidekmodaaGreatDoor.D1

/- Walks: the program's parts of a path, one by one. -/
namespace Go.Proofs.YtoahfhidekmodaaGreatDoor.D1
open Go.RowKit Pth

/-- A route is handed back, its parts in memory from B on. -/
def RoutePost (B : Nat) (v0 : Value) (r : Bool) (l : List (List UInt8)) (w : World) (e : Ending) (w' : World) : Prop :=
  ∃ v, e = .returned (.agg #[.bool r, v]) ∧ w'.ownsRow B 9 1 v l.length (S l) ∧ w.grownBy w' v0.ownBlock

theorem only_alloc {a w : World} {row : Option Nat} (h : a.grownBy w row) (o : Obj) : a.grownBy (w.alloc o) row :=
  ⟨h.os, h.tape, h.output, Nat.le_trans h.size (by simp), fun i hi hne => (Below.heap_alloc w o i (Nat.lt_of_lt_of_le hi h.size)).trans (h.block i hi hne)⟩
theorem only_set {a w : World} {row : Option Nat} (h : a.grownBy w row) {p : Addr} (hp : a.heap.size ≤ p.block) (u : Value) : a.grownBy (w.setCell p u) row :=
  ⟨h.os, h.tape, h.output, by simpa [World.setCell] using h.size, fun i hi hne => (Below.heap_setCell w p u i (by omega)).trans (h.block i hi hne)⟩
theorem only_refl (w : World) (row : Option Nat) : w.grownBy w row := ⟨rfl, rfl, rfl, Nat.le_refl _, fun _ _ _ => rfl⟩
theorem only_trans {a b c : World} {row row' : Option Nat} (h : a.grownBy b row) (k : b.grownBy c row') (hr : ∀ i, row' = some i → row = some i ∨ a.heap.size ≤ i) : a.grownBy c row :=
  ⟨k.os.trans h.os, k.tape.trans h.tape, k.output.trans h.output, Nat.le_trans h.size k.size, fun i hi hne => (k.block i (Nat.lt_of_lt_of_le hi h.size) (fun e => by
    rcases hr i e.symm with h1 | h1
    · exact hne h1.symm
    · omega)).trans (h.block i hi hne)⟩

theorem nothing_yes (p : List UInt8) (w : World) (h : p = [] ∨ p = [46]) :
    Calls Tryz.prog 144 #[.string ⟨p.toArray⟩] w fun e w' => e = .returned (.bool true) ∧ w = w' := by
  rcases h with rfl | rfl
  all_goals
    go_enter Tryz.func144, Tryz.ntmps144
    go_wp2
    go_ret
    exact ⟨rfl, rfl⟩
theorem nothing_no (p : List UInt8) (w : World) (h : ¬ p = []) (h1 : ¬ p = [46]) :
    Calls Tryz.prog 144 #[.string ⟨p.toArray⟩] w fun e w' => e = .returned (.bool false) ∧ w = w' := by
  have hp4 : p.isEmpty = false := by simpa using h
  have hp5 : (p == [46]) = false := by simpa using h1
  go_enter Tryz.func144, Tryz.ntmps144
  go_wp2
  go_ret
  exact ⟨rfl, rfl⟩
theorem up_yes (w : World) :
    Calls Tryz.prog 146 #[.string ⟨#[46, 46]⟩] w fun e w' => e = .returned (.bool true) ∧ w = w' := by
  go_enter Tryz.func146, Tryz.ntmps146
  go_wp2
  go_ret
  exact ⟨rfl, rfl⟩
theorem up_no (p : List UInt8) (w : World) (h : ¬ p = [46, 46]) :
    Calls Tryz.prog 146 #[.string ⟨p.toArray⟩] w fun e w' => e = .returned (.bool false) ∧ w = w' := by
  have hp5 : (p == [46, 46]) = false := by simpa using h
  go_enter Tryz.func146, Tryz.ntmps146
  go_wp2
  go_ret
  exact ⟨by simp, rfl⟩

theorem stays_any (l : List (List UInt8)) (r : Bool) (B : Nat) (v : Value) (w : World) (hown : w.ownsRow B 9 1 v l.length (S l)) (_hB : B ≤ w.heap.size) :
    Calls Tryz.prog 145 #[.agg #[.bool r, v]] w (RoutePost B v r l w) := by
  obtain ⟨sv, sc, hsv⟩ := own_slice hown
  subst hsv
  go_enter Tryz.func145, Tryz.ntmps145
  go_wp2
  exact bodyPost_ret (v := .agg #[.bool r, .slice sv l.length sc]) (by simp [results, Tryz.results145, go_sem]) rfl ⟨_, rfl, (hown.alloc _).alloc _, only_alloc (only_alloc (only_refl _ _) _) _⟩

def ruleObj : Obj := .cells #[.func (.func 144) #[] #[], .func (.func 145) #[] #[], .func (.func 146) #[] #[], .func (.func 147) #[] #[]] 161
theorem rules_any (w : World) : Calls Tryz.prog 137 #[] w fun e w' => e = .returned (.slice (some ⟨w.heap.size, 0, none⟩) 2 2) ∧ w' = w.alloc ruleObj := by
  go_enter Tryz.func137, Tryz.ntmps137
  go_wp2
  go_ret
  exact ⟨rfl, rfl⟩

/-- What is stored into a block of another type leaves a row of texts alone. -/
theorem own_set {w : World} {B n b o : Nat} {v u : Value} {xs : List Value} {cs : Array Value} {T : TypeId} {fr : Nat × Nat} (h : w.ownsRow B 9 1 v n xs) (hb : w.heap[b]? = some (.cells cs T fr)) (hT : T ≠ 9) :
    (w.setCell ⟨b, o, none⟩ u).ownsRow B 9 1 v n xs :=
  h.kept (row := some b) ⟨rfl, rfl, rfl, by simp [World.setCell], fun k _ hk => Below.heap_setCell _ _ _ _ (fun e => hk (by simp [e]))⟩ (Or.inr (Lib.ownBlock_ne h hb hT))
theorem block_set {w : World} {b o : Nat} {u : Value} {cs : Array Value} {T : TypeId} {fr : Nat × Nat} (hb : w.heap[b]? = some (.cells cs T fr)) : (w.setCell ⟨b, o, none⟩ u).heap[b]? = some (.cells (cs.setIfInBounds o u) T fr) := by
  simp [World.setCell, Array.getElem?_modify, hb]

set_option maxHeartbeats 1000000 in
theorem goesUp_pop (a : List (List UInt8)) (q : List UInt8) (r : Bool) (B : Nat) (v : Value) (w : World) (hown : w.ownsRow B 9 1 v (a.length + 1) (S (a ++ [q]))) (_hB : B ≤ w.heap.size) (hq : ¬ q = dots) (hl : a.length ≤ 10000) :
    Calls Tryz.prog 147 #[.agg #[.bool r, v]] w (RoutePost B v r a w) := by
  obtain ⟨g, c, hsv, hg1, hg2, hc1, hc2, hlast⟩ := own_last hown
  subst hsv
  unfold maxLen at hc2
  have hq1 : ¬ q = [46, 46] := hq
  have hq2 : (q == [46, 46]) = false := by simpa using hq1
  clear hq
  have hl1 : ∀ o1 o2, ((w.alloc o1).alloc o2).cell? ⟨g, a.length, none⟩ = some (.string ⟨q.toArray⟩) := fun o1 o2 => by
    rw [World.cell?_alloc_lt _ _ _ (by simp; omega), World.cell?_alloc_lt _ _ _ hg2]; exact hlast
  go_enter Tryz.func147, Tryz.ntmps147
  go_wp2
  exact bodyPost_ret (v := .agg #[.bool r, .slice (some ⟨g, 0, none⟩) a.length c]) (by simp [results, Tryz.results147, go_sem]) rfl ⟨_, rfl, ((own_pop hown).alloc _).alloc _, only_alloc (only_alloc (only_refl _ _) _) _⟩

set_option maxHeartbeats 1000000 in
theorem goesUp_stay (l : List (List UInt8)) (B : Nat) (v : Value) (w : World) (hown : w.ownsRow B 9 1 v l.length (S l)) (_hB : B ≤ w.heap.size) (hq : l = [] ∨ ∃ a, l = a ++ [dots]) (hl : l.length ≤ 10000) :
    Calls Tryz.prog 147 #[.agg #[.bool true, v]] w (RoutePost B v true l w) := by
  rcases hq with rfl | ⟨a, rfl⟩
  · obtain ⟨sv, sc, hsv⟩ := own_slice hown
    subst hsv
    go_enter Tryz.func147, Tryz.ntmps147
    go_wp2
    exact bodyPost_ret (v := .agg #[.bool true, .slice sv 0 sc]) (by simp [results, Tryz.results147, go_sem]) rfl ⟨_, rfl, (hown.alloc _).alloc _, only_alloc (only_alloc (only_refl _ _) _) _⟩
  · have hn : (a ++ [dots]).length = a.length + 1 := by simp
    rw [hn] at hown hl
    obtain ⟨g, c, hsv, hg1, hg2, hc1, hc2, hlast⟩ := own_last hown
    subst hsv
    unfold maxLen at hc2
    unfold dots at hlast
    have hl1 : ∀ o1 o2, ((w.alloc o1).alloc o2).cell? ⟨g, a.length, none⟩ = some (.string ⟨#[46, 46]⟩) := fun o1 o2 => by
      rw [World.cell?_alloc_lt _ _ _ (by simp; omega), World.cell?_alloc_lt _ _ _ hg2]; exact hlast
    clear hn
    go_enter Tryz.func147, Tryz.ntmps147
    go_wp2
    exact bodyPost_ret (v := .agg #[.bool true, .slice (some ⟨g, 0, none⟩) (a.length + 1) c]) (by simp [results, Tryz.results147, go_sem]) rfl ⟨_, rfl, by rw [List.length_append]; exact (hown.alloc _).alloc _, only_alloc (only_alloc (only_refl _ _) _) _⟩

/-- The two blocks of a struct's argument and result, behind an append. -/
theorem two_blocks {w w2 : World} {o1 o2 : Obj} {row : Option Nat} {B : Nat} (hg : ((w.alloc o1).alloc o2).grownBy w2 row) (hr : ∀ k, row = some k → B ≤ k ∧ k < w.heap.size) :
    w2.heap[w.heap.size]? = some o1 ∧ w2.heap[w.heap.size + 1]? = some o2 := by
  constructor
  · rw [hg.block w.heap.size (by simp; omega) (fun e => by have := (hr _ e.symm).2; omega), Below.heap_alloc _ _ _ (by simp)]
    exact heap_alloc_new w o1
  · rw [hg.block (w.heap.size + 1) (by simp) (fun e => by have := (hr _ e.symm).2; omega)]
    have := heap_alloc_new (w.alloc o1) o2
    simpa using this

/-- The stores into the struct's two blocks leave the row of texts alone, and all below. -/
theorem stored_own {w2 : World} {B n m b : Nat} {v u0 u1 u2 : Value} {xs : List Value} {c1 c2 : Array Value} (h : w2.ownsRow B 9 1 v n xs) (k0 : w2.heap[b]? = some (.cells c1 132 (0, 0))) (k1 : w2.heap[b + 1]? = some (.cells c2 132 (0, 0))) :
    (((w2.setCell ⟨b, m, none⟩ u0).setCell ⟨b + 1, 0, none⟩ u1).setCell ⟨b + 1, 1, none⟩ u2).ownsRow B 9 1 v n xs := by
  have k2 : (w2.setCell ⟨b, m, none⟩ u0).heap[b + 1]? = some (.cells c2 132 (0, 0)) := (Below.heap_setCell _ _ _ _ (by simp)).trans k1
  exact own_set (own_set (own_set h k0 (by decide)) k2 (by decide)) (block_set k2) (by decide)
theorem stored_only {w w2 : World} {row : Option Nat} {m : Nat} {u0 u1 u2 : Value} (h : w.grownBy w2 row) : w.grownBy (((w2.setCell ⟨w.heap.size, m, none⟩ u0).setCell ⟨w.heap.size + 1, 0, none⟩ u1).setCell ⟨w.heap.size + 1, 1, none⟩ u2) row :=
  only_set (only_set (only_set h (p := ⟨w.heap.size, m, none⟩) (Nat.le_refl _) _) (p := ⟨w.heap.size + 1, 0, none⟩) (Nat.le_succ _) _) (p := ⟨w.heap.size + 1, 1, none⟩) (Nat.le_succ _) _

set_option maxHeartbeats 1000000 in
theorem goesUp_up (l : List (List UInt8)) (B : Nat) (v : Value) (w : World) (hown : w.ownsRow B 9 1 v l.length (S l)) (hB : B ≤ w.heap.size) (hq : l = [] ∨ ∃ a, l = a ++ [dots]) (hl : l.length ≤ 10000) :
    Calls Tryz.prog 147 #[.agg #[.bool false, v]] w (RoutePost B v false (l ++ [dots]) w) := by
  rcases hq with rfl | ⟨a, rfl⟩
  · obtain ⟨sv, sc, hsv⟩ := own_slice hown
    subst hsv
    go_enter Tryz.func147, Tryz.ntmps147
    go_wp2_with (at_builtin; refine wpApp rfl _ _ rfl B (.slice sv 0 sc) [] dots rfl rfl ((hown.alloc _).alloc _) _ rfl (by simp) (by simp) (by simp; omega) ?_)
    intro v' w2 hown2 hb2 hg2
    obtain ⟨k0, k1⟩ := two_blocks hg2 (fun k hk => hown.lt k hk)
    obtain ⟨sv', sc', hsv'⟩ := own_slice hown2
    subst hsv'
    have d0 : w2.cell? ⟨w.heap.size, 0, none⟩ = some (.bool false) := by rw [Lib.cell_of_heap k0]; rfl
    have d1 : w2.cell? ⟨w.heap.size, 1, none⟩ = some (.slice sv 0 sc) := by rw [Lib.cell_of_heap k0]; rfl
    have e0 : w2.cell? ⟨w.heap.size + 1, 0, none⟩ = some (.bool false) := by rw [Lib.cell_of_heap k1]; rfl
    have e1 : w2.cell? ⟨w.heap.size + 1, 1, none⟩ = some (.slice none 0 0) := by rw [Lib.cell_of_heap k1]; rfl
    have f1 : w2.frozen? ⟨w.heap.size, 1, none⟩ = false := Lib.frozen_of_heap k0 1
    have g0 : w2.frozen? ⟨w.heap.size + 1, 0, none⟩ = false := Lib.frozen_of_heap k1 0
    have g1 : w2.frozen? ⟨w.heap.size + 1, 1, none⟩ = false := Lib.frozen_of_heap k1 1
    go_wp2
    exact bodyPost_ret (v := .agg #[.bool false, .slice sv' (0 + 1) sc']) (by simp [results, Tryz.results147, go_sem, e0, e1]) rfl ⟨_, rfl, by simpa using stored_own hown2 k0 k1, stored_only (only_trans (only_alloc (only_alloc (only_refl _ _) _) _) hg2 (fun i hi => .inl hi))⟩
  · have hn : (a ++ [dots]).length = a.length + 1 := by simp
    have hown0 := hown
    rw [hn] at hown hl
    obtain ⟨g, c, hsv, hg1, hg2, hc1, hc2, hlast⟩ := own_last hown
    subst hsv
    unfold maxLen at hc2
    unfold dots at hlast
    have hl1 : ∀ o1 o2, ((w.alloc o1).alloc o2).cell? ⟨g, a.length, none⟩ = some (.string ⟨#[46, 46]⟩) := fun o1 o2 => by
      rw [World.cell?_alloc_lt _ _ _ (by simp; omega), World.cell?_alloc_lt _ _ _ hg2]; exact hlast
    clear hn
    go_enter Tryz.func147, Tryz.ntmps147
    go_wp2_with (at_builtin; refine wpApp rfl _ _ rfl B (.slice (some ⟨g, 0, none⟩) (a.length + 1) c) (a ++ [dots]) dots rfl rfl ((hown0.alloc _).alloc _) _ rfl (by simp) (by simp; omega) (by simp; omega) ?_)
    intro v' w2 hown2 hb2 hg2
    obtain ⟨k0, k1⟩ := two_blocks hg2 (fun k hk => hown.lt k hk)
    obtain ⟨sv', sc', hsv'⟩ := own_slice hown2
    subst hsv'
    have d0 : w2.cell? ⟨w.heap.size, 0, none⟩ = some (.bool false) := by rw [Lib.cell_of_heap k0]; rfl
    have d1 : w2.cell? ⟨w.heap.size, 1, none⟩ = some (.slice (some ⟨g, 0, none⟩) (a.length + 1) c) := by rw [Lib.cell_of_heap k0]; rfl
    have e0 : w2.cell? ⟨w.heap.size + 1, 0, none⟩ = some (.bool false) := by rw [Lib.cell_of_heap k1]; rfl
    have e1 : w2.cell? ⟨w.heap.size + 1, 1, none⟩ = some (.slice none 0 0) := by rw [Lib.cell_of_heap k1]; rfl
    have f1 : w2.frozen? ⟨w.heap.size, 1, none⟩ = false := Lib.frozen_of_heap k0 1
    have g0 : w2.frozen? ⟨w.heap.size + 1, 0, none⟩ = false := Lib.frozen_of_heap k1 0
    have g1 : w2.frozen? ⟨w.heap.size + 1, 1, none⟩ = false := Lib.frozen_of_heap k1 1
    go_wp2
    exact bodyPost_ret (v := .agg #[.bool false, .slice sv' ((a ++ [dots]).length + 1) sc']) (by simp [results, Tryz.results147, go_sem, e0, e1]) rfl ⟨_, rfl, by simpa using stored_own hown2 k0 k1, stored_only (only_trans (only_alloc (only_alloc (only_refl _ _) _) _) hg2 (fun i hi => .inl hi))⟩

end Go.Proofs.YtoahfhidekmodaaGreatDoor.D1

/- Walks: one part taken by the program's rules. -/
namespace Go.Proofs.YtoahfhidekmodaaGreatDoor.D1
open Go.RowKit Pth

/-- Which rules did not fit, by how many were asked. -/
def Passed (p : List UInt8) : Nat → Prop
  | 0 => True
  | 1 => ¬ (p = [] ∨ p = [46])
  | _ => ¬ (p = [] ∨ p = [46]) ∧ ¬ p = dots

def routeObj (r : Bool) (v : Value) : Obj := .cells #[.bool r, v] 132
def freshObj : Obj := .cells #[.bool false, .slice none 0 0] 132

/-- The world in which the rules are asked. -/
def Asked (w : World) (r : Bool) (v : Value) (wr : World) : Prop := Below (w.heap.size + 2) ((w.alloc (routeObj r v)).alloc freshObj) wr

theorem Asked.size {w wr : World} {r : Bool} {v : Value} (h : Asked w r v wr) : w.heap.size + 2 ≤ wr.heap.size := by
  have := Below.size h; simp at this; omega
theorem Asked.grown {w wr : World} {r : Bool} {v : Value} (h : Asked w r v wr) (row : Option Nat) : w.grownBy wr row :=
  ⟨(Below.os h).trans rfl, (Below.tape h).trans rfl, (Below.output h).trans rfl, by have := Asked.size h; omega, fun k hk _ => by
    rw [Below.block h k (by omega), Below.heap_alloc _ _ _ (by simp; omega), Below.heap_alloc _ _ _ hk]⟩
theorem Asked.one {w wr : World} {r : Bool} {v : Value} (h : Asked w r v wr) : wr.heap[w.heap.size]? = some (routeObj r v) := by
  rw [Below.block h _ (by omega), Below.heap_alloc _ _ _ (by simp)]; exact heap_alloc_new w _
theorem Asked.two {w wr : World} {r : Bool} {v : Value} (h : Asked w r v wr) : wr.heap[w.heap.size + 1]? = some freshObj := by
  rw [Below.block h _ (by omega)]
  have := heap_alloc_new (w.alloc (routeObj r v)) freshObj
  simpa using this
theorem Asked.alloc {w wr : World} {r : Bool} {v : Value} (h : Asked w r v wr) (o : Obj) : Asked w r v (wr.alloc o) := Below.alloc h (Asked.size h) o

/-- The route that came out is stored as the result. -/
theorem stored_two {w2 : World} {B n b : Nat} {v u1 u2 : Value} {xs : List Value} {c2 : Array Value} (h : w2.ownsRow B 9 1 v n xs) (k1 : w2.heap[b]? = some (.cells c2 132 (0, 0))) :
    ((w2.setCell ⟨b, 0, none⟩ u1).setCell ⟨b, 1, none⟩ u2).ownsRow B 9 1 v n xs :=
  own_set (own_set h k1 (by decide)) (block_set k1) (by decide)
theorem stored_two_only {w w2 : World} {row : Option Nat} {b : Nat} {u1 u2 : Value} (h : w.grownBy w2 row) (hb : w.heap.size ≤ b) : w.grownBy ((w2.setCell ⟨b, 0, none⟩ u1).setCell ⟨b, 1, none⟩ u2) row :=
  only_set (only_set h (p := ⟨b, 0, none⟩) hb _) (p := ⟨b, 1, none⟩) hb _

theorem goesUp_any (l : List (List UInt8)) (r : Bool) (B : Nat) (v : Value) (w : World) (hown : w.ownsRow B 9 1 v l.length (S l)) (hB : B ≤ w.heap.size) (hl : l.length ≤ 10000) :
    Calls Tryz.prog 147 #[.agg #[.bool r, v]] w (RoutePost B v r (pstep r l dots) w) := by
  rcases last_of l with rfl | ⟨a, q, rfl⟩
  · cases r
    · rw [pstep_up0]; exact goesUp_up [] B v w hown hB (.inl rfl) hl
    · rw [pstep_stay0]; exact goesUp_stay [] B v w hown hB (.inl rfl) hl
  · by_cases hq : q = dots
    · subst hq
      cases r
      · rw [pstep_up]; exact goesUp_up _ B v w hown hB (.inr ⟨a, rfl⟩) hl
      · rw [pstep_stay]; exact goesUp_stay _ B v w hown hB (.inr ⟨a, rfl⟩) hl
    · rw [pstep_drop hq]
      rw [List.length_append, List.length_singleton] at hown hl
      exact goesUp_pop a q r B v w hown hB hq (by omega)

set_option maxHeartbeats 2000000 in
theorem takePart_any (l : List (List UInt8)) (p : List UInt8) (r : Bool) (B gr : Nat) (v : Value) (w : World) (hown : w.ownsRow B 9 1 v l.length (S l)) (hB : B ≤ w.heap.size) (hl : l.length ≤ 10000)
    (hr : w.heap[gr]? = some ruleObj) :
    Calls Tryz.prog 139 #[.slice (some ⟨gr, 0, none⟩) 2 2, .agg #[.bool r, v], .string ⟨p.toArray⟩] w (RoutePost B v r (pstep r l p) w) := by
  obtain ⟨sv, sc, hsv⟩ := own_slice hown
  subst hsv
  have hgr := lt_of_block hr
  go_enter Tryz.func139, Tryz.ntmps139
  go_wp2_with fail
  go_loopw [11] (fun i wr => ∃ k : Nat, k ≤ 2 ∧ i = .int .i64 k ∧ Asked w r (.slice sv l.length sc) wr ∧ wr.ownsRow B 9 1 (.slice sv l.length sc) l.length (S l) ∧ Passed p k) (fun i _ => 2 - (intOf i).toNat)
  case atStart => exact ⟨0, by omega, rfl, Below.refl _ _, (hown.alloc _).alloc _, trivial⟩
  case round =>
    obtain ⟨k, hk, rfl, hA, ho, hP⟩ := hrel
    have hsz := hA.size
    have hru : wr.heap[gr]? = some ruleObj := by rw [(hA.grown none).block gr hgr (by simp)]; exact hr
    have r0 : wr.cell? ⟨gr, 0, none⟩ = some (.func (.func 144) #[] #[]) := by rw [Lib.cell_of_heap hru]; rfl
    have r1 : wr.cell? ⟨gr, 1, none⟩ = some (.func (.func 145) #[] #[]) := by rw [Lib.cell_of_heap hru]; rfl
    have r2 : wr.cell? ⟨gr, 2, none⟩ = some (.func (.func 146) #[] #[]) := by rw [Lib.cell_of_heap hru]; rfl
    have r3 : wr.cell? ⟨gr, 3, none⟩ = some (.func (.func 147) #[] #[]) := by rw [Lib.cell_of_heap hru]; rfl
    have q0 : ∀ o, (wr.alloc o).cell? ⟨w.heap.size, 0, none⟩ = some (.bool r) := fun o => by rw [World.cell?_alloc_lt _ _ _ (by show w.heap.size < _; omega), Lib.cell_of_heap hA.one]; rfl
    have q1 : ∀ o, (wr.alloc o).cell? ⟨w.heap.size, 1, none⟩ = some (.slice sv l.length sc) := fun o => by rw [World.cell?_alloc_lt _ _ _ (by show w.heap.size < _; omega), Lib.cell_of_heap hA.one]; rfl
    rcases k with _ | _ | _ | k
    · by_cases hp : p = [] ∨ p = [46]
      · have HP := Lib.hid (pstep_skip (b := r) (acc := l) hp)
        have HQ := Lib.hid hp
        clear hp
        go_wp2_with (first | (go_at_call 144; refine (nothing_yes p _ HQ.out).mono ?_; rintro e w' ⟨rfl, rfl⟩) | (go_at_call 145; refine (stays_any l r B _ _ (ho.alloc _) (by simp; omega)).mono ?_))
        rintro e w2 ⟨v2, rfl, hown2, hg2⟩
        obtain ⟨sv2, sc2, hsv2⟩ := own_slice hown2
        subst hsv2
        have k1 : w2.heap[w.heap.size + 1]? = some (.cells #[.bool false, .slice none 0 0] 132 (0, 0)) := by
          rw [hg2.block (w.heap.size + 1) (by simp; omega) (fun e => by have := (hown.lt _ e.symm).2; omega), Below.heap_alloc _ _ _ (by omega)]
          exact hA.two
        have e0 : w2.cell? ⟨w.heap.size + 1, 0, none⟩ = some (.bool false) := by rw [Lib.cell_of_heap k1]; rfl
        have e1 : w2.cell? ⟨w.heap.size + 1, 1, none⟩ = some (.slice none 0 0) := by rw [Lib.cell_of_heap k1]; rfl
        have g0 : w2.frozen? ⟨w.heap.size + 1, 0, none⟩ = false := Lib.frozen_of_heap k1 0
        have g1 : w2.frozen? ⟨w.heap.size + 1, 1, none⟩ = false := Lib.frozen_of_heap k1 1
        go_wp2
        exact bodyPost_ret (v := .agg #[.bool r, .slice sv2 l.length sc2]) (by simp [results, Tryz.results139, go_sem, e0, e1]) rfl ⟨_, rfl, stored_two (by rw [HP.out]; exact hown2) k1, stored_two_only (only_trans ((hA.alloc _).grown _) hg2 (fun i hi => .inl hi)) (by omega)⟩
      · have HQ : Hid (Passed p 1) := hp
        have hp1 : ¬ p = [] := fun h => hp (.inl h)
        have hp2 : ¬ p = [46] := fun h => hp (.inr h)
        clear hp hP
        have HN1 := Lib.hid hp1
        have HN2 := Lib.hid hp2
        clear hp1 hp2
        go_wp2_with (go_at_call 144; refine (nothing_no p _ HN1.out HN2.out).mono ?_; rintro e w' ⟨rfl, rfl⟩)
        go_roundw
        case rel => exact ⟨1, by omega, rfl, hA.alloc _, ho.alloc _, HQ.out⟩
        case measure => simp [intOf]
    · by_cases hp : p = dots
      · subst hp
        clear hP
        have hp46 : (⟨dots.toArray⟩ : ByteArray) = ⟨#[46, 46]⟩ := rfl
        rw [hp46]
        clear hp46
        go_wp2_with (first | (go_at_call 146; refine (up_yes _).mono ?_; rintro e w' ⟨rfl, rfl⟩) | (go_at_call 147; refine (goesUp_any l r B _ _ (ho.alloc _) (by simp; omega) hl).mono ?_))
        rintro e w2 ⟨v2, rfl, hown2, hg2⟩
        obtain ⟨sv2, sc2, hsv2⟩ := own_slice hown2
        subst hsv2
        have k1 : w2.heap[w.heap.size + 1]? = some (.cells #[.bool false, .slice none 0 0] 132 (0, 0)) := by
          rw [hg2.block (w.heap.size + 1) (by simp; omega) (fun e => by have := (hown.lt _ e.symm).2; omega), Below.heap_alloc _ _ _ (by omega)]
          exact hA.two
        have e0 : w2.cell? ⟨w.heap.size + 1, 0, none⟩ = some (.bool false) := by rw [Lib.cell_of_heap k1]; rfl
        have e1 : w2.cell? ⟨w.heap.size + 1, 1, none⟩ = some (.slice none 0 0) := by rw [Lib.cell_of_heap k1]; rfl
        have g0 : w2.frozen? ⟨w.heap.size + 1, 0, none⟩ = false := Lib.frozen_of_heap k1 0
        have g1 : w2.frozen? ⟨w.heap.size + 1, 1, none⟩ = false := Lib.frozen_of_heap k1 1
        go_wp2
        exact bodyPost_ret (v := .agg #[.bool r, .slice sv2 (pstep r l dots).length sc2]) (by simp [results, Tryz.results139, go_sem, e0, e1]) rfl ⟨_, rfl, stored_two hown2 k1, stored_two_only (only_trans ((hA.alloc _).grown _) hg2 (fun i hi => .inl hi)) (by omega)⟩
      · have HQ : Hid (Passed p 2) := ⟨hP, hp⟩
        have HN1 : Hid (¬ p = [46, 46]) := hp
        clear hp hP
        go_wp2_with (go_at_call 146; refine (up_no p _ HN1.out).mono ?_; rintro e w' ⟨rfl, rfl⟩)
        go_roundw
        case rel => exact ⟨2, by omega, rfl, hA.alloc _, ho.alloc _, HQ.out⟩
        case measure => simp [intOf]
    · have HP := Lib.hid (pstep_name (b := r) (acc := l) (fun h => hP.1 (.inl h)) (fun h => hP.1 (.inr h)) hP.2)
      clear hP q0 q1
      have q0 : wr.cell? ⟨w.heap.size, 0, none⟩ = some (.bool r) := by rw [Lib.cell_of_heap hA.one]; rfl
      have q1 : wr.cell? ⟨w.heap.size, 1, none⟩ = some (.slice sv l.length sc) := by rw [Lib.cell_of_heap hA.one]; rfl
      go_wp2_with (at_builtin; refine wpApp rfl _ _ rfl B (.slice sv l.length sc) l p rfl rfl ho _ rfl (by simp) (by omega) (by omega) ?_)
      intro v' w2 hown2 hb2 hg2
      have k0 : w2.heap[w.heap.size]? = some (.cells #[.bool r, .slice sv l.length sc] 132 (0, 0)) := by
        rw [hg2.block w.heap.size (by omega) (fun e => by have := (hown.lt _ e.symm).2; omega)]; exact hA.one
      have k1 : w2.heap[w.heap.size + 1]? = some (.cells #[.bool false, .slice none 0 0] 132 (0, 0)) := by
        rw [hg2.block (w.heap.size + 1) (by omega) (fun e => by have := (hown.lt _ e.symm).2; omega)]; exact hA.two
      obtain ⟨sv', sc', hsv'⟩ := own_slice hown2
      subst hsv'
      have d0 : w2.cell? ⟨w.heap.size, 0, none⟩ = some (.bool r) := by rw [Lib.cell_of_heap k0]; rfl
      have d1 : w2.cell? ⟨w.heap.size, 1, none⟩ = some (.slice sv l.length sc) := by rw [Lib.cell_of_heap k0]; rfl
      have e0 : w2.cell? ⟨w.heap.size + 1, 0, none⟩ = some (.bool false) := by rw [Lib.cell_of_heap k1]; rfl
      have e1 : w2.cell? ⟨w.heap.size + 1, 1, none⟩ = some (.slice none 0 0) := by rw [Lib.cell_of_heap k1]; rfl
      have f1 : w2.frozen? ⟨w.heap.size, 1, none⟩ = false := Lib.frozen_of_heap k0 1
      have g0 : w2.frozen? ⟨w.heap.size + 1, 0, none⟩ = false := Lib.frozen_of_heap k1 0
      have g1 : w2.frozen? ⟨w.heap.size + 1, 1, none⟩ = false := Lib.frozen_of_heap k1 1
      go_wp2
      exact bodyPost_ret (v := .agg #[.bool r, .slice sv' (l.length + 1) sc']) (by simp [results, Tryz.results139, go_sem, e0, e1]) rfl ⟨_, rfl, by rw [HP.out]; simpa using stored_own hown2 k0 k1, stored_only (only_trans (hA.grown _) hg2 (fun i hi => .inl hi))⟩
    · omega

end Go.Proofs.YtoahfhidekmodaaGreatDoor.D1

/- Walks: the program's route of a path. -/
namespace Go.Proofs.YtoahfhidekmodaaGreatDoor.D1
open Go.RowKit Pth

/-- c ahead of the first one. -/
def hang (c : List UInt8) : List (List UInt8) → List (List UInt8)
  | [] => [c]
  | h :: t => (c ++ h) :: t
theorem hang_nil (l : List (List UInt8)) (h : ¬ l = []) : hang [] l = l := by
  cases l with
  | nil => exact absurd rfl h
  | cons x t => rfl
theorem hang_hang (a b : List UInt8) (l : List (List UInt8)) : hang a (hang b l) = hang (a ++ b) l := by cases l <;> simp [hang]
theorem splitK_ne (k : Nat) (s : List UInt8) : ¬ Lib.splitK [47] 0 k s = [] := by
  cases k with
  | zero => simp [Lib.splitK]
  | succ k => unfold Lib.splitK; split <;> simp
theorem splitK_other (c : UInt8) (hc : ¬ c = 47) (k : Nat) (r : List UInt8) (hk : k = 0 ∨ ¬ Lib.index r [47] = -1) : Lib.splitK [47] 0 k (c :: r) = hang [c] (Lib.splitK [47] 0 k r) := by
  cases k with
  | zero => rfl
  | succ k =>
    have hi : ¬ Lib.index r [47] = -1 := hk.resolve_left (by omega)
    have hge := Lib.index_ge r [47]
    have hp : ([47] : List UInt8).isPrefixOf (c :: r) = false := by simp [List.isPrefixOf, Ne.symm hc]
    have hb : (Lib.index r [47] == -1) = false := by simpa using hi
    have hix : Lib.index (c :: r) [47] = Lib.index r [47] + 1 := by rw [Lib.index, hp, hb]; simp
    have hb2 : (Lib.index r [47] + 1 == -1) = false := by rw [beq_eq_false_iff_ne]; omega
    obtain ⟨j, hj⟩ : ∃ j : Nat, Lib.index r [47] = j := ⟨(Lib.index r [47]).toNat, by omega⟩
    unfold Lib.splitK
    rw [hix, hb, hb2, hj]
    have e1 : ((j : Int) + 1).toNat = j + 1 := by omega
    rw [e1]
    simp [hang]
theorem splitAux_eq (s : List UInt8) : ∀ cur, splitAux cur s = hang cur.reverse (Lib.splitK [47] 0 (Lib.count s [47]) s) := by
  induction s with
  | nil =>
    intro cur
    rw [Lib.count_miss (by simp [Lib.index])]
    simp [splitAux, Lib.splitK, hang]
  | cons c r ih =>
    intro cur
    rw [splitAux]
    by_cases hc : c = 47
    · subst hc
      have hix : Lib.index (47 :: r) [47] = 0 := by rw [Lib.index]; simp [List.isPrefixOf]
      rw [if_pos rfl, Lib.count_cons_eq, Nat.add_comm, Lib.splitK, hix, ih, List.reverse_nil, hang_nil _ (splitK_ne _ _)]
      simp [hang]
    · rw [if_neg hc, Lib.count_cons_ne c 47 r hc, ih, splitK_other c hc _ r, hang_hang]
      · simp
      · by_cases hi : Lib.index r [47] = -1
        · exact .inl (Lib.count_miss hi)
        · exact .inr hi
theorem split_eq (s : ByteArray) : (Lib.splitB ⟨#[47]⟩ 0 (Lib.countB s ⟨#[47]⟩) s).map (·.data.toList) = splitL s.data.toList := by
  rw [Lib.splitB_data]
  show Lib.splitK [47] 0 (Lib.count s.data.toList [47]) s.data.toList = _
  rw [splitL, splitAux_eq, List.reverse_nil, hang_nil _ (splitK_ne _ _)]
theorem split_cells (s : ByteArray) : (Lib.splitB ⟨#[47]⟩ 0 (Lib.countB s ⟨#[47]⟩) s).map Value.string = S (splitL s.data.toList) := by
  rw [← split_eq, S, List.map_map]
  rfl
theorem split_count (s : ByteArray) : Lib.countB s ⟨#[47]⟩ + 1 = (splitL s.data.toList).length := by
  rw [← split_eq, List.length_map, Lib.splitB_all ⟨#[47]⟩ (by decide) 0 _ s rfl]

theorem split_any (s : ByteArray) (m : Int) (w : World) (hs : s.size ≤ 1000) (hm : w.cell? ⟨0, 0, none⟩ = some (.int .i64 m)) :
    Calls Tryz.prog 138 #[.string s, .string ⟨#[47]⟩] w fun e w' =>
      e = .returned (.slice (some ⟨w.heap.size, 0, none⟩) (splitL s.data.toList).length (splitL s.data.toList).length) ∧ w' = w.alloc (.cells (S (splitL s.data.toList)).toArray 9) := by
  have h := Tryz.split_at s ⟨#[47]⟩ m w (by omega) hm (by decide)
  rw [split_cells, split_count] at h
  exact h

theorem prefix_eq (s : ByteArray) : Lib.hasPrefix s.data.toList [47] = rootedL s.data.toList := by
  unfold Lib.hasPrefix
  cases s.data.toList with
  | nil => rfl
  | cons c r =>
    show ((47 == c) && true) = (c == 47)
    rw [Bool.and_true, Bool.beq_comm]

theorem prefix_any (s : ByteArray) (w : World) : Calls Tryz.prog 136 #[.string s, .string ⟨#[47]⟩] w fun e w' => e = .returned (.bool (rootedL s.data.toList)) ∧ w = w' := by
  refine (Tryz.has_prefix s ⟨#[47]⟩ w).mono ?_
  rintro e w' ⟨rfl, rfl⟩
  exact ⟨ret_bool (prefix_eq s), rfl⟩

/-- The blocks that stand when the parts are taken. -/
def Base (w : World) (b : Bool) (cs : Array Value) : World :=
  (((w.alloc (.cells #[.bool false, .slice none 0 0] 132)).alloc (.cells #[.bool b, .slice none 0 0] 132)).alloc ruleObj).alloc (.cells cs 9)
theorem Base.size (w : World) (b : Bool) (cs : Array Value) : (Base w b cs).heap.size = w.heap.size + 4 := by simp [Base]
theorem Base.at0 (w : World) (b : Bool) (cs : Array Value) : (Base w b cs).heap[w.heap.size]? = some (.cells #[.bool false, .slice none 0 0] 132) := by
  unfold Base
  rw [Below.heap_alloc _ _ _ (by simp; omega), Below.heap_alloc _ _ _ (by simp; omega), Below.heap_alloc _ _ _ (by simp)]
  exact heap_alloc_new w _
theorem Base.at1 (w : World) (b : Bool) (cs : Array Value) : (Base w b cs).heap[w.heap.size + 1]? = some (.cells #[.bool b, .slice none 0 0] 132) := by
  unfold Base
  rw [Below.heap_alloc _ _ _ (by simp), Below.heap_alloc _ _ _ (by simp)]
  have := heap_alloc_new (w.alloc (.cells #[.bool false, .slice none 0 0] 132)) (.cells #[.bool b, .slice none 0 0] 132)
  simpa using this
theorem Base.at2 (w : World) (b : Bool) (cs : Array Value) : (Base w b cs).heap[w.heap.size + 2]? = some ruleObj := by
  unfold Base
  rw [Below.heap_alloc _ _ _ (by simp)]
  have := heap_alloc_new ((w.alloc (.cells #[.bool false, .slice none 0 0] 132)).alloc (.cells #[.bool b, .slice none 0 0] 132)) ruleObj
  simpa using this
theorem Base.at3 (w : World) (b : Bool) (cs : Array Value) : (Base w b cs).heap[w.heap.size + 3]? = some (.cells cs 9) := by
  unfold Base
  have := heap_alloc_new (((w.alloc (.cells #[.bool false, .slice none 0 0] 132)).alloc (.cells #[.bool b, .slice none 0 0] 132)).alloc ruleObj) (.cells cs 9)
  simpa using this
theorem Base.below (w : World) (b : Bool) (cs : Array Value) : Below w.heap.size w (Base w b cs) :=
  ((((Below.refl _ _).alloc (Nat.le_refl _) _).alloc (by simp) _).alloc (by simp; omega) _).alloc (by simp; omega) _

theorem only_row {a w : World} {g : Nat} (h : a.grownBy w (some g)) (o : Nat) (u : Value) : a.grownBy (w.setCell ⟨g, o, none⟩ u) (some g) :=
  ⟨h.os, h.tape, h.output, by simpa [World.setCell] using h.size, fun i hi hne => (Below.heap_setCell w ⟨g, o, none⟩ u i (fun e => hne (by rw [e]))).trans (h.block i hi hne)⟩

/-- A route that the call has made. -/
def NewRoute (b : Bool) (l : List (List UInt8)) (w : World) (e : Ending) (w' : World) : Prop :=
  ∃ v, e = .returned (.agg #[.bool b, v]) ∧ w'.ownsRow w.heap.size 9 1 v l.length (S l) ∧ Below w.heap.size w w'

set_option maxHeartbeats 2000000 in
theorem routeOf_any (s : ByteArray) (m : Int) (w : World) (hs : s.size ≤ 1000) (hm : w.cell? ⟨0, 0, none⟩ = some (.int .i64 m)) :
    Calls Tryz.prog 121 #[.string s] w (NewRoute (rootedL s.data.toList) (partsL s.data.toList) w) := by
  have h0 : 0 < w.heap.size := World.block_lt_of_cell? w ⟨0, 0, none⟩ hm
  have hls := split_len s
  go_enter Tryz.func121, Tryz.ntmps121
  go_wp2_with fail
  refine (prefix_any s _).mono ?_
  rintro e w' ⟨rfl, rfl⟩
  go_wp2_with fail
  refine (rules_any _).mono ?_
  rintro e w' ⟨rfl, rfl⟩
  go_wp2_with fail
  refine (split_any s m _ hs ?_).mono ?_
  · rw [World.cell?_alloc_lt _ _ _ (by simp), World.cell?_alloc_lt _ _ _ (by simp), World.cell?_alloc_lt _ _ _ h0]
    exact hm
  rintro e w' ⟨rfl, rfl⟩
  go_wp2_with fail
  have hBs := Base.size w (rootedL s.data.toList) (S (splitL s.data.toList)).toArray
  have hB1 := Base.at1 w (rootedL s.data.toList) (S (splitL s.data.toList)).toArray
  have hB2 := Base.at2 w (rootedL s.data.toList) (S (splitL s.data.toList)).toArray
  have hB3 := Base.at3 w (rootedL s.data.toList) (S (splitL s.data.toList)).toArray
  have hB0 := Base.at0 w (rootedL s.data.toList) (S (splitL s.data.toList)).toArray
  have hBb := Base.below w (rootedL s.data.toList) (S (splitL s.data.toList)).toArray
  go_loopw [14] (fun i wr => ∃ (acc : List (List UInt8)) (k : Nat) (v : Value), k ≤ (splitL s.data.toList).length ∧ acc.length ≤ k ∧ i = .int .i64 k ∧ wr.heap[w.heap.size + 1]? = some (.cells #[.bool (rootedL s.data.toList), v] 132) ∧
      wr.ownsRow (w.heap.size + 4) 9 1 v acc.length (S acc) ∧ (Base w (rootedL s.data.toList) (S (splitL s.data.toList)).toArray).grownBy wr (some (w.heap.size + 1)) ∧
      Hid (partsL s.data.toList = partsFrom (rootedL s.data.toList) acc ((splitL s.data.toList).drop k))) (fun i _ => (splitL s.data.toList).length - (intOf i).toNat)
  case atStart => exact ⟨[], 0, .slice none 0 0, Nat.zero_le _, by simp, rfl, hB1, World.ownsRow_nil _ _ _ _, only_refl _ _, rfl⟩
  case round =>
    obtain ⟨acc, k, v, hk, hal, rfl, hcr, hown, hg, HS⟩ := hrel
    have hsz := hg.size
    rw [hBs] at hsz
    obtain ⟨sv, sc, hsv⟩ := own_slice hown
    subst hsv
    have c0 : wr.cell? ⟨w.heap.size + 1, 0, none⟩ = some (.bool (rootedL s.data.toList)) := by rw [Lib.cell_of_heap hcr]; rfl
    have c1 : wr.cell? ⟨w.heap.size + 1, 1, none⟩ = some (.slice sv acc.length sc) := by rw [Lib.cell_of_heap hcr]; rfl
    by_cases hlt : k < (splitL s.data.toList).length
    · have h3 : wr.heap[w.heap.size + 1 + 1 + 1]? = some (.cells (S (splitL s.data.toList)).toArray 9) := by
        rw [hg.block (w.heap.size + 1 + 1 + 1) (by omega) (by simp; omega)]; exact hB3
      have h2 : wr.heap[w.heap.size + 1 + 1]? = some ruleObj := by
        rw [hg.block (w.heap.size + 1 + 1) (by omega) (by simp)]; exact hB2
      have hcell : wr.cell? ⟨w.heap.size + 1 + 1 + 1, k, none⟩ = some (.string ⟨((splitL s.data.toList)[k]).toArray⟩) := by
        rw [Lib.cell_of_heap h3, List.getElem?_toArray, S_at hlt]
      have HS2 : Hid (partsL s.data.toList = partsFrom (rootedL s.data.toList) (pstep (rootedL s.data.toList) acc ((splitL s.data.toList)[k])) ((splitL s.data.toList).drop (k + 1))) := parts_step hlt rfl HS.out
      have hpl : ∀ p, (pstep (rootedL s.data.toList) acc p).length ≤ acc.length + 1 := fun p => by
        unfold pstep
        repeat' split
        all_goals first | omega | (simp; done) | (simp; omega)
      generalize (splitL s.data.toList)[k] = p at hcell HS2
      have hpl' := hpl p
      clear HS hpl h3
      go_wp2_with fail
      refine (takePart_any acc p _ (w.heap.size + 4) _ _ _ hown (by omega) (by omega) h2).mono ?_
      rintro e w2 ⟨v2, rfl, hown2, hg2⟩
      obtain ⟨sv2, sc2, hsv2⟩ := own_slice hown2
      subst hsv2
      have k1 : w2.heap[w.heap.size + 1]? = some (.cells #[.bool (rootedL s.data.toList), .slice sv acc.length sc] 132) := by
        rw [hg2.block (w.heap.size + 1) (by omega) (fun e => by have := (hown.lt _ e.symm).1; omega)]; exact hcr
      have d0 : w2.cell? ⟨w.heap.size + 1, 0, none⟩ = some (.bool (rootedL s.data.toList)) := by rw [Lib.cell_of_heap k1]; rfl
      have d1 : w2.cell? ⟨w.heap.size + 1, 1, none⟩ = some (.slice sv acc.length sc) := by rw [Lib.cell_of_heap k1]; rfl
      have f0 : w2.frozen? ⟨w.heap.size + 1, 0, none⟩ = false := Lib.frozen_of_heap k1 0
      have f1 : w2.frozen? ⟨w.heap.size + 1, 1, none⟩ = false := Lib.frozen_of_heap k1 1
      go_wp2_with fail
      go_roundw
      case rel =>
        exact ⟨pstep (rootedL s.data.toList) acc p, k + 1, _, by omega, by omega, by go_num, (block_set (block_set k1)).trans rfl, stored_two hown2 k1,
          only_row (only_row (only_trans hg hg2 (fun i hi => .inr (by rw [hBs]; exact (hown.lt _ hi).1))) _ _) _ _, HS2⟩
      case measure => simp [intOf]; omega
    · have h0' : wr.heap[w.heap.size]? = some (.cells #[.bool false, .slice none 0 0] 132) := by
        rw [hg.block w.heap.size (by omega) (by simp)]; exact hB0
      have d0 : wr.cell? ⟨w.heap.size, 0, none⟩ = some (.bool false) := by rw [Lib.cell_of_heap h0']; rfl
      have d1 : wr.cell? ⟨w.heap.size, 1, none⟩ = some (.slice none 0 0) := by rw [Lib.cell_of_heap h0']; rfl
      have f0 : wr.frozen? ⟨w.heap.size, 0, none⟩ = false := Lib.frozen_of_heap h0' 0
      have f1 : wr.frozen? ⟨w.heap.size, 1, none⟩ = false := Lib.frozen_of_heap h0' 1
      have HE := Lib.hid (parts_end (k := k) (by omega) HS.out)
      have hbw : Below w.heap.size w wr := hBb.trans ⟨hg.os, hg.tape, hg.output, hg.size, fun i hi => hg.block i (by omega) (by simp; omega)⟩
      clear HS
      go_wp2_with fail
      exact bodyPost_ret (v := .agg #[.bool (rootedL s.data.toList), .slice sv acc.length sc]) (by simp [results, Tryz.results121, go_sem, d0, d1]) rfl
        ⟨_, rfl, by rw [HE.out]; exact own_base (stored_two hown h0') (by omega), (hbw.setCell (p := ⟨w.heap.size, 0, none⟩) (Nat.le_refl _) _).setCell (p := ⟨w.heap.size, 1, none⟩) (Nat.le_refl _) _⟩

end Go.Proofs.YtoahfhidekmodaaGreatDoor.D1

/- Walks: the program's clean path; the law that both programs clean alike. -/
namespace Go.Proofs.YtoahfhidekmodaaGreatDoor.D1
open Go.RowKit Pth

/-- No part is empty. -/
def Full (l : List (List UInt8)) : Prop := ∀ p ∈ l, ¬ p = []
theorem full_pstep {b : Bool} {acc : List (List UInt8)} {p : List UInt8} (h : Full acc) : Full (pstep b acc p) := by
  unfold pstep
  by_cases h0 : p = [] ∨ p = [46]
  · rw [if_pos h0]; exact h
  · have hp : ¬ p = [] := fun e => h0 (.inl e)
    have ha : Full (acc ++ [p]) := fun q hq => by
      rcases List.mem_append.1 hq with h1 | h1
      · exact h q h1
      · rw [List.mem_singleton.1 h1]; exact hp
    rw [if_neg h0]
    split
    · split
      · exact fun q hq => h q ((List.dropLast_sublist acc).subset hq)
      · split
        · exact h
        · exact ha
    · exact ha
theorem full_from {b : Bool} (r : List (List UInt8)) : ∀ acc, Full acc → Full (partsFrom b acc r) := by
  induction r with
  | nil => intro acc h; exact h
  | cons p t ih => intro acc h; exact ih _ (full_pstep h)
theorem full_parts (l : List UInt8) : Full (partsL l) := full_from _ [] (fun _ h => by simp at h)
theorem glue_nil {l : List (List UInt8)} (h : Full l) : glue l = [] ↔ l = [] := by
  cases l with
  | nil => simp [glue]
  | cons p t =>
    have hp := h p (by simp)
    cases t with
    | nil => simp [glue, hp]
    | cons q r => simp [glue]
theorem text_join {l : List (List UInt8)} (b : Bool) (h : Full l) : textL l b = joinL l b := by
  unfold textL joinL
  simp only [glue_nil h]

theorem isPath_eq {b : Bool} (s : ByteArray) (w : World) (hs : s.size ≤ maxLen) (hb : Hid (pathL s.data.toList = b)) :
    Calls Tryz.prog 119 #[.string s] w (BoolPost b w) := by
  have h := isPath_any s w hs
  rw [hb.out] at h
  exact h

/-- The library's variable lies where it lay. -/
theorem keep_max {w w' : World} {m : Int} (hm : w.cell? ⟨0, 0, none⟩ = some (.int .i64 m)) (hb : Below w.heap.size w w') : w'.cell? ⟨0, 0, none⟩ = some (.int .i64 m) := by
  rw [hb.cell (p := ⟨0, 0, none⟩) (World.block_lt_of_cell? w ⟨0, 0, none⟩ hm)]; exact hm
theorem bthen {w w1 w2 : World} (h : Below w.heap.size w w1) (k : Below w1.heap.size w1 w2) : Below w.heap.size w w2 := h.trans (k.mono h.size)

theorem cleanText_any (s : ByteArray) (v : Value) (B : Nat) (w : World) (hs : s.size ≤ 1000) (hown : w.ownsRow B 9 1 v (partsL s.data.toList).length (S (partsL s.data.toList))) :
    Calls Tryz.prog 120 #[.agg #[.bool (rootedL s.data.toList), v]] w (TextPost w.heap.size (cleanL s.data.toList) w) := by
  have h := routeText_any (partsL s.data.toList) (rootedL s.data.toList) B v w hown (by have := weigh_parts s; omega)
  rw [text_join _ (full_parts _)] at h
  exact h

set_option maxHeartbeats 1000000 in
theorem implClean_any (s : ByteArray) (m : Int) (w : World) (hs : s.size ≤ maxLen) (hm : w.cell? ⟨0, 0, none⟩ = some (.int .i64 m)) :
    Calls Tryz.prog 97 #[.string s] w (TwoPost (cleanT s.data.toList) (pathL s.data.toList) w) := by
  rcases hp : pathL s.data.toList with _ | _
  · have HT : Hid (cleanT s.data.toList = []) := by show cleanT _ = _; simp [cleanT, hp]
    have HP := Lib.hid hp
    clear hp
    go_enter Tryz.func97, Tryz.ntmps97
    go_wp2_with fail
    refine (isPath_eq s _ hs HP).mono ?_
    rintro e w1 ⟨rfl, hb1⟩
    go_wp2_with fail
    go_ret2
    exact ⟨by rw [HT.out] <;> rfl, hb1⟩
  · have HT : Hid (cleanT s.data.toList = cleanL s.data.toList) := by show cleanT _ = _; simp [cleanT, hp]
    have hsz := path_size hp
    have HP := Lib.hid hp
    clear hp
    go_enter Tryz.func97, Tryz.ntmps97
    go_wp2_with fail
    refine (isPath_eq s _ hs HP).mono ?_
    rintro e w1 ⟨rfl, hb1⟩
    go_wp2_with fail
    refine (routeOf_any s m _ (by omega) (keep_max hm hb1)).mono ?_
    rintro e w2 ⟨v2, rfl, hown2, hb2⟩
    go_wp2_with fail
    refine (cleanText_any s v2 _ _ (by omega) hown2).mono ?_
    rintro e w3 ⟨rfl, hb3⟩
    go_wp2_with fail
    go_ret2
    exact ⟨by rw [HT.out] <;> rfl, bthen (bthen hb1 hb2) hb3⟩

/-- The law says yes, and nothing that lay there has turned. -/
def YesPost (w : World) (e : Ending) (w' : World) : Prop := e = .returned (.bool true) ∧ Below w.heap.size w w'

end Go.Proofs.YtoahfhidekmodaaGreatDoor.D1
