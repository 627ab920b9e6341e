/- A region that draws its order, whose first operations come in one forced order (a call that makes memory among them) and whose others only read: one walk in the order of the text. -/
import Derived.WalkKit
import Derived.Deep.Quiet
import Derived.StillTail
import Derived.BigQuiet
import Derived.Test.YtoahfhidekmodaaDoorRows
namespace Go.Proofs.YtoahfhidekmodaaDoor
open Go.RowKit

theorem oper_wp_Q {P : Program} {o : Oper} {a : Act} {w : World} {K : Act → World → Prop} {Q Q' : Exit → Act → World → Prop} (hq : ∀ e a w, e ≠ .normal → Q e a w → Q' e a w) (hh : o.wp P a w K Q) : o.wp P a w K Q' := by
  unfold Oper.wp at *
  generalize (execOp a.eval o).run P w = r at *
  cases r with
  | ok n w' =>
    cases n <;> simp only [Oper.upon] at hh ⊢ <;>
      first
        | exact hh
        | exact Calls.mono hh (fun e w'' he => by cases e <;> first | exact he | exact hq _ _ _ (by simp) he | exact (let ⟨a, w, h⟩ := he; ⟨a, w, hq _ _ _ (by simp) h⟩))
  | halt x w' => cases x <;> simp only [Oper.upon] at hh ⊢ <;> first | exact hh | exact hq _ _ _ (by simp) hh

theorem lets_Q {Q Q' : Exit → Act → World → Prop} (hq : ∀ e a w, e ≠ .normal → Q e a w → Q' e a w) (h : LetsOut Q) : LetsOut Q' :=
  let ⟨a, w, h⟩ := h; ⟨a, w, hq _ _ _ (by simp) h⟩

theorem wpOp_Q {P : Program} {ops : Array Oper} {i : Nat} {a : Act} {w : World} {K : Act → World → Prop} {Q Q' : Exit → Act → World → Prop} (hq : ∀ e a w, e ≠ .normal → Q e a w → Q' e a w) (hh : wpOp P ops Q i K a w) : wpOp P ops Q' i K a w := by
  unfold wpOp at *
  split
  · simpa [*] using hh
  · rename_i o ho
    simp only [ho] at hh
    split
    · rename_i hw; simp only [hw, if_true] at hh; exact hh.imp (oper_wp_Q hq) (fun h => ⟨h.1, lets_Q hq h.2⟩)
    · rename_i hw; simp only [hw] at hh; exact hh

/-- T behind the head, Q at whatever else. -/
def Then (T : Act → World → Prop) (Q : Exit → Act → World → Prop) : Exit → Act → World → Prop
  | .normal, a, w => T a w
  | e, a, w => Q e a w
theorem then_normal {T : Act → World → Prop} {Q : Exit → Act → World → Prop} {a : Act} {w : World} (h : T a w) : Then T Q .normal a w := h
theorem then_Q {T : Act → World → Prop} {Q : Exit → Act → World → Prop} : ∀ e a w, e ≠ .normal → Then T Q e a w → Q e a w := fun e a w he h => by
  cases e <;> first | exact absurd rfl he | exact h

def headB (ops : Array Oper) : Nat → Nat → Array Bool → Bool
  | 0, _, _ => true
  | g + 1, k, listed => decide (Region.ready .any ops listed = [k]) && headB ops g (k + 1) (listed.setIfInBounds k true)
def setAll : Nat → Nat → Array Bool → Array Bool
  | 0, _, listed => listed
  | g + 1, k, listed => setAll g (k + 1) (listed.setIfInBounds k true)

theorem wpAny_head {P : Program} {ops : Array Oper} {T : Act → World → Prop} {Q : Exit → Act → World → Prop} {r : Nat} : ∀ (l : List Oper) (k : Nat) (listed : Array Bool) (a : Act) (w : World), (∀ j, j < l.length → l[j]? = ops[k + j]?) →
    headB ops l.length k listed = true → (∀ a w, T a w → wpAny P .any ops Q r (setAll l.length k listed) a w) → wpList P ops (Then T Q) l a w → wpAny P .any ops Q (l.length + r) listed a w
  | [], _, _, _, _, _, _, hT, h => by
    simp only [List.length_nil, Nat.zero_add]
    exact hT _ _ h
  | o :: l, k, listed, a, w, hl, hB, hT, h => by
    have h0 : ops[k]? = some o := by have := hl 0 (by simp); simpa using this.symm
    simp only [List.length_cons, headB, Bool.and_eq_true, decide_eq_true_eq] at hB
    have e : (o :: l).length + r = (l.length + r) + 1 := by simp only [List.length_cons]; omega
    rw [e]
    refine ⟨fun h1 => (by rw [hB.1] at h1; cases h1), fun i hi => ?_⟩
    rw [hB.1] at hi
    have hik : i = k := by simpa using hi
    subst hik
    have hw : wpOp P ops (Then T Q) i (wpList P ops (Then T Q) l) a w := by unfold wpOp; simp only [h0]; exact h
    exact wpOp_Q then_Q (wpOp_mono (fun a' w' h' => wpAny_head l (i + 1) _ a' w' (fun j hj => by have := hl (j + 1) (by simp; omega); simpa [Nat.add_assoc, Nat.add_comm 1 j] using this) hB.2 hT h') hw)

theorem wp_region_head_quiet {P : Program} {id : Nat} {Q : Exit → Act → World → Prop} {a : Act} {w : World} {l : List Oper} (n : Nat) (hm : P.follows .mixedOrders = true) (hs : Region.noSelect l.toArray = true)
    (hH : headB l.toArray (l.take n).length 0 (Array.replicate l.toArray.size false) = true) (hL : Region.lexFrom .any l.toArray (l.drop n).length n (setAll (l.take n).length 0 (Array.replicate l.toArray.size false)) = true) (hn : n ≤ l.length)
    (h : wpList P l.toArray (Then (fun a' w' => wpQuiet P l.toArray (fun x => ∃ m, x = w'.drewN m) (fun a'' => ∀ x, (∃ m, x = w'.drewN m) → Q .normal a'' x) (l.drop n) a') Q) (l.take n) a { w with drawn := w.drawn + 1 }) : (Code.region id l.toArray true).wp P Q a w := by
  have htl : (l.take n).length = n := by rw [List.length_take]; omega
  refine wp_region_any hm ?_
  have H := wpAny_head (Q := Q) (r := (l.drop n).length) (l.take n) 0 (Array.replicate l.toArray.size false) a { w with drawn := w.drawn + 1 } (fun j hj => by
    rw [htl] at hj
    simp [hj]) hH (fun a' w' h' => ?_) h
  · have e : (l.take n).length + (l.drop n).length = l.toArray.size := by rw [htl, List.length_drop]; simp; omega
    rw [e] at H
    exact H
  · refine wpAny_of_quiet (C := fun x => ∃ m, x = w'.drewN m) (Q := fun a'' => ∀ x, (∃ m, x = w'.drewN m) → Q .normal a'' x) (fun a w hw h => h w hw) _ _ _ _ ⟨0, rfl⟩ ?_
    exact wpAnyQ_lex hs (l.drop n) n _ _ (fun j => by simp [List.getElem?_drop]) hL h'

end Go.Proofs.YtoahfhidekmodaaDoor
