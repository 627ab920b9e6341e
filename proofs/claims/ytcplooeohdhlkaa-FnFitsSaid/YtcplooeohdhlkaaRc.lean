/- Walks: the laws' own reading of a pattern. -/
import Derived.Test.YtcplooeohdhlkaaRb
namespace Go.Proofs.Ytcplooeohdhlkaa
open Go.RowKit Pth

theorem tail_cut (c : UInt8) (r : List UInt8) : (⟨(c :: r).toArray⟩ : ByteArray).extract 1 (r.length + 1) = ⟨r.toArray⟩ := by
  rw [extract_mid]
  simp [mid]

theorem run_tail (c : UInt8) (r : List UInt8) (hr : r.length ≤ 2000) (W : World) :
    (Instr.slice 9 (.string ⟨(c :: r).toArray⟩) (some (.int .i64 1)) none none).run Try.prog W = .ok (.string ⟨r.toArray⟩) W := by
  have h := tail_cut c r
  go_simp
  intro h'
  omega

set_option maxRecDepth 20000 in
set_option maxHeartbeats 4000000 in
theorem fitted_any (n : Nat) : ∀ (p s : List UInt8) (w : World), p.length + s.length = n → n ≤ 2000 →
    Calls Try.prog 19 #[.string ⟨p.toArray⟩, .string ⟨s.toArray⟩] w fun e w' => e = .returned (.bool (fitM p s)) ∧ ∃ n, w' = w.drewN n := by
  induction n using Nat.strongRecOn with
  | ind n ih =>
    intro p s w hn hb
    have IH := Lib.hid ih
    clear ih
    cases p with
    | nil =>
      rcases s with _ | ⟨d, r⟩
      · have HT := Lib.hid (fitM_nil [])
        go_enter Try.func19, Try.ntmps19
        go_wp2_with fail
        go_ret
        exact ⟨ret_bool HT.out.symm, 0, rfl⟩
      · have HT := Lib.hid (fitM_nil (d :: r))
        go_enter Try.func19, Try.ntmps19
        go_wp2_with fail
        go_ret
        exact ⟨ret_bool HT.out.symm, 0, rfl⟩
    | cons c q =>
      have hq : q.length ≤ 2000 := by simp at hn; omega
      have hcq := run_tail c q hq
      have h0 : ∀ h, ((⟨(c :: q).toArray⟩ : ByteArray)[0]'h) = c := fun _ => rfl
      by_cases h42 : c = 42
      · subst h42
        have c1 : (((42 : UInt8).toNat : Int) == 42) = true := rfl
        rcases hA : fitM q s with _ | _
        · rcases s with _ | ⟨d, r⟩
          · have HT := Lib.hid ((fitM_star_nil q).trans hA)
            have C10 := fun W => IH.out _ (by (try simp only [List.length_cons, List.length_nil] at hn ⊢); omega) q [] W rfl (by (try simp only [List.length_cons, List.length_nil] at hn ⊢); omega)
            rw [hA] at C10
            have C1 := Lib.hid C10
            clear C10
            go_enter Try.func19, Try.ntmps19
            go_wp2_with fail
            refine (C1.out _).mono ?_
            rintro e x0 ⟨rfl, n0, rfl⟩
            go_wp2_with fail
            go_ret
            exact ⟨ret_bool HT.out.symm, n0, rfl⟩
          · have hr : r.length ≤ 2000 := by simp at hn; omega
            have hcr := run_tail d r hr
            have h1 : ∀ h, ((⟨(d :: r).toArray⟩ : ByteArray)[0]'h) = d := fun _ => rfl
            have hT := fitM_star q d r
            rw [hA, Bool.false_or] at hT
            have C10 := fun W => IH.out _ (by (try simp only [List.length_cons, List.length_nil] at hn ⊢); omega) q (d :: r) W rfl (by (try simp only [List.length_cons, List.length_nil] at hn ⊢); omega)
            rw [hA] at C10
            have C1 := Lib.hid C10
            clear C10
            clear hA
            by_cases h47 : d = 47
            · subst h47
              have HT : Hid (fitM (42 :: q) (47 :: r) = false) := hT
              have d1 : (((47 : UInt8).toNat : Int) != 47) = false := rfl
              clear hT
              go_enter Try.func19, Try.ntmps19
              go_wp2_with fail
              refine (C1.out _).mono ?_
              rintro e x0 ⟨rfl, n0, rfl⟩
              go_wp2_with fail
              go_ret
              exact ⟨ret_bool HT.out.symm, n0, rfl⟩
            · have d1 : ((d.toNat : Int) != 47) = true := by simp; intro h; exact h47 (UInt8.toNat_inj.1 (by show d.toNat = 47; omega))
              rw [beq_eq_false_iff_ne.2 h47, Bool.not_false, Bool.true_and] at hT
              have HT := Lib.hid hT
              have C2 := Lib.hid (fun W => IH.out _ (by (try simp only [List.length_cons, List.length_nil] at hn ⊢); omega) (42 :: q) r W rfl (by (try simp only [List.length_cons, List.length_nil] at hn ⊢); omega))
              clear hT
              go_enter Try.func19, Try.ntmps19
              go_wp2_with fail
              refine (C1.out _).mono ?_
              rintro e x0 ⟨rfl, n0, rfl⟩
              go_wp2_with fail
              refine (C2.out _).mono ?_
              rintro e x1 ⟨rfl, n1, rfl⟩
              go_wp2_with fail
              go_ret
              exact ⟨ret_bool HT.out.symm, n0 + n1, rfl⟩
        · have HT := Lib.hid (fitM_skip q s hA)
          have C10 := fun W => IH.out _ (by (try simp only [List.length_cons, List.length_nil] at hn ⊢); omega) q s W rfl (by (try simp only [List.length_cons, List.length_nil] at hn ⊢); omega)
          rw [hA] at C10
          have C1 := Lib.hid C10
          clear C10
          clear hA
          go_enter Try.func19, Try.ntmps19
          go_wp2_with fail
          refine (C1.out _).mono ?_
          rintro e x0 ⟨rfl, n0, rfl⟩
          go_wp2_with fail
          go_ret
          exact ⟨ret_bool HT.out.symm, n0, rfl⟩
      · have c1 : ((c.toNat : Int) == 42) = false := by simp; intro h; exact h42 (UInt8.toNat_inj.1 (by show c.toNat = 42; omega))
        rcases s with _ | ⟨d, r⟩
        · have HT := Lib.hid (fitM_none q h42)
          by_cases h37 : c = 37
          · subst h37
            have c2 : (((37 : UInt8).toNat : Int) == 37) = true := rfl
            go_enter Try.func19, Try.ntmps19
            go_wp2_with fail
            go_quiet (fail)
            go_wp2_with fail
            go_ret
            exact ⟨ret_bool HT.out.symm, _, rfl⟩
          · have c2 : ((c.toNat : Int) == 37) = false := by simp; intro h; exact h37 (UInt8.toNat_inj.1 (by show c.toNat = 37; omega))
            by_cases h63 : c = 63
            · subst h63
              have c3 : (((63 : UInt8).toNat : Int) == 63) = true := rfl
              go_enter Try.func19, Try.ntmps19
              go_wp2_with fail
              go_quiet (fail)
              go_wp2_with fail
              go_ret
              exact ⟨ret_bool HT.out.symm, _, rfl⟩
            · have c3 : ((c.toNat : Int) == 63) = false := by simp; intro h; exact h63 (UInt8.toNat_inj.1 (by show c.toNat = 63; omega))
              go_enter Try.func19, Try.ntmps19
              go_wp2_with fail
              go_quiet (fail)
              go_wp2_with fail
              go_ret
              exact ⟨ret_bool HT.out.symm, _, rfl⟩
        · have hr : r.length ≤ 2000 := by simp at hn; omega
          have hcr := run_tail d r hr
          have h1 : ∀ h, ((⟨(d :: r).toArray⟩ : ByteArray)[0]'h) = d := fun _ => rfl
          by_cases h37 : c = 37
          · subst h37
            have c2 : (((37 : UInt8).toNat : Int) == 37) = true := rfl
            have hT := fitM_stem q d r
            rcases hA : fitM q r with _ | _
            · rw [hA, Bool.false_or] at hT
              have HT := Lib.hid hT
              have C10 := fun W => IH.out _ (by (try simp only [List.length_cons, List.length_nil] at hn ⊢); omega) q r W rfl (by (try simp only [List.length_cons, List.length_nil] at hn ⊢); omega)
              rw [hA] at C10
              have C1 := Lib.hid C10
              clear C10
              have C2 := Lib.hid (fun W => IH.out _ (by (try simp only [List.length_cons, List.length_nil] at hn ⊢); omega) (37 :: q) r W rfl (by (try simp only [List.length_cons, List.length_nil] at hn ⊢); omega))
              clear hT hA
              go_enter Try.func19, Try.ntmps19
              go_wp2_with fail
              go_quiet (first
                | (go_at_call_of 19 (Value.string ⟨q.toArray⟩); exact Calls.quiet_of (C1.out _))
                | (go_at_call 19; exact Calls.quiet_of (C2.out _)))
              go_wp2_with fail
              go_ret
              exact ⟨ret_bool HT.out.symm, _, rfl⟩
            · rw [hA, Bool.true_or] at hT
              have HT := Lib.hid hT
              have C10 := fun W => IH.out _ (by (try simp only [List.length_cons, List.length_nil] at hn ⊢); omega) q r W rfl (by (try simp only [List.length_cons, List.length_nil] at hn ⊢); omega)
              rw [hA] at C10
              have C1 := Lib.hid C10
              clear C10
              clear hT hA
              go_enter Try.func19, Try.ntmps19
              go_wp2_with fail
              go_quiet (first
                | (go_at_call 19; exact Calls.quiet_of (C1.out _)))
              go_wp2_with fail
              go_ret
              exact ⟨ret_bool HT.out.symm, _, rfl⟩
          · have c2 : ((c.toNat : Int) == 37) = false := by simp; intro h; exact h37 (UInt8.toNat_inj.1 (by show c.toNat = 37; omega))
            by_cases h63 : c = 63
            · subst h63
              have c3 : (((63 : UInt8).toNat : Int) == 63) = true := rfl
              have hT := fitM_one q d r
              by_cases h47 : d = 47
              · subst h47
                have HT : Hid (fitM (63 :: q) (47 :: r) = false) := hT
                have d1 : (((47 : UInt8).toNat : Int) != 47) = false := rfl
                clear hT
                go_enter Try.func19, Try.ntmps19
                go_wp2_with fail
                go_quiet (fail)
                go_wp2_with fail
                go_ret
                exact ⟨ret_bool HT.out.symm, _, rfl⟩
              · have d1 : ((d.toNat : Int) != 47) = true := by simp; intro h; exact h47 (UInt8.toNat_inj.1 (by show d.toNat = 47; omega))
                rw [beq_eq_false_iff_ne.2 h47, Bool.not_false, Bool.true_and] at hT
                have HT := Lib.hid hT
                have C2 := Lib.hid (fun W => IH.out _ (by (try simp only [List.length_cons, List.length_nil] at hn ⊢); omega) q r W rfl (by (try simp only [List.length_cons, List.length_nil] at hn ⊢); omega))
                clear hT
                go_enter Try.func19, Try.ntmps19
                go_wp2_with fail
                go_quiet (first
                  | (go_at_call 19; exact Calls.quiet_of (C2.out _)))
                go_wp2_with fail
                go_ret
                exact ⟨ret_bool HT.out.symm, _, rfl⟩
            · have c3 : ((c.toNat : Int) == 63) = false := by simp; intro h; exact h63 (UInt8.toNat_inj.1 (by show c.toNat = 63; omega))
              have hT := fitM_same q d r h42 h37 h63
              by_cases hdc : d = c
              · subst hdc
                have d1 : ((d.toNat : Int) == (d.toNat : Int)) = true := by simp
                rw [beq_self_eq_true, Bool.true_and] at hT
                have HT := Lib.hid hT
                have C2 := Lib.hid (fun W => IH.out _ (by (try simp only [List.length_cons, List.length_nil] at hn ⊢); omega) q r W rfl (by (try simp only [List.length_cons, List.length_nil] at hn ⊢); omega))
                clear hT
                go_enter Try.func19, Try.ntmps19
                go_wp2_with fail
                go_quiet (first
                  | (go_at_call 19; exact Calls.quiet_of (C2.out _)))
                go_wp2_with fail
                go_ret
                exact ⟨ret_bool HT.out.symm, _, rfl⟩
              · have d1 : ((d.toNat : Int) == (c.toNat : Int)) = false := by simp; intro h; exact hdc (UInt8.toNat_inj.1 (by omega))
                rw [beq_eq_false_iff_ne.2 hdc, Bool.false_and] at hT
                have HT := Lib.hid hT
                clear hT
                go_enter Try.func19, Try.ntmps19
                go_wp2_with fail
                go_quiet (fail)
                go_wp2_with fail
                go_ret
                exact ⟨ret_bool HT.out.symm, _, rfl⟩

end Go.Proofs.Ytcplooeohdhlkaa
