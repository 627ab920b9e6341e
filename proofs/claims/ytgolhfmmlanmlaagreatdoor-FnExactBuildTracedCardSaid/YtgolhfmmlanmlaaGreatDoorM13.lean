/- Texts of one claim, joined in their order. -/
import Derived.Sort.LotA
import Derived.Laws.IdiomStrings
import Derived.Deep.RegionWith
import Derived.Defers
import Derived.Recover
import Derived.Laws.Pointers
import Derived.Test.YtgolhfmmlanmlaaGreatDoorM12
import Derived.Test.YtgolhfmmlanmlaaGreatDoorM2
import Derived.Test.YtgolhfmmlanmlaaGreatDoorM5
import Derived.Test.YtgolhfmmlanmlaaGreatDoorM7
import Derived.Test.YtgolhfmmlanmlaaGreatDoorM11

/- Walks: the library's sort at bytes: the whole of it. -/
namespace Go.Proofs.YtgolhfmmlanmlaaGreatDoor
open Go.RowKit Pth

/-- What is in order between a' and b' makes all between a and b so. -/
def Fin8 (a b : Nat) (d : Array UInt8) (a' b' : Nat) (dk : Array UInt8) : Prop := ∀ R, Sort.PermIn a' b' dk R → Sort.SortedIn ltB a' b' R → Sort.PermIn a b d R ∧ Sort.SortedIn ltB a b R
theorem Fin8.perm {a b a' b' : Nat} {d dk d2 : Array UInt8} (h : Fin8 a b d a' b' dk) (hp : Sort.PermIn a' b' dk d2) : Fin8 a b d a' b' d2 := fun R hR hs => h R (Sort.permIn_trans _ _ _ a' b' hp hR) hs
/-- All between a and b, in order. -/
def PdqPost (g : Nat) (tl : List Value) (d : Array UInt8) (a b : Nat) (w : World) (e : Ending) (w' : World) : Prop :=
  ∃ d' : Array UInt8, e = .returned (.tuple #[]) ∧ Sort.PermIn a b d d' ∧ Sort.SortedIn ltB a b d' ∧ SB g tl d' w' ∧ On g w w'
/-- What goes on from round to round. -/
structure Rd8 (g : Nat) (tl : List Value) (n a b : Nat) (d : Array UInt8) (w : World) (a' b' : Nat) (dk : Array UInt8) (wr : World) : Prop where
  sz : dk.size = n
  bel : Sort.Below ltB a' b' dk
  sb : SB g tl dk wr
  on : On g w wr
  fin : Fin8 a b d a' b' dk
theorem Rd8.step {g : Nat} {tl : List Value} {n a b : Nat} {d : Array UInt8} {w : World} {a' b' : Nat} {dk d2 : Array UInt8} {wr w2 : World} (h : Rd8 g tl n a b d w a' b' dk wr) (hb : b' ≤ n) (hp : Sort.PermIn a' b' dk d2) (hs : SB g tl d2 w2) (ho : On g wr w2) : Rd8 g tl n a b d w a' b' d2 w2 :=
  ⟨hp.1.trans h.sz, h.bel.perm (by rw [h.sz]; exact hb) hp, hs, h.on.trans ho, h.fin.perm hp⟩
theorem Rd8.same {g : Nat} {tl : List Value} {n a b : Nat} {d : Array UInt8} {w : World} {a' b' : Nat} {dk : Array UInt8} {wr w2 : World} (h : Rd8 g tl n a b d w a' b' dk wr) (hs : SB g tl dk w2) (ho : On g wr w2) : Rd8 g tl n a b d w a' b' dk w2 :=
  ⟨h.sz, h.bel, hs, h.on.trans ho, h.fin⟩
theorem Rd8.drewN {g : Nat} {tl : List Value} {n a b : Nat} {d : Array UInt8} {w : World} {a' b' : Nat} {dk : Array UInt8} {wr : World} (h : Rd8 g tl n a b d w a' b' dk wr) (k : Nat) : Rd8 g tl n a b d w a' b' dk (wr.drewN k) :=
  h.same h.sb ((On.refl g wr).drewN k)
theorem Rd8.done {g : Nat} {tl : List Value} {n a b : Nat} {d : Array UInt8} {w : World} {a' b' : Nat} {dk d2 : Array UInt8} {wr w2 : World} (h : Rd8 g tl n a b d w a' b' dk wr) (hp : Sort.PermIn a' b' dk d2) (hs : Sort.SortedIn ltB a' b' d2) (hb : SB g tl d2 w2) (ho : On g wr w2) : PdqPost g tl d a b w (.returned (.tuple #[])) w2 :=
  ⟨d2, rfl, (h.fin d2 hp hs).1, (h.fin d2 hp hs).2, hb, h.on.trans ho⟩
theorem Rd8.eqs {g : Nat} {tl : List Value} {n a b : Nat} {d : Array UInt8} {w : World} {a' b' pv mid : Nat} {dk d4 : Array UInt8} {wr w2 : World} (h : Rd8 g tl n a b d w a' b' dk wr) (hb : b' ≤ n) (h0 : 0 < a') (h1 : a' ≤ pv) (h2 : pv < b') (hl : ltB dk[a' - 1]! dk[pv]! = false) (hx : Sort.partitionEqual ltB dk a' b' pv = (mid, d4)) (hs : SB g tl d4 w2) (ho : On g wr w2) :
    a' < mid ∧ mid ≤ b' ∧ Rd8 g tl n a b d w mid b' d4 w2 := by
  obtain ⟨r1, r2, r3, r4, r5⟩ := Sort.round_eq swo8 (Sort.partitionEqual_holds ltB) h0 h1 h2 (by rw [h.sz]; exact hb) h.bel hl hx
  exact ⟨r1, r2, r3.trans h.sz, r4, hs, h.on.trans ho, fun R hR hsR => h.fin R (r5 R hR hsR).1 (r5 R hR hsR).2⟩
theorem Rd8.parts {g : Nat} {tl : List Value} {n a b : Nat} {d : Array UInt8} {w : World} {a' b' pv mid : Nat} {ap : Bool} {dk d4 : Array UInt8} {wr w2 : World} (h : Rd8 g tl n a b d w a' b' dk wr) (hb : b' ≤ n) (h1 : a' ≤ pv) (h2 : pv < b') (hx : Sort.partition ltB dk a' b' pv = (mid, ap, d4)) (_hs : SB g tl d4 w2) (ho : On g wr w2) :
    a' ≤ mid ∧ mid < b' ∧ d4.size = n ∧ Sort.Below ltB a' mid d4 ∧ Sort.Below ltB (mid + 1) b' d4 ∧
    (∀ w3, PdqPost g tl d4 a' mid w2 (.returned (.tuple #[])) w3 → ∃ L, Rd8 g tl n a b d w (mid + 1) b' L w3) ∧
    (∀ w3, PdqPost g tl d4 (mid + 1) b' w2 (.returned (.tuple #[])) w3 → ∃ L, Rd8 g tl n a b d w a' mid L w3) := by
  obtain ⟨r1, r2, r3, r4, r5, r6, r7⟩ := Sort.round_part swo8 (Sort.partition_holds ltB) h1 h2 (by rw [h.sz]; exact hb) h.bel hx
  refine ⟨r1, r2, r3.trans h.sz, r4, r5, ?_, ?_⟩
  · rintro w3 ⟨L, _, p1, p2, p3, p4⟩
    obtain ⟨q1, q2⟩ := r6 L p1 p2
    exact ⟨L, p1.1.trans (r3.trans h.sz), q1, p3, h.on.trans (ho.trans p4), fun R hR hsR => h.fin R (q2 R hR hsR).1 (q2 R hR hsR).2⟩
  · rintro w3 ⟨L, _, p1, p2, p3, p4⟩
    obtain ⟨q1, q2⟩ := r7 L p1 p2
    exact ⟨L, p1.1.trans (r3.trans h.sz), q1, p3, h.on.trans (ho.trans p4), fun R hR hsR => h.fin R (q2 R hR hsR).1 (q2 R hR hsR).2⟩
theorem Rd8.partsP {g : Nat} {tl : List Value} {n a b : Nat} {d : Array UInt8} {w : World} {a' b' pv : Nat} {dk : Array UInt8} {wr w2 : World} {e : Ending} (h : Rd8 g tl n a b d w a' b' dk wr) (hb : b' ≤ n) (h1 : a' ≤ pv) (h2 : pv < b') (hp : PartsPost g tl dk a' b' pv wr e w2) :
    ∃ (mid : Nat) (ap : Bool) (d4 : Array UInt8), e = .returned (.tuple #[.int .i64 mid, .bool ap]) ∧ a' ≤ mid ∧ mid < b' ∧ Hid (d4.size = n) ∧ Hid (Sort.Below ltB a' mid d4) ∧ Hid (Sort.Below ltB (mid + 1) b' d4) ∧
    Hid (∀ w3, PdqPost g tl d4 a' mid w2 (.returned (.tuple #[])) w3 → ∃ L, Rd8 g tl n a b d w (mid + 1) b' L w3) ∧
    Hid (∀ w3, PdqPost g tl d4 (mid + 1) b' w2 (.returned (.tuple #[])) w3 → ∃ L, Rd8 g tl n a b d w a' mid L w3) ∧ Hid (SB g tl d4 w2) := by
  obtain ⟨mid, ap, d4, hx, he, hs, ho⟩ := hp
  obtain ⟨r1, r2, r3, r4, r5, r6, r7⟩ := h.parts hb h1 h2 hx hs ho
  exact ⟨mid, ap, d4, he, r1, r2, r3, r4, r5, r6, r7, hs⟩
theorem Rd8.ins {g : Nat} {tl : List Value} {n a b : Nat} {d : Array UInt8} {w : World} {a' b' : Nat} {dk : Array UInt8} {wr w2 : World} {e : Ending} (h : Rd8 g tl n a b d w a' b' dk wr) (hab : a' ≤ b') (hb : b' ≤ n) (hp : SPost g tl (Sort.insertionSort ltB dk a' b') wr e w2) : e = .returned (.tuple #[]) ∧ PdqPost g tl d a b w (.returned (.tuple #[])) w2 := by
  obtain ⟨rfl, hs, ho⟩ := hp
  obtain ⟨q1, q2⟩ := Sort.insertionSort_holds swo8 dk a' b' hab (by rw [h.sz]; exact hb)
  exact ⟨rfl, h.done q1 q2 hs ho⟩
theorem Rd8.heap {g : Nat} {tl : List Value} {n a b : Nat} {d : Array UInt8} {w : World} {a' b' : Nat} {dk : Array UInt8} {wr w2 : World} {e : Ending} (h : Rd8 g tl n a b d w a' b' dk wr) (hab : a' ≤ b') (hb : b' ≤ n) (hp : SPost g tl (Sort.heapSort ltB dk a' b') wr e w2) : e = .returned (.tuple #[]) ∧ PdqPost g tl d a b w (.returned (.tuple #[])) w2 := by
  obtain ⟨rfl, hs, ho⟩ := hp
  obtain ⟨q1, q2⟩ := Sort.heapSort_holds swo8 dk a' b' hab (by rw [h.sz]; exact hb)
  exact ⟨rfl, h.done q1 q2 hs ho⟩
theorem Rd8.rev {g : Nat} {tl : List Value} {n a b : Nat} {d : Array UInt8} {w : World} {a' b' : Nat} {dk : Array UInt8} {wr w2 : World} {e : Ending} (h : Rd8 g tl n a b d w a' b' dk wr) (hab : a' ≤ b') (hb : b' ≤ n) (hp : SPost g tl (Sort.reverseRange dk a' b') wr e w2) : e = .returned (.tuple #[]) ∧ ∃ d2, Rd8 g tl n a b d w a' b' d2 w2 := by
  obtain ⟨rfl, hs, ho⟩ := hp
  have q1 := Sort.reverseRange_holds dk a' b' hab (by rw [h.sz]; exact hb)
  exact ⟨rfl, _, h.step hb q1 hs ho⟩
theorem Rd8.brk {g : Nat} {tl : List Value} {n a b : Nat} {d : Array UInt8} {w : World} {a' b' : Nat} {dk : Array UInt8} {wr w2 : World} {e : Ending} (h : Rd8 g tl n a b d w a' b' dk wr) (hb : b' ≤ n) (hp : BrkPost g tl dk a' b' wr e w2) : e = .returned (.tuple #[]) ∧ ∃ d2, Rd8 g tl n a b d w a' b' d2 w2 := by
  obtain ⟨d2, rfl, hpp, hs, ho⟩ := hp
  exact ⟨rfl, _, h.step hb hpp hs ho⟩

end Go.Proofs.YtgolhfmmlanmlaaGreatDoor

/- Walks: the library's sort at bytes: round by round. -/
namespace Go.Proofs.YtgolhfmmlanmlaaGreatDoor
open Go.RowKit Pth

set_option maxRecDepth 20000 in
set_option maxHeartbeats 4000000 in
theorem pdq8 (g : Nat) (tl : List Value) (n cap : Nat) (hc : n ≤ cap) (hN : n < 50) : ∀ (N a b limit : Nat) (d : Array UInt8) (w : World), b - a < N → SB g tl d w → d.size = n → a ≤ b → b ≤ n → limit ≤ 1000 → Sort.Below ltB a b d →
    Calls Tryz.prog 172 #[.slice (some ⟨g, 0, none⟩) n cap, .int .i64 a, .int .i64 b, .int .i64 limit] w (PdqPost g tl d a b w) := by
  intro N
  induction N with
  | zero => intro _ _ _ _ _ h; exact absurd h (Nat.not_lt_zero _)
  | succ N ih =>
  have IH := Lib.hid ih
  clear ih
  intro a b limit d w hNb h hsz hab hb hlimit hBel0
  have HR0 := Lib.hid (Rd8.mk (w := w) (a := a) (b := b) (d := d) hsz hBel0 h (On.refl g w) (fun R h1 h2 => ⟨h1, h2⟩))
  clear h hsz hBel0
  go_enter Tryz.func172, Tryz.ntmps172
  go_wp2_with fail
  go_loopw [1, 2, 3, 8, 9] (fun s1 s2 s3 s8 s9 wr => ∃ (a' b' lim : Nat) (wb wp : Bool) (dk : Array UInt8), s1 = .int .i64 a' ∧ s2 = .int .i64 b' ∧ s3 = .int .i64 lim ∧ s8 = .bool wb ∧ s9 = .bool wp ∧
      a' ≤ b' ∧ b' ≤ n ∧ b' - a' ≤ b - a ∧ lim ≤ limit ∧ Hid (Rd8 g tl n a b d w a' b' dk wr)) (fun p q _ _ _ _ => (intOf q - intOf p).toNat)
  case atStart => exact ⟨a, b, limit, true, true, d, rfl, rfl, rfl, rfl, rfl, hab, hb, Nat.le_refl _, Nat.le_refl _, HR0⟩
  case round =>
    clear HR0
    obtain ⟨a', b', lim, wb, wp, dk, rfl, rfl, rfl, rfl, rfl, hab', hb', hk, hlim, HR⟩ := hrel
    by_cases h12 : b' - a' ≤ 12
    · have h12z : (b' : Int) - (a' : Int) ≤ 12 := by omega
      have HC := Lib.hid (insertion8 g tl dk n cap a' b' wr HR.out.sb HR.out.sz hc hb' (by omega) (by omega))
      go_wp2_with (go_at_call 174; refine HC.out.mono ?_; intro e w1 hp; obtain ⟨rfl, hpp⟩ := HR.out.ins hab' hb' hp)
      (try simp only [Exit.inBlock, Exit.then]); refine bodyPost_ret (results_none rfl _ _ _) rfl ?_
      exact hpp
    have h12z : ¬ ((b' : Int) - (a' : Int) ≤ 12) := by omega
    by_cases hl0 : lim = 0
    · subst hl0
      have HC := Lib.hid (heap8 g tl dk n cap a' b' wr HR.out.sb HR.out.sz hc hb' (by omega) (by omega))
      go_wp2_with (go_at_call 175; refine HC.out.mono ?_; intro e w1 hp; obtain ⟨rfl, hpp⟩ := HR.out.heap hab' hb' hp)
      (try simp only [Exit.inBlock, Exit.then]); refine bodyPost_ret (results_none rfl _ _ _) rfl ?_
      exact hpp
    have hl0z : ¬ ((lim : Int) = 0) := by omega
    go_upto_if 35 with fail
    go_cut [3] from 19 (fun s3 wx => ∃ (li : Nat) (d1 : Array UInt8), s3 = .int .i64 li ∧ li ≤ limit ∧ Hid (Rd8 g tl n a b d w a' b' d1 wx))
    case first =>
      rcases wb with _ | _
      · have HC := Lib.hid (break8 g tl dk n cap a' b' wr HR.out.sb HR.out.sz hc hb' (by omega) (by omega) (by omega))
        go_wp2_with (go_at_call 176; refine HC.out.mono ?_; intro e w1 hp; obtain ⟨rfl, d2, hp⟩ := HR.out.brk hb' hp)
        go_meet
        case rel => exact ⟨lim - 1, d2, by congr 1; omega, by omega, hp⟩
      · go_wp2_with fail
        go_meet
        case rel => exact ⟨lim, dk, rfl, hlim, HR⟩
    case rest =>
    obtain ⟨li, d1, rfl, hli, HR1⟩ := hcut
    clear HR
    have HC := Lib.hid (pivot8 g tl d1 n cap a' b' wc HR1.out.sb HR1.out.sz hc hb' (by omega) (by omega) (by omega))
    go_upto_if 50 with (go_at_call 177; refine HC.out.mono ?_; rintro e w2 ⟨p, q, hp1, hp2, hq, rfl, hs, ho⟩)
    have HR2 := Lib.hid (HR1.out.same hs ho)
    clear HR1 HC hs ho
    go_cut [11, 12] from 19 (fun s11 s12 wx => ∃ (pv q : Nat) (d2 : Array UInt8), s11 = .int .i64 pv ∧ s12 = .int .i64 q ∧ a' ≤ pv ∧ pv < b' ∧ q ≤ 2 ∧ Hid (Rd8 g tl n a b d w a' b' d2 wx))
    case first =>
      by_cases hq2 : q = 2
      · subst hq2
        have HC := Lib.hid (reverse8 g tl d1 n cap a' b' w2 HR2.out.sb HR2.out.sz hc hb' (by omega) (by omega))
        go_wp2_with (go_at_call 178; refine HC.out.mono ?_; intro e w1 hp; obtain ⟨rfl, d2, hp⟩ := HR2.out.rev hab' hb' hp)
        go_meet
        case rel => exact ⟨b' - 1 - (p - a'), 1, d2, by congr 1; omega, rfl, by omega, by omega, by omega, hp⟩
      · have hq2z : ¬ ((q : Int) = 2) := by omega
        go_wp2_with fail
        go_meet
        case rel => exact ⟨p, q, d1, rfl, rfl, hp1, hp2, hq, HR2⟩
    case rest =>
    clear HR2 hp1 hp2 hq
    obtain ⟨pv, q, d2, rfl, rfl, hp1, hp2, hq, HR3⟩ := hcut
    clear p
    go_upto_region 15 with fail
    go_cut [12, 68] from 19 (fun s12 s68 wx => s12 = .int .i64 q ∧ ∃ r : Bool, s68 = .bool r ∧ Hid (Rd8 g tl n a b d w a' b' d2 wx))
    case first =>
      by_cases hq1 : q = 1
      · subst hq1
        rcases wb with _ | _ <;> rcases wp with _ | _ <;>
          (go_wp2_with fail
           go_meet
           exact ⟨rfl, _, rfl, HR3⟩)
      · have hq1z : ¬ ((q : Int) = 1) := by omega
        rcases wb with _ | _ <;> rcases wp with _ | _ <;>
          (go_wp2_with fail
           go_meet
           exact ⟨rfl, _, rfl, HR3⟩)
    case rest =>
    clear HR3
    obtain ⟨rfl, r, rfl, HR4⟩ := hcut
    go_upto_if 68 with fail
    go_cut [] from 19 (fun wx => Hid (Rd8 g tl n a b d w a' b' d2 wx))
    case first =>
      rcases r with _ | _
      · go_wp2_with fail
        go_meet
        case rel => exact HR4
      · have HC := Lib.hid (partial8 g tl d2 n cap a' b' wc HR4.out.sb HR4.out.sz hc hb' (by omega) (by omega) (by omega))
        go_wp2_with (go_at_call 179; refine HC.out.mono ?_; rintro e w4 ⟨x, rfl, hx, hs, ho⟩; rcases x with _ | _)
        · go_meet
          exact HR4.out.same hs ho
        · (try simp only [Exit.inBlock, Exit.then]); refine bodyPost_ret (results_none rfl _ _ _) rfl ?_
          exact HR4.out.done (Sort.permIn_refl _ _ _) (hx trivial) hs ho
    case rest =>
    clear HR4
    have HR5 := Lib.hid hcut
    clear hcut
    go_upto_region 17 with fail
    go_cut [87] from 19 (fun s87 wx => ∃ t : Bool, s87 = .bool t ∧ Hid (t = true → 0 < a' ∧ ltB d2[a' - 1]! d2[pv]! = false) ∧ Hid (Rd8 g tl n a b d w a' b' d2 wx))
    case first =>
      rcases Nat.eq_zero_or_pos a' with ha0 | ha0
      · have ha0z : decide ((a' : Int) > 0) = false := decide_eq_false (by omega)
        go_wp2_with fail
        go_quiet (fail)
        go_wp2_with fail
        go_meet
        case rel => exact ⟨false, rfl, (fun h => by cases h), HR5.out.drewN _⟩
      · obtain ⟨m, rfl⟩ : ∃ m, a' = m + 1 := ⟨a' - 1, by omega⟩
        have ha0z : decide (((m : Int) + 1) > 0) = true := decide_eq_true (by omega)
        have c1 := HR5.out.sb.cell (i := m) (by rw [HR5.out.sz]; omega)
        have c0 := HR5.out.sb.cell (i := pv) (by rw [HR5.out.sz]; omega)
        obtain ⟨lb, hlb⟩ : ∃ lb, ltB d2[m]! d2[pv]! = lb := ⟨_, rfl⟩
        have HL := Lib.hid (fun W => less_q hlb W)
        have HT : Hid ((!lb) = true → 0 < m + 1 ∧ ltB d2[m + 1 - 1]! d2[pv]! = false) := fun h => ⟨by omega, by rw [show m + 1 - 1 = m by omega, hlb]; simpa using h⟩
        have hx0 : (m : Int) < (n : Int) := by omega
        have hxp : (pv : Int) < (n : Int) := by omega
        have hw1 : IntKind.i64.wrap (m : Int) = (m : Int) := IntWalk.i64_in _ (by omega)
        obtain ⟨x, hxe⟩ : ∃ x, x = d2[m]! := ⟨_, rfl⟩
        obtain ⟨y, hye⟩ : ∃ y, y = d2[pv]! := ⟨_, rfl⟩
        rw [← hxe] at c1 HL
        rw [← hye] at c0 HL
        clear hxe hye hlb
        go_wp2_with fail
        go_quiet ((go_at_call 180; exact Calls.quiet_of_same (HL.out _)))
        go_wp2_with fail
        go_meet
        case rel => exact ⟨!lb, rfl, HT, HR5.out.drewN _⟩
    case rest =>
    clear HR5
    obtain ⟨t, rfl, HT, HR6⟩ := hcut
    rcases t with _ | _
    · clear HT
      have HC := Lib.hid (partition8 g tl d2 n cap a' b' pv wc HR6.out.sb HR6.out.sz hc hb' (by omega) hp1 hp2 (by omega))
      go_upto_if 113 with (go_at_call 182; refine HC.out.mono ?_; intro e w7 hpq; obtain ⟨mid, ap, d4, rfl, r1, r2, R3, R4, R5, R6, R7, HS7⟩ := HR6.out.partsP hb' hp1 hp2 hpq; clear hpq)
      clear HC HR6
      by_cases h4 : mid - a' < b' - mid
      · have h4z : (mid : Int) - (a' : Int) < (b' : Int) - (mid : Int) := by omega
        have HC := Lib.hid (IH.out a' mid li d4 w7 (by omega) HS7.out R3.out (by omega) (by omega) (by omega) R4.out)
        go_wp2_with (go_at_call 172; refine HC.out.mono ?_; intro e w8 hp; obtain ⟨L, rfl, hpp⟩ := hp)
        obtain ⟨L', hr⟩ := R6.out w8 ⟨L, rfl, hpp⟩
        go_roundw
        case rel => exact ⟨mid + 1, b', li, _, ap, L', by go_num, rfl, rfl, rfl, rfl, by omega, hb', by omega, hli, hr⟩
        case measure => simp [intOf]; omega
      · have h4z : ¬ ((mid : Int) - (a' : Int) < (b' : Int) - (mid : Int)) := by omega
        have HC := Lib.hid (IH.out (mid + 1) b' li d4 w7 (by omega) HS7.out R3.out (by omega) (by omega) (by omega) R5.out)
        go_wp2_with (go_at_call 172; refine HC.out.mono ?_; intro e w8 hp; obtain ⟨L, rfl, hpp⟩ := hp)
        obtain ⟨L', hr⟩ := R7.out w8 ⟨L, rfl, hpp⟩
        go_roundw
        case rel => exact ⟨a', mid, li, _, ap, L', rfl, rfl, rfl, rfl, rfl, by omega, by omega, by omega, hli, hr⟩
        case measure => simp [intOf]; omega
    · have HC := Lib.hid (partEq8 g tl d2 n cap a' b' pv wc HR6.out.sb HR6.out.sz hc hb' (by omega) hp1 hp2 (by omega))
      go_wp2_with (go_at_call 181; refine HC.out.mono ?_; rintro e w7 ⟨mid, d4, hx, rfl, hs, ho⟩)
      obtain ⟨r1, r2, r3⟩ := HR6.out.eqs hb' (HT.out trivial).1 hp1 hp2 (HT.out trivial).2 hx hs ho
      go_roundw
      case rel => exact ⟨mid, b', li, wb, wp, d4, rfl, rfl, rfl, rfl, rfl, r2, hb', by omega, hli, r3⟩
      case measure => simp [intOf]; omega

end Go.Proofs.YtgolhfmmlanmlaaGreatDoor

/- Walks: the library's slices.Sort at bytes. -/
namespace Go.Proofs.YtgolhfmmlanmlaaGreatDoor
open Go.RowKit Pth

theorem sorted_T {d d' : Array UInt8} {n : Nat} (hn : d.size = n) (hp : Sort.PermIn 0 n d d') (hs : Sort.SortedIn ltB 0 n d') : d'.toList = sortT d.toList := by
  subst hn
  obtain ⟨hz, _, hperm⟩ := hp
  have e1 : d'.extract 0 d.size = d' := by rw [← hz]; exact Array.extract_size
  rw [e1, Array.extract_size] at hperm
  refine sortT_is hperm ?_
  rw [Sorted8, List.pairwise_iff_getElem]
  intro i j hi hj hij
  have h1 := hs i j (Nat.zero_le _) hij (by rw [← hz]; simpa using hj)
  have hi' : i < d'.size := by simpa using hi
  have hj' : j < d'.size := by simpa using hj
  simp only [getElem!_pos, hi', hj'] at h1
  simp only [ltB, decide_eq_false_iff_not, Nat.not_lt] at h1
  simpa [UInt8.le_iff_toNat_le] using h1
theorem len_small {n : Nat} (h : n < 50) : Lib.bitLen n ≤ 1000 := Nat.le_trans (Lib.bitLen_le8 ⟨n, by omega⟩) (by omega)
/-- The block holds the bytes in order. -/
def SortPost (g : Nat) (tl : List Value) (l : List UInt8) (w : World) (e : Ending) (w' : World) : Prop := e = .returned (.tuple #[]) ∧ SB g tl (sortT l).toArray w' ∧ On g w w'

set_option maxRecDepth 20000 in
set_option maxHeartbeats 1000000 in
theorem sort8 (g : Nat) (tl : List Value) (d : Array UInt8) (n cap : Nat) (w : World) (h : SB g tl d w) (hn : d.size = n) (hc : n ≤ cap) (hN : n < 50) :
    Calls Tryz.prog 170 #[.slice (some ⟨g, 0, none⟩) n cap] w (SortPost g tl d.toList w) := by
  have HC := Lib.hid (Tryz.bits_Len (n : Int) w (by omega) (by omega))
  have HB := Lib.hid (len_small hN)
  have HP := Lib.hid (fun li (hl : li ≤ 1000) => pdq8 g tl n cap hc hN (n + 1) 0 n li d w (by omega) h hn (Nat.zero_le _) (Nat.le_refl _) hl (.inl rfl))
  have HZ := Lib.hid hn
  clear h hn
  go_enter Tryz.func170, Tryz.ntmps170
  go_wp2_with fail
  refine HC.out.mono ?_
  rintro e w' ⟨rfl, rfl⟩
  have HPP := Lib.hid (HP.out _ HB.out)
  go_wp2_with fail
  refine HPP.out.mono ?_
  rintro e w' ⟨d', rfl, hp, hs, hb, ho⟩
  have hq := sorted_T HZ.out hp hs
  clear hp hs
  go_wp2_with fail
  (try simp only [Exit.inBlock, Exit.then]); refine bodyPost_ret (results_none rfl _ _ _) rfl ?_
  exact ⟨rfl, by rw [← hq]; exact hb, ho⟩

end Go.Proofs.YtgolhfmmlanmlaaGreatDoor

/- Walks: texts as bytes and back: the program's sortBytes. -/
namespace Go.Proofs.YtgolhfmmlanmlaaGreatDoor
open Go.RowKit Pth

theorem to_bytes (l : List UInt8) (w : World) : ∃ (cap : Nat) (tl : List Value) (w1 : World), (convert 9 130 (.string ⟨l.toArray⟩)).run Tryz.prog w = .ok (.slice (some ⟨w.heap.size, 0, none⟩) l.length cap) w1 ∧ l.length ≤ cap ∧ SB w.heap.size tl l.toArray w1 ∧ Below w.heap.size w w1 ∧ w1.heap.size = w.heap.size + 1 := by
  refine ⟨grownCap w l.length 0 5, (Array.replicate (grownCap w l.length 0 5 - l.length) (Value.int .u8 0)).toList, _, run_bytes_of_string (P := Tryz.prog) w 9 130 5 ⟨l.toArray⟩ Tryz.underlying9 Tryz.underlying130 Tryz.underlying5, grownCap_ge _ _ _ _, ?_, ?_, ?_⟩
  · have e : ((⟨l.toArray⟩ : ByteArray)).size = l.length := by simp [ByteArray.size]
    unfold SB
    rw [e]
    show (w.heap.push _)[w.heap.size]? = _
    rw [Array.getElem?_push_size]
    simp only [bytesRow, e]
    congr 2
    · apply Array.ext'
      simp [enc8]
    · simp
  · exact ⟨rfl, rfl, rfl, by (show w.heap.size ≤ (w.heap.push _).size; rw [Array.size_push]; omega), fun k hk => Below.heap_alloc w _ k hk⟩
  · exact Array.size_push _
theorem of_bytes {g : Nat} {tl : List Value} {d : Array UInt8} {w : World} (h : SB g tl d w) {n : Nat} (hn : d.size = n) (cap : Nat) : (convert 130 9 (.slice (some ⟨g, 0, none⟩) n cap)).run Tryz.prog w = .ok (.string ⟨d.toList.toArray⟩) w := by
  subst hn
  have := run_convert_bytes_back (P := Tryz.prog) w 130 9 5 ⟨g, 0, none⟩ cap d.toList Tryz.underlying130 Tryz.underlying5 Tryz.underlying9 (fun j hj => by
    have := h.cell (i := j) (by simpa using hj)
    have hj' : j < d.size := by simpa using hj
    simp only [getElem!_pos, hj'] at this
    have e : (⟨g, 0, none⟩ : Addr).add j = ⟨g, j, none⟩ := by
      by_cases h0 : j = 0
      · subst h0; rfl
      · simp [Addr.add, h0]
    rw [e, this]; simp)
  simpa using this
theorem below_on {w w1 w2 : World} (h : Below w.heap.size w w1) (k : On w.heap.size w1 w2) : Below w.heap.size w w2 :=
  ⟨k.os.trans h.os, k.tape.trans h.tape, k.output.trans h.output, Nat.le_trans h.size k.size, fun i hi => (k.block i (Nat.lt_of_lt_of_le hi h.size) (by simp; omega)).trans (h.block i hi)⟩
/-- This text is handed back, and only new memory is written. -/
def TextPost (t : List UInt8) (w : World) (e : Ending) (w' : World) : Prop := e = .returned (.string ⟨t.toArray⟩) ∧ Below w.heap.size w w'

set_option maxRecDepth 20000 in
set_option maxHeartbeats 1000000 in
theorem sortBytes_any (l : List UInt8) (w : World) (hl : l.length < 50) : Calls Tryz.prog 168 #[.string ⟨l.toArray⟩] w (TextPost (sortT l) w) := by
  obtain ⟨cap, tl, w1, K1, hc, hs, hb, hz⟩ := to_bytes l w
  have HC := Lib.hid (sort8 w.heap.size tl l.toArray l.length cap w1 hs (by simp) hc hl)
  have HB := Lib.hid hb
  clear hs hb
  go_enter Tryz.func168, Tryz.ntmps168
  go_wp2_with fail
  refine HC.out.mono ?_
  rintro e w2 ⟨rfl, hs2, ho⟩
  have K2 := of_bytes hs2 (n := l.length) (by simp [sortT_len]) cap
  have HO := Lib.hid ho
  clear ho hs2
  go_wp2_with fail
  go_ret
  exact ⟨by simp, below_on HB.out HO.out⟩

end Go.Proofs.YtgolhfmmlanmlaaGreatDoor

/- Walks: letters made great. -/
namespace Go.Proofs.YtgolhfmmlanmlaaGreatDoor
open Go.RowKit Pth

/-- The first k letters are great. -/
def upAt (l : List UInt8) (k : Nat) : Array UInt8 := (upT (l.take k) ++ l.drop k).toArray
theorem upAt_size (l : List UInt8) (k : Nat) : (upAt l k).size = l.length := by
  simp [upAt, upT]; omega
theorem upAt_zero (l : List UInt8) : upAt l 0 = l.toArray := by simp [upAt, upT]
theorem upAt_all (l : List UInt8) : (upAt l l.length).toList = upT l := by simp [upAt]
theorem upAt_get {l : List UInt8} {k : Nat} (h : k < l.length) : (upAt l k)[k]! = l[k] := by
  have hk : k < (upAt l k).size := by rw [upAt_size]; exact h
  rw [getElem!_pos (upAt l k) k hk]
  simp [upAt, upT, List.getElem_append_right, Nat.min_eq_left (Nat.le_of_lt h)]
theorem upAt_step {l : List UInt8} {k : Nat} (h : k < l.length) : upAt l (k + 1) = (upAt l k).setIfInBounds k (upB l[k]) := by
  apply Array.ext'
  have hlen : (upT (List.take k l)).length = k := by simp [upT]; omega
  simp only [upAt, Array.toList_setIfInBounds, List.set_append]
  rw [if_neg (by rw [hlen]; omega), hlen, Nat.sub_self, List.drop_eq_getElem_cons h]
  simp only [List.set_cons_zero]
  rw [List.take_add_one, List.getElem?_eq_getElem h]
  simp only [upT, List.map_append, Option.toList_some, List.map_cons, List.map_nil, List.append_assoc, List.cons_append, List.nil_append]
theorem upAt_same {l : List UInt8} {k : Nat} (h : k < l.length) (hu : upB l[k] = l[k]) : upAt l (k + 1) = upAt l k := by
  rw [upAt_step h, hu]
  apply Array.ext
  · simp
  · intro i h1 h2
    by_cases e : k = i
    · subst e
      have := upAt_get h
      rw [getElem!_pos (upAt l k) k h2] at this
      simp [this]
    · rw [Array.getElem_setIfInBounds]
      rw [if_neg e]

theorem up_letter {x : UInt8} (h1 : 97 ≤ x.toNat) (h2 : x.toNat ≤ 122) : ((upB x).toNat : Int) = (x.toNat : Int) - 32 := by
  rw [upB, if_pos ⟨h1, h2⟩, UInt8.toNat_sub_of_le _ _ (by rw [UInt8.le_iff_toNat_le]; show 32 ≤ x.toNat; omega)]
  show ((x.toNat - 32 : Nat) : Int) = _
  omega
theorem up_other {x : UInt8} (h : ¬ (97 ≤ x.toNat ∧ x.toNat ≤ 122)) : upB x = x := if_neg h

set_option maxRecDepth 20000 in
set_option maxHeartbeats 2000000 in
theorem upperS_any (l : List UInt8) (w : World) (hl : l.length < 50) : Calls Tryz.prog 131 #[.string ⟨l.toArray⟩] w (TextPost (upT l) w) := by
  obtain ⟨cap, tl, w1, K1, hc, hs, hb, hz⟩ := to_bytes l w
  have HB := Lib.hid hb
  have HS0 : Hid (SB w.heap.size tl (upAt l 0) w1) := by rw [upAt_zero]; exact hs
  clear hs hb
  go_enter Tryz.func131, Tryz.ntmps131
  go_wp2_with fail
  go_loopw [10] (fun p wr => ∃ i : Nat, i ≤ l.length ∧ p = .int .i64 i ∧ Hid (SB w.heap.size tl (upAt l i) wr) ∧ Hid (On w.heap.size w1 wr)) (fun p _ => l.length - (intOf p).toNat)
  case atStart => exact ⟨0, Nat.zero_le _, by go_num, HS0, On.refl _ _⟩
  case round =>
    clear HS0
    obtain ⟨i, hi, rfl, HS, HO⟩ := hrel
    by_cases hlt : i < l.length
    · have hltz : (i : Int) < (l.length : Int) := by omega
      have c1 := HS.out.cell (i := i) (by rw [upAt_size]; exact hlt)
      have f1 := HS.out.frozen i (by rw [upAt_size]; exact hlt)
      rw [upAt_get hlt] at c1
      have HU := Lib.hid (fun x (_ : x = l[i]) => HS.out.set (i := i) (by rw [upAt_size]; exact hlt) (upB x))
      have HE : Hid (∀ x, x = l[i] → upAt l (i + 1) = (upAt l i).setIfInBounds i (upB x)) := fun x e => by rw [e]; exact upAt_step hlt
      have HF : Hid (∀ x, x = l[i] → upB x = x → upAt l (i + 1) = upAt l i) := fun x e h => upAt_same hlt (by rw [← e]; exact h)
      obtain ⟨x, hx⟩ : ∃ x, x = l[i] := ⟨_, rfl⟩
      rw [← hx] at c1
      have HX := Lib.hid hx
      clear hx
      have hx8 : x.toNat < 256 := x.toNat_lt
      by_cases hA : 97 ≤ x.toNat
      · have hAz : (97 : Int) ≤ (x.toNat : Int) := by omega
        by_cases hB : x.toNat ≤ 122
        · have hBz : (x.toNat : Int) ≤ 122 := by omega
          have hU := HU.out x HX.out
          rw [up_letter hA hB] at hU
          have HU2 : Hid (SB w.heap.size tl (upAt l (i + 1)) (wr.setCell ⟨w.heap.size, i, none⟩ (.int .u8 ((x.toNat : Int) - 32)))) := by rw [HE.out x HX.out]; exact hU
          clear hU
          go_wp2_with fail
          go_roundw
          case rel => exact ⟨i + 1, by omega, by go_num, HU2.out, HO.out.set _ _⟩
          case measure => simp [intOf]; omega
        · have hBz : ¬ ((x.toNat : Int) ≤ 122) := by omega
          have HS2 : Hid (SB w.heap.size tl (upAt l (i + 1)) wr) := by rw [HF.out x HX.out (up_other (by omega))]; exact HS.out
          go_wp2_with fail
          go_roundw
          case rel => exact ⟨i + 1, by omega, by go_num, HS2, HO⟩
          case measure => simp [intOf]; omega
      · have hAz : ¬ ((97 : Int) ≤ (x.toNat : Int)) := by omega
        have HS2 : Hid (SB w.heap.size tl (upAt l (i + 1)) wr) := by rw [HF.out x HX.out (up_other (by omega))]; exact HS.out
        go_wp2_with fail
        go_roundw
        case rel => exact ⟨i + 1, by omega, by go_num, HS2, HO⟩
        case measure => simp [intOf]; omega
    · have hltz : ¬ ((i : Int) < (l.length : Int)) := by omega
      have K2 := of_bytes HS.out (n := l.length) (upAt_size _ _) cap
      rw [show i = l.length by omega, upAt_all] at K2
      go_wp2_with fail
      go_ret
      exact ⟨by simp, below_on HB.out HO.out⟩

set_option maxRecDepth 20000 in
set_option maxHeartbeats 2000000 in
theorem upper_any (l : List UInt8) (w : World) (hl : l.length < 50) : Calls Tryz.prog 167 #[.string ⟨l.toArray⟩] w (TextPost (upT l) w) := by
  obtain ⟨cap, tl, w1, K1, hc, hs, hb, hz⟩ := to_bytes l w
  have HB := Lib.hid hb
  have HS0 : Hid (SB w.heap.size tl (upAt l 0) w1) := by rw [upAt_zero]; exact hs
  clear hs hb
  go_enter Tryz.func167, Tryz.ntmps167
  go_wp2_with fail
  go_loopw [10] (fun p wr => ∃ i : Nat, i ≤ l.length ∧ p = .int .i64 i ∧ Hid (SB w.heap.size tl (upAt l i) wr) ∧ Hid (On w.heap.size w1 wr)) (fun p _ => l.length - (intOf p).toNat)
  case atStart => exact ⟨0, Nat.zero_le _, by go_num, HS0, On.refl _ _⟩
  case round =>
    clear HS0
    obtain ⟨i, hi, rfl, HS, HO⟩ := hrel
    by_cases hlt : i < l.length
    · have hltz : (i : Int) < (l.length : Int) := by omega
      have c1 := HS.out.cell (i := i) (by rw [upAt_size]; exact hlt)
      have f1 := HS.out.frozen i (by rw [upAt_size]; exact hlt)
      rw [upAt_get hlt] at c1
      have HU := Lib.hid (fun x (_ : x = l[i]) => HS.out.set (i := i) (by rw [upAt_size]; exact hlt) (upB x))
      have HE : Hid (∀ x, x = l[i] → upAt l (i + 1) = (upAt l i).setIfInBounds i (upB x)) := fun x e => by rw [e]; exact upAt_step hlt
      have HF : Hid (∀ x, x = l[i] → upB x = x → upAt l (i + 1) = upAt l i) := fun x e h => upAt_same hlt (by rw [← e]; exact h)
      obtain ⟨x, hx⟩ : ∃ x, x = l[i] := ⟨_, rfl⟩
      rw [← hx] at c1
      have HX := Lib.hid hx
      clear hx
      have hx8 : x.toNat < 256 := x.toNat_lt
      by_cases hA : 97 ≤ x.toNat
      · have hAz : (97 : Int) ≤ (x.toNat : Int) := by omega
        by_cases hB : x.toNat ≤ 122
        · have hBz : (x.toNat : Int) ≤ 122 := by omega
          have hU := HU.out x HX.out
          rw [up_letter hA hB] at hU
          have HU2 : Hid (SB w.heap.size tl (upAt l (i + 1)) (wr.setCell ⟨w.heap.size, i, none⟩ (.int .u8 ((x.toNat : Int) - 32)))) := by rw [HE.out x HX.out]; exact hU
          clear hU
          go_wp2_with fail
          go_roundw
          case rel => exact ⟨i + 1, by omega, by go_num, (by have := HU2.out; first | exact this | (rw [show (x.toNat : Int) - 32 = (x.toNat : Int) - 97 + 65 by omega] at this; exact this)), HO.out.set _ _⟩
          case measure => simp [intOf]; omega
        · have hBz : ¬ ((x.toNat : Int) ≤ 122) := by omega
          have HS2 : Hid (SB w.heap.size tl (upAt l (i + 1)) wr) := by rw [HF.out x HX.out (up_other (by omega))]; exact HS.out
          go_wp2_with fail
          go_roundw
          case rel => exact ⟨i + 1, by omega, by go_num, HS2, HO⟩
          case measure => simp [intOf]; omega
      · have hAz : ¬ ((97 : Int) ≤ (x.toNat : Int)) := by omega
        have HS2 : Hid (SB w.heap.size tl (upAt l (i + 1)) wr) := by rw [HF.out x HX.out (up_other (by omega))]; exact HS.out
        go_wp2_with fail
        go_roundw
        case rel => exact ⟨i + 1, by omega, by go_num, HS2, HO⟩
        case measure => simp [intOf]; omega
    · have hltz : ¬ ((i : Int) < (l.length : Int)) := by omega
      have K2 := of_bytes HS.out (n := l.length) (upAt_size _ _) cap
      rw [show i = l.length by omega, upAt_all] at K2
      go_wp2_with fail
      go_ret
      exact ⟨by simp, below_on HB.out HO.out⟩

end Go.Proofs.YtgolhfmmlanmlaaGreatDoor

/- Walks: the reference's sort of a text's bytes. -/
namespace Go.Proofs.YtgolhfmmlanmlaaGreatDoor
open Go.RowKit Pth

theorem ins_zero (n : Nat) (d : Array UInt8) : Sort.insOuter ltB 0 n 0 d = Sort.insertionSort ltB d 0 n := by
  by_cases h : 0 < n
  · rw [insOuter_go h, insInner_low (Nat.le_refl _)]; rfl
  · rw [insOuter_stop h]
    show d = Sort.insOuter ltB 0 n (0 + 1) d
    rw [insOuter_stop (by omega)]
theorem ins_sortT {l : List UInt8} {c : Array UInt8} (h : Sort.insOuter ltB 0 l.length 0 l.toArray = c) : c.toList = sortT l := by
  rw [ins_zero] at h
  obtain ⟨q1, q2⟩ := Sort.insertionSort_holds swo8 l.toArray 0 l.length (Nat.zero_le _) (by simp)
  rw [h] at q1 q2
  simpa using sorted_T (d := l.toArray) (n := l.length) (by simp) q1 q2

set_option maxRecDepth 20000 in
set_option maxHeartbeats 4000000 in
theorem sortS_any (l : List UInt8) (w : World) (hl : l.length < 50) : Calls Tryz.prog 132 #[.string ⟨l.toArray⟩] w (TextPost (sortT l) w) := by
  obtain ⟨cap, tl, w1, K1, hc, hs, hb, hz⟩ := to_bytes l w
  obtain ⟨n, hn⟩ : ∃ n, n = l.length := ⟨_, rfl⟩
  have HB := Lib.hid hb
  have HS := Lib.hid hs
  have HZ := Lib.hid (show l.toArray.size = n by simp [hn])
  obtain ⟨g, hg⟩ : ∃ g, g = w.heap.size := ⟨_, rfl⟩
  rw [← hg] at HS K1
  rw [← hn] at K1 hl
  have HN := Lib.hid hn
  have HG := Lib.hid hg
  clear hs hb hn hg
  go_enter Tryz.func132, Tryz.ntmps132
  go_wp2_with fail
  go_loopw [11] (fun q wr => ∃ (i : Nat) (d : Array UInt8), i ≤ n ∧ q = .int .i64 i ∧ Hid (SB g tl d wr) ∧ Hid (On g w1 wr) ∧ Hid (d.size = n) ∧ Hid (Sort.insOuter ltB 0 n 0 l.toArray = Sort.insOuter ltB 0 n i d)) (fun q _ => n - (intOf q).toNat)
  case atStart => exact ⟨0, l.toArray, Nat.zero_le _, by go_num, HS, On.refl _ _, HZ, rfl⟩
  case round =>
    clear HS HZ
    obtain ⟨i, d, hi, rfl, HS, HO, HZ, HE⟩ := hrel
    by_cases hlt : i < n
    · have HE1 := Lib.hid (HE.out.trans (insOuter_go hlt))
      have hltz : (i : Int) < (n : Int) := by omega
      clear HE
      go_wp2_with fail
      go_loopw [5] (fun q wq => ∃ (j : Nat) (c : Array UInt8), j ≤ i ∧ q = .int .i64 j ∧ Hid (SB g tl c wq) ∧ Hid (On g w1 wq) ∧ Hid (c.size = n) ∧ Hid (Sort.insInner ltB 0 i d = Sort.insInner ltB 0 j c)) (fun q _ => (intOf q).toNat)
      case atStart => exact ⟨i, d, Nat.le_refl _, rfl, HS, HO, HZ, rfl⟩
      case round =>
        clear HS HO HZ
        obtain ⟨j, c, hj, rfl, HS, HO, HZ, HF⟩ := hrel
        by_cases hja : 0 < j
        · obtain ⟨m, rfl⟩ : ∃ m, j = m + 1 := ⟨j - 1, by omega⟩
          have hg1 : decide ((0 : Int) < (m : Int) + 1) = true := decide_eq_true (by omega)
          have c1 := HS.out.cell (i := m + 1) (by rw [HZ.out]; omega)
          have c0 := HS.out.cell (i := m) (by rw [HZ.out]; omega)
          have hx1 : (m : Int) + 1 < (n : Int) := by omega
          have hx0 : (m : Int) < (n : Int) := by omega
          have hx2 : (0 : Int) ≤ (m : Int) + 1 := by omega
          have hn1 : ((m : Int) + 1).toNat = m + 1 := by omega
          have hw1 : IntKind.i64.wrap (m : Int) = (m : Int) := IntWalk.i64_in _ (by omega)
          by_cases hlb : ltB c[m + 1]! c[m]! = true
          · have HF1 := Lib.hid (HF.out.trans (insInner_go hja hlb))
            have HS1 := Lib.hid (HS.out.swap (i := m + 1) (j := m) (by rw [HZ.out]; omega) (by rw [HZ.out]; omega))
            have HZ1 : Hid ((Sort.swp c (m + 1) m).size = n) := (swp_sz _ _ _).trans HZ.out
            have f1 := HS.out.frozen (m + 1) (by rw [HZ.out]; omega)
            have f0 := HS.out.frozen m (by rw [HZ.out]; omega)
            have hq : (c[m + 1]!.toNat : Int) < (c[m]!.toNat : Int) := by simp only [ltB, decide_eq_true_eq] at hlb; omega
            generalize Sort.swp c (m + 1) m = c' at HS1 HF1 HZ1
            clear HF hlb
            generalize c[m + 1]! = x at c1 hq HS1
            generalize c[m]! = y at c0 hq HS1
            go_wp2_with fail
            go_quiet (fail)
            go_wp2_with fail
            go_roundw
            case rel => exact ⟨m, c', by omega, by go_num, HS1.out, (HO.out.drewN _).swap _ _ _ _, HZ1, HF1⟩
            case measure => simp [intOf]
          · have HF1 := Lib.hid (HF.out.trans (insInner_stop (by simpa using hlb)))
            have hq : ¬ ((c[m + 1]!.toNat : Int) < (c[m]!.toNat : Int)) := by simp only [ltB, decide_eq_true_eq] at hlb; omega
            clear HF hlb
            generalize c[m + 1]! = x at c1 hq
            generalize c[m]! = y at c0 hq
            go_wp2_with fail
            go_quiet (fail)
            go_wp2_with fail
            go_roundw
            case rel => exact ⟨i + 1, c, by omega, by go_num, HS.out.drewN _, HO.out.drewN _, HZ, by rw [HE1.out, HF1.out]; rfl⟩
            case measure => simp [intOf]; omega
        · have hg1 : decide ((0 : Int) < (j : Int)) = false := decide_eq_false (by omega)
          have HF1 := Lib.hid (HF.out.trans (insInner_low (by omega)))
          clear HF
          go_wp2_with fail
          go_quiet (fail)
          go_wp2_with fail
          go_roundw
          case rel => exact ⟨i + 1, c, by omega, by go_num, HS.out.drewN _, HO.out.drewN _, HZ, by rw [HE1.out, HF1.out]; rfl⟩
          case measure => simp [intOf]; omega
    · have hltz : ¬ ((i : Int) < (n : Int)) := by omega
      have HE1 := Lib.hid (HE.out.trans (insOuter_stop hlt))
      clear HE
      have K2 := of_bytes HS.out (n := n) HZ.out cap
      have hq : d.toList = sortT l := ins_sortT (by rw [← HN.out]; exact HE1.out)
      rw [hq] at K2
      clear hq
      go_wp2_with fail
      go_ret
      exact ⟨by simp, below_on HB.out (by rw [← HG.out]; exact HO.out)⟩

end Go.Proofs.YtgolhfmmlanmlaaGreatDoor

/- Walks: numbers as text, the lesser of two, texts that are too long. -/
namespace Go.Proofs.YtgolhfmmlanmlaaGreatDoor
open Go.RowKit Pth

theorem least_any (a b : Nat) (w : World) (_ha : a ≤ 1000) (_hb : b ≤ 1000) : Calls Tryz.prog 133 #[.int .i64 a, .int .i64 b] w fun e w' => e = .returned (.int .i64 ((min a b : Nat) : Int)) ∧ w' = w := by
  by_cases h : a < b
  · have hz : (a : Int) < (b : Int) := by omega
    go_enter Tryz.func133, Tryz.ntmps133
    go_wp2
    go_ret
    exact ⟨by rw [Nat.min_eq_left (Nat.le_of_lt h)]; rfl, rfl⟩
  · have hz : ¬ ((a : Int) < (b : Int)) := by omega
    go_enter Tryz.func133, Tryz.ntmps133
    go_wp2
    go_ret
    exact ⟨by rw [Nat.min_eq_right (by omega)]; rfl, rfl⟩
theorem long_any (l : List UInt8) (w : World) (_hl : l.length ≤ maxLen) : Calls Tryz.prog 82 #[.string ⟨l.toArray⟩] w fun e w' => e = .returned (.bool (decide (40 < l.length))) ∧ w' = w := by
  go_enter Tryz.func82, Tryz.ntmps82
  go_wp2
  go_ret
  refine ⟨?_, rfl⟩
  congr 2
  simp
  omega
theorem clone_text (l : List UInt8) (w : World) (hl : l.length ≤ 1000) : Calls Tryz.prog 116 #[.string ⟨l.toArray⟩] w (TextPost l w) := by
  have HC := Lib.hid (Tryz.stringslite_Clone ⟨l.toArray⟩ w (by simp [ByteArray.size]; omega))
  go_enter Tryz.func116, Tryz.ntmps116
  go_wp2_with fail
  refine HC.out.mono ?_
  rintro e w' ⟨rfl, hb⟩
  go_wp2_with fail
  go_ret
  exact ⟨rfl, hb⟩
theorem dig_num : ∀ n : Fin 100, Lib.decDigits n.val = numT n.val := by decide +kernel
theorem itoa_any (n : Nat) (w : World) (hn : n < 100) : Calls Tryz.prog 169 #[.int .i64 n] w fun e w' => e = .returned (.string ⟨(numT n).toArray⟩) ∧ w' = w := by
  rw [← dig_num ⟨n, hn⟩]
  exact Tryz.strconv_Itoa_small n hn w
theorem dig_to {n : Nat} (h : n < 10) : ((digB n).toNat : Int) = 48 + n := by
  simp only [digB, UInt8.toNat_ofNat']
  omega
set_option maxHeartbeats 1000000 in
theorem num_low (n : Nat) (N : Int) (hN : N = n) (w : World) (hn : n < 10) : Calls Tryz.prog 134 #[.int .i64 N] w (TextPost (numT n) w) := by
  have hz : N < 10 := by omega
  have h0 : 0 ≤ N := by omega
  have hc := run_one_byte (digB n) w
  rw [dig_to hn, ← hN] at hc
  have HT := Lib.hid (show numT n = [digB n] from if_pos hn)
  clear hN
  go_enter Tryz.func134, Tryz.ntmps134
  go_wp2_with fail
  go_ret
  exact ⟨by rw [HT.out]; rfl, (Below.refl _ _).alloc (Nat.le_refl _) _⟩

end Go.Proofs.YtgolhfmmlanmlaaGreatDoor

/- Walks: numbers of two digits as text. -/
namespace Go.Proofs.YtgolhfmmlanmlaaGreatDoor
open Go.RowKit Pth

theorem of_one (c : UInt8) (w : World) (g : Nat) (h : w.cell? ⟨g, 0, none⟩ = some (.int .u8 (c.toNat : Int))) : (convert 130 9 (.slice (some ⟨g, 0, none⟩) 1 1)).run Tryz.prog w = .ok (.string ⟨#[c]⟩) w :=
  run_convert_bytes_back _ 130 9 5 ⟨g, 0, none⟩ 1 [c] Tryz.underlying130 Tryz.underlying5 Tryz.underlying9 (fun j hj => by
    have hj0 : j = 0 := by simp at hj; omega
    subst hj0
    exact h)
theorem cell_up {w w' : World} {r : Nat} (hb0 : Below (w.alloc (.cells #[.int .u8 (48 + (r : Int))] 5)).drew.heap.size (w.alloc (.cells #[.int .u8 (48 + (r : Int))] 5)).drew w') (hr : r < 10) : (convert 130 9 (.slice (some ⟨w.heap.size, 0, none⟩) 1 1)).run Tryz.prog w' = .ok (.string ⟨#[digB r]⟩) w' ∧ Below w.heap.size w w' := by
  have hb : Below (w.alloc (.cells #[.int .u8 (48 + (r : Int))] 5)).heap.size (w.alloc (.cells #[.int .u8 (48 + (r : Int))] 5)) w' := ⟨hb0.os, hb0.tape, hb0.output, hb0.size, hb0.block⟩
  refine ⟨of_one _ _ _ ?_, ?_⟩
  · rw [hb.cell (by simp), dig_to hr]
    exact one_new w _ _ 0 _ rfl
  · exact ⟨hb.os, hb.tape, hb.output, Nat.le_trans (by simp) hb.size, fun k hk => (hb.block k (by simp; omega)).trans (Below.heap_alloc w _ k hk)⟩
theorem cell_up2 {W w' : World} {g r : Nat} (hb : Below W.heap.size W w') (hr : r < 10) (hk : W.cell? ⟨g, 0, none⟩ = some (.int .u8 (48 + (r : Int)))) (hg : g < W.heap.size) : (convert 130 9 (.slice (some ⟨g, 0, none⟩) 1 1)).run Tryz.prog w' = .ok (.string ⟨#[digB r]⟩) w' :=
  of_one _ _ _ (by rw [hb.cell hg, hk, dig_to hr])
set_option maxRecDepth 20000 in
set_option maxHeartbeats 4000000 in
theorem num_two (n : Nat) (w : World) (h1 : 10 ≤ n) (h2 : n < 100) : Calls Tryz.prog 134 #[.int .i64 n] w (TextPost (numT n) w) := by
  have HC : Hid (∀ W, Calls Tryz.prog 134 #[.int .i64 ((n / 10 : Nat) : Int)] W (TextPost [digB (n / 10)] W)) := fun W => by
    have := num_low (n / 10) _ rfl W (by omega)
    rwa [show numT (n / 10) = [digB (n / 10)] from if_pos (by omega)] at this
  have hz : ¬ ((n : Int) < 10) := by omega
  have ht : Int.tdiv (n : Int) 10 = ((n / 10 : Nat) : Int) := (Int.ofNat_tdiv n 10).symm
  have hm : Int.tmod (n : Int) 10 = ((n % 10 : Nat) : Int) := (Int.ofNat_tmod n 10).symm
  have hc := fun W => run_one_byte (digB (n % 10)) W
  have hd := fun (W : World) => of_one (digB (n % 10)) (W.alloc (.cells #[.int .u8 ((digB (n % 10)).toNat : Int)] 5)).drew W.heap.size (one_new W _ _ 0 _ rfl)
  rw [dig_to (show n % 10 < 10 by omega)] at hd
  rw [dig_to (show n % 10 < 10 by omega)] at hc
  have HT : Hid (numT n = [digB (n / 10), digB (n % 10)]) := by
    show numT n = _
    unfold numT; rw [if_neg (by omega)]
  have hq : n / 10 < 10 := by omega
  have hr : n % 10 < 10 := by omega
  have w1 : IntKind.i64.wrap ((n / 10 : Nat) : Int) = ((n / 10 : Nat) : Int) := IntWalk.i64_in _ (by omega)
  have w2 : IntKind.i64.wrap ((n % 10 : Nat) : Int) = ((n % 10 : Nat) : Int) := IntWalk.i64_in _ (by omega)
  have w3 : IntKind.i64.wrap (48 + ((n % 10 : Nat) : Int)) = 48 + ((n % 10 : Nat) : Int) := IntWalk.i64_in _ (by omega)
  have w4 : IntKind.u8.wrap (48 + ((n % 10 : Nat) : Int)) = 48 + ((n % 10 : Nat) : Int) := by
    rw [IntWalk.u8_in _ (by omega)]
  obtain ⟨q, hq'⟩ : ∃ q, q = n / 10 := ⟨_, rfl⟩
  obtain ⟨r, hr'⟩ : ∃ r, r = n % 10 := ⟨_, rfl⟩
  rw [← hq'] at ht HC HT hq w1
  rw [← hr'] at hm hc hd HT hr w2 w3 w4
  clear hq' hr'
  go_enter Tryz.func134, Tryz.ntmps134
  go_wp2_with fail
  go_region_with (go_at_call 134; refine (HC.out _).mono ?_; rintro e w' ⟨rfl, hb⟩; first | (obtain ⟨ka, kb⟩ := cell_up hb hr; clear hb) | (have kb := hb; clear hb))
  all_goals
    have hB : Below w.heap.size w w' := ⟨kb.os, kb.tape, kb.output, kb.size, kb.block⟩
    go_wp2_with fail
    go_ret
    refine ⟨by rw [HT.out]; rfl, ?_⟩
    first | exact hB | exact hB.alloc (by have := hB.size; omega) _ | exact ⟨hB.os, hB.tape, hB.output, hB.size, hB.block⟩

theorem num_any (n : Nat) (w : World) (h : n < 100) : Calls Tryz.prog 134 #[.int .i64 n] w (TextPost (numT n) w) := by
  by_cases h1 : n < 10
  · exact num_low n _ rfl w h1
  · exact num_two n w (by omega) h

end Go.Proofs.YtgolhfmmlanmlaaGreatDoor

/- Walks: whether texts are short enough. -/
namespace Go.Proofs.YtgolhfmmlanmlaaGreatDoor
open Go.RowKit Pth

theorem all_long {l : List (List UInt8)} {k : Nat} (h : k < l.length) (hx : 40 < l[k].length) : l.all (fun x => decide (x.length ≤ 40)) = false := by
  rw [List.all_eq_false]
  exact ⟨l[k], List.getElem_mem h, by simp; omega⟩
theorem take_next {l : List (List UInt8)} {k : Nat} (h : k < l.length) (ha : ∀ x ∈ l.take k, x.length ≤ 40) (hx : l[k].length ≤ 40) : ∀ x ∈ l.take (k + 1), x.length ≤ 40 := by
  intro x hm
  rw [List.take_succ_eq_append_getElem h, List.mem_append, List.mem_singleton] at hm
  rcases hm with h | h
  · exact ha x h
  · rw [h]; exact hx

set_option maxHeartbeats 1000000 in
theorem texts_any (l : List (List UInt8)) (v : Value) (w : World) (hrow : RowV w v (S l)) (hx : ∀ x ∈ l, x.length ≤ maxLen) :
    Calls Tryz.prog 130 #[v] w fun e w' => e = .returned (.bool (textsL l)) ∧ w = w' := by
  obtain ⟨a, cap, rfl, hc1, hc2, hat⟩ := hrow.texts
  clear hrow
  unfold maxLen at hc2 hx
  go_enter Tryz.func130, Tryz.ntmps130
  go_wp2_with fail
  go_loop [7] (fun i => ∃ k : Nat, k ≤ l.length ∧ i = .int .i64 k ∧ Hid (∀ x ∈ l.take k, x.length ≤ 40)) (fun i => l.length - (intOf i).toNat)
  case atStart => exact ⟨0, Nat.zero_le _, by go_num, by simp [Hid]⟩
  case round =>
    obtain ⟨k, hk, rfl, HO⟩ := hrel
    by_cases hlt : k < l.length
    · obtain ⟨g, o, rfl, hg, hcell⟩ := hat k hlt
      have hxl := hx l[k] (List.getElem_mem hlt)
      by_cases hy : (l[k]).length ≤ 40
      · have HS := Lib.hid (take_next hlt HO.out hy)
        generalize l[k] = x at hcell hxl hy
        have hyz : ¬ ((40 : Int) < (x.length : Int)) := by omega
        clear hat HO hx
        go_wp2_with fail
        go_round
        case rel => exact ⟨k + 1, by omega, by go_num, HS⟩
        case measure => simp [intOf]; omega
      · have HS := Lib.hid (all_long hlt (by omega))
        generalize l[k] = x at hcell hxl hy
        have hyz : ((40 : Int) < (x.length : Int)) := by omega
        clear hat HO hx
        go_wp2_with fail
        go_ret
        exact ⟨by rw [textsL, HS.out]; rfl, rfl⟩
    · have HS : Hid (l.all (fun x => decide (x.length ≤ 40)) = true) := by
        rw [Hid, List.all_eq_true]
        intro x hm
        have := HO.out x (by rw [List.take_of_length_le (by omega)]; exact hm)
        simpa using this
      have hltz : ¬ ((k : Int) < (l.length : Int)) := by omega
      clear hat HO hx
      go_wp2_with fail
      go_ret
      refine ⟨?_, rfl⟩
      rw [textsL, HS.out, Bool.true_and]
      show Ending.returned (.bool (decide ((l.length : Int) ≤ 10))) = _
      congr 2
      simp only [decide_eq_decide]
      omega

end Go.Proofs.YtgolhfmmlanmlaaGreatDoor

/- Walks: one step of the reference, a kind each. -/
namespace Go.Proofs.YtgolhfmmlanmlaaGreatDoor
open Go.RowKit Pth

/-- A text and whether it did not fail; only new memory. -/
def StepPost (t : Option (List UInt8)) (w : World) (e : Ending) (w' : World) : Prop := e = .returned (.tuple #[.string ⟨(txtO t).toArray⟩, .bool t.isSome]) ∧ Below w.heap.size w w'
theorem data_app (a b : List UInt8) : (⟨a.toArray⟩ : ByteArray) ++ ⟨b.toArray⟩ = ⟨(a ++ b).toArray⟩ := by
  apply ByteArray.ext; simp
theorem below_new {w w' : World} {o : Obj} (h : Below (w.alloc o).heap.size (w.alloc o) w') : Below w.heap.size w w' :=
  ⟨h.os, h.tape, h.output, Nat.le_trans (by simp) h.size, fun k hk => (h.block k (by simp; omega)).trans (Below.heap_alloc w _ k hk)⟩

set_option maxRecDepth 20000 in
set_option maxHeartbeats 2000000 in
theorem stepS_upper (ins : List (List UInt8)) (n : Int) (t : List UInt8) (v : Value) (acc : List UInt8) (w : World) (ha : acc.length ≤ 40) :
    Calls Tryz.prog 106 #[opV (3, n, t), v, .string ⟨acc.toArray⟩] w (StepPost (Pth.stepT (3, n, t) ins acc) w) := by
  have hl : (upT acc).length ≤ 40 := by rw [upT_len]; exact ha
  have HT := Lib.hid (show Pth.stepT (3, n, t) ins acc = some (upT acc) by simp [Pth.stepT, rawT, capT]; omega)
  have HC := Lib.hid (fun W => upperS_any acc W (by omega))
  obtain ⟨x, hx⟩ : ∃ x, x = upT acc := ⟨_, rfl⟩
  rw [← hx] at hl HT HC
  clear hx
  have hlz : ¬ ((40 : Int) < (x.length : Int)) := by omega
  unfold opV
  go_enter Tryz.func106, Tryz.ntmps106
  go_wp2_with fail
  refine (HC.out _).mono ?_
  rintro e w1 ⟨rfl, hb⟩
  have HB := Lib.hid (below_new hb)
  clear hb
  go_wp2_with fail
  go_ret2
  exact ⟨by rw [HT.out]; rfl, HB.out⟩

set_option maxRecDepth 20000 in
set_option maxHeartbeats 2000000 in
theorem stepS_sort (ins : List (List UInt8)) (n : Int) (t : List UInt8) (v : Value) (acc : List UInt8) (w : World) (ha : acc.length ≤ 40) :
    Calls Tryz.prog 106 #[opV (4, n, t), v, .string ⟨acc.toArray⟩] w (StepPost (Pth.stepT (4, n, t) ins acc) w) := by
  have hl : (sortT acc).length ≤ 40 := by rw [sortT_len]; exact ha
  have HT := Lib.hid (show Pth.stepT (4, n, t) ins acc = some (sortT acc) by simp [Pth.stepT, rawT, capT]; omega)
  have HC := Lib.hid (fun W => sortS_any acc W (by omega))
  obtain ⟨x, hx⟩ : ∃ x, x = sortT acc := ⟨_, rfl⟩
  rw [← hx] at hl HT HC
  clear hx
  have hlz : ¬ ((40 : Int) < (x.length : Int)) := by omega
  unfold opV
  go_enter Tryz.func106, Tryz.ntmps106
  go_wp2_with fail
  refine (HC.out _).mono ?_
  rintro e w1 ⟨rfl, hb⟩
  have HB := Lib.hid (below_new hb)
  clear hb
  go_wp2_with fail
  go_ret2
  exact ⟨by rw [HT.out]; rfl, HB.out⟩

set_option maxRecDepth 20000 in
set_option maxHeartbeats 2000000 in
theorem stepS_count (ins : List (List UInt8)) (n : Int) (t : List UInt8) (v : Value) (acc : List UInt8) (w : World) (ha : acc.length ≤ 40) :
    Calls Tryz.prog 106 #[opV (6, n, t), v, .string ⟨acc.toArray⟩] w (StepPost (Pth.stepT (6, n, t) ins acc) w) := by
  have hl : (numT acc.length).length ≤ 40 := Nat.le_trans (numT_len _) (by omega)
  have HT := Lib.hid (show Pth.stepT (6, n, t) ins acc = some (numT acc.length) by simp [Pth.stepT, rawT, capT]; omega)
  have HC := Lib.hid (fun W => num_any acc.length W (by omega))
  obtain ⟨x, hx⟩ : ∃ x, x = numT acc.length := ⟨_, rfl⟩
  rw [← hx] at hl HT HC
  clear hx
  have hlz : ¬ ((40 : Int) < (x.length : Int)) := by omega
  unfold opV
  go_enter Tryz.func106, Tryz.ntmps106
  go_wp2_with fail
  refine (HC.out _).mono ?_
  rintro e w1 ⟨rfl, hb⟩
  have HB := Lib.hid (below_new hb)
  clear hb
  go_wp2_with fail
  go_ret2
  exact ⟨by rw [HT.out]; rfl, HB.out⟩

set_option maxRecDepth 20000 in
set_option maxHeartbeats 2000000 in
theorem stepS_fail (ins : List (List UInt8)) (n : Int) (t : List UInt8) (v : Value) (acc : List UInt8) (w : World) :
    Calls Tryz.prog 106 #[opV (7, n, t), v, .string ⟨acc.toArray⟩] w (StepPost (Pth.stepT (7, n, t) ins acc) w) := by
  have HT := Lib.hid (show Pth.stepT (7, n, t) ins acc = none by simp [Pth.stepT, rawT])
  have HB := Lib.hid ((Below.refl w.heap.size w).alloc (Nat.le_refl _) (.cells #[.int .i64 7, .int .i64 n, .string ⟨t.toArray⟩] 141))
  unfold opV
  go_enter Tryz.func106, Tryz.ntmps106
  go_wp2_with fail
  go_ret2
  exact ⟨by rw [HT.out]; rfl, HB.out⟩

set_option maxRecDepth 20000 in
set_option maxHeartbeats 2000000 in
theorem stepS_text (ins : List (List UInt8)) (n : Int) (t : List UInt8) (v : Value) (acc : List UInt8) (w : World) (ha : acc.length ≤ 40) (ht : t.length ≤ 10) :
    Calls Tryz.prog 106 #[opV (2, n, t), v, .string ⟨acc.toArray⟩] w (StepPost (Pth.stepT (2, n, t) ins acc) w) := by
  have HB := Lib.hid ((Below.refl w.heap.size w).alloc (Nat.le_refl _) (.cells #[.int .i64 2, .int .i64 n, .string ⟨t.toArray⟩] 141))
  unfold opV
  by_cases hl : (acc ++ t).length ≤ 40
  · have HT := Lib.hid (show Pth.stepT (2, n, t) ins acc = some (acc ++ t) by have h := hl; simp [Pth.stepT, rawT, capT] at h ⊢; exact h)
    have hlz : ¬ ((40 : Int) < (acc.length : Int) + (t.length : Int)) := by simp at hl; omega
    go_enter Tryz.func106, Tryz.ntmps106
    go_wp2_with fail
    go_ret2
    exact ⟨by rw [HT.out]; show _ = Ending.returned (.tuple #[.string ⟨(acc ++ t).toArray⟩, .bool true]); rw [← data_app]; rfl, HB.out⟩
  · have HT := Lib.hid (show Pth.stepT (2, n, t) ins acc = none by have h := hl; simp [Pth.stepT, rawT, capT] at h ⊢; exact h)
    have hlz : ((40 : Int) < (acc.length : Int) + (t.length : Int)) := by simp at hl; omega
    go_enter Tryz.func106, Tryz.ntmps106
    go_wp2_with fail
    go_ret2
    exact ⟨by rw [HT.out]; simp [txtO], HB.out⟩

set_option maxRecDepth 20000 in
set_option maxHeartbeats 2000000 in
theorem stepS_cat (ins : List (List UInt8)) (n : Nat) (t : List UInt8) (v : Value) (acc : List UInt8) (w : World) (hrow : RowV w v (S ins)) (ha : acc.length ≤ 40) (hn : n < ins.length) (hx : ∀ x ∈ ins, x.length ≤ 40) (_hi : ins.length ≤ 10) :
    Calls Tryz.prog 106 #[opV (1, n, t), v, .string ⟨acc.toArray⟩] w (StepPost (Pth.stepT (1, n, t) ins acc) w) := by
  obtain ⟨a, cap, rfl, hc1, hc2, hat⟩ := hrow.texts
  clear hrow
  obtain ⟨g, o, rfl, hg, hcell⟩ := hat n hn
  have hxl := hx ins[n] (List.getElem_mem hn)
  have HB := Lib.hid ((Below.refl w.heap.size w).alloc (Nat.le_refl _) (.cells #[.int .i64 1, .int .i64 (n : Int), .string ⟨t.toArray⟩] 141))
  have hcell2 : (w.alloc (.cells #[.int .i64 1, .int .i64 (n : Int), .string ⟨t.toArray⟩] 141)).cell? ⟨g, o + n, none⟩ = some (.string ⟨ins[n].toArray⟩) := by rw [World.cell?_alloc_lt _ _ _ hg]; exact hcell
  have HQ : Hid (∀ y, y = ins[n] → Pth.stepT (1, n, t) ins acc = capT (acc ++ y)) := fun y e => by
    rw [e]
    show capT (acc ++ (ins[(n : Int).toNat]?).getD []) = _
    simp [hn]
  obtain ⟨y, hy⟩ : ∃ y, y = ins[n] := ⟨_, rfl⟩
  have HT := Lib.hid (HQ.out y hy)
  rw [← hy] at hcell hxl hcell2
  have hnz : (n : Int) < (ins.length : Int) := by omega
  clear hat hx HQ hy hc1 hc2
  unfold opV
  by_cases hl : (acc ++ y).length ≤ 40
  · have HV := Lib.hid (HT.out.trans (if_pos hl))
    have hlz : ¬ ((40 : Int) < (acc.length : Int) + (y.length : Int)) := by simp at hl; omega
    go_enter Tryz.func106, Tryz.ntmps106
    go_wp2_with fail
    go_ret2
    exact ⟨by rw [HV.out]; show _ = Ending.returned (.tuple #[.string ⟨(acc ++ y).toArray⟩, .bool true]); rw [← data_app]; rfl, HB.out⟩
  · have HV := Lib.hid (HT.out.trans (if_neg hl))
    have hlz : ((40 : Int) < (acc.length : Int) + (y.length : Int)) := by simp at hl; omega
    go_enter Tryz.func106, Tryz.ntmps106
    go_wp2_with fail
    go_ret2
    exact ⟨by rw [HV.out]; rfl, HB.out⟩

end Go.Proofs.YtgolhfmmlanmlaaGreatDoor

/- Walks: one step of the reference. -/
namespace Go.Proofs.YtgolhfmmlanmlaaGreatDoor
open Go.RowKit Pth

theorem drop_min (acc : List UInt8) (n : Nat) : (⟨acc.toArray⟩ : ByteArray).extract (min acc.length n) acc.length = ⟨(acc.drop n).toArray⟩ := by
  apply ByteArray.ext
  simp only [ByteArray.data_extract]
  apply Array.ext'
  simp only [Array.toList_extract, List.extract_eq_take_drop]
  by_cases h : n ≤ acc.length
  · rw [Nat.min_eq_right h, List.take_of_length_le (by simp)]
  · rw [Nat.min_eq_left (by omega), show acc.drop n = [] from List.drop_eq_nil_of_le (by omega)]
    simp

set_option maxRecDepth 20000 in
set_option maxHeartbeats 2000000 in
theorem stepS_drop (ins : List (List UInt8)) (n : Nat) (t : List UInt8) (v : Value) (acc : List UInt8) (w : World) (ha : acc.length ≤ 40) (hn : n ≤ 40) :
    Calls Tryz.prog 106 #[opV (5, n, t), v, .string ⟨acc.toArray⟩] w (StepPost (Pth.stepT (5, n, t) ins acc) w) := by
  have HB := Lib.hid ((Below.refl w.heap.size w).alloc (Nat.le_refl _) (.cells #[.int .i64 5, .int .i64 (n : Int), .string ⟨t.toArray⟩] 141))
  have HC := Lib.hid (fun W => least_any acc.length n W (by omega) (by omega))
  have hd : (acc.drop n).length ≤ 40 := by simp; omega
  have HT := Lib.hid (show Pth.stepT (5, n, t) ins acc = some (acc.drop n) by
    show capT (acc.drop (n : Int).toNat) = _
    simp only [Int.toNat_natCast]
    exact if_pos hd)
  have HD := Lib.hid (drop_min acc n)
  obtain ⟨m, hm⟩ : ∃ m, m = min acc.length n := ⟨_, rfl⟩
  rw [← hm] at HC HD
  have hm1 : m ≤ acc.length := by omega
  have hm2 : ((acc.length : Int) - (m : Int)) ≤ 40 := by omega
  clear hm
  unfold opV
  go_enter Tryz.func106, Tryz.ntmps106
  go_wp2_with fail
  refine (HC.out _).mono ?_
  rintro e w1 ⟨rfl, rfl⟩
  go_wp2_with fail
  go_ret2
  exact ⟨by rw [HT.out]; show _ = Ending.returned (.tuple #[.string ⟨(acc.drop n).toArray⟩, .bool true]); rw [← HD.out]; rfl, HB.out⟩

theorem stepS_any (o : OpT) (ins : List (List UInt8)) (v : Value) (acc : List UInt8) (w : World) (hrow : RowV w v (S ins)) (hok : opOk ins.length o = true) (ht : textsL ins = true) (ha : acc.length ≤ 40) :
    Calls Tryz.prog 106 #[opV o, v, .string ⟨acc.toArray⟩] w (StepPost (Pth.stepT o ins acc) w) := by
  obtain ⟨k, n, t⟩ := o
  simp only [textsL, Bool.and_eq_true, List.all_eq_true, decide_eq_true_eq] at ht
  simp only [opOk] at hok
  split at hok
  · rename_i h; subst h
    simp only [Bool.and_eq_true, decide_eq_true_eq] at hok
    obtain ⟨m, rfl⟩ : ∃ m : Nat, n = m := ⟨n.toNat, by omega⟩
    exact stepS_cat ins m t v acc w hrow ha (by omega) ht.1 ht.2
  split at hok
  · rename_i h; subst h
    simp only [Bool.and_eq_true, decide_eq_true_eq] at hok
    exact stepS_text ins n t v acc w ha hok.2
  split at hok
  · rename_i h; subst h
    simp only [Bool.and_eq_true, decide_eq_true_eq] at hok
    obtain ⟨m, rfl⟩ : ∃ m : Nat, n = m := ⟨n.toNat, by omega⟩
    exact stepS_drop ins m t v acc w ha (by omega)
  split at hok
  · rename_i h
    rcases h with h | h | h | h <;> subst h
    · exact stepS_upper ins n t v acc w ha
    · exact stepS_sort ins n t v acc w ha
    · exact stepS_count ins n t v acc w ha
    · exact stepS_fail ins n t v acc w
  · cases hok

end Go.Proofs.YtgolhfmmlanmlaaGreatDoor

/- Walks: the reference's StepRecipe. -/
namespace Go.Proofs.YtgolhfmmlanmlaaGreatDoor
open Go.RowKit Pth

/-- A text, whether it did not fail, whether it was told; only new memory. -/
def TellPost (ok : Bool) (t : Option (List UInt8)) (w : World) (e : Ending) (w' : World) : Prop := e = .returned (.tuple #[.string ⟨(txtO t).toArray⟩, .bool t.isSome, .bool ok]) ∧ Below w.heap.size w w'
theorem below_step {w w1 w2 : World} (h : Below w.heap.size w w1) (k : Below w1.heap.size w1 w2) : Below w.heap.size w w2 :=
  ⟨k.os.trans h.os, k.tape.trans h.tape, k.output.trans h.output, Nat.le_trans h.size k.size, fun i hi => (k.block i (Nat.lt_of_lt_of_le hi h.size)).trans (h.block i hi)⟩

theorem op_cells {w w1 : World} {k n : Int} {t : List UInt8} (hb : Below (w.alloc (.cells #[.int .i64 k, .int .i64 n, .string ⟨t.toArray⟩] 141)).heap.size (w.alloc (.cells #[.int .i64 k, .int .i64 n, .string ⟨t.toArray⟩] 141)) w1) :
    w1.cell? ⟨w.heap.size, 0, none⟩ = some (.int .i64 k) ∧ w1.cell? ⟨w.heap.size, 1, none⟩ = some (.int .i64 n) ∧ w1.cell? ⟨w.heap.size, 2, none⟩ = some (.string ⟨t.toArray⟩) := by
  have hh : (w.alloc (.cells #[.int .i64 k, .int .i64 n, .string ⟨t.toArray⟩] 141)).heap[w.heap.size]? = some (.cells #[.int .i64 k, .int .i64 n, .string ⟨t.toArray⟩] 141 (0, 0)) := Array.getElem?_push_size
  refine ⟨?_, ?_, ?_⟩ <;> (rw [hb.cell (by simp), Lib.cell_of_heap hh]; rfl)

end Go.Proofs.YtgolhfmmlanmlaaGreatDoor

/- Walks: the reference's RunRecipe. -/
namespace Go.Proofs.YtgolhfmmlanmlaaGreatDoor
open Go.RowKit Pth

theorem run_none {ins : List (List UInt8)} {r : List OpT} {k : Nat} {acc : List UInt8} {R : Option (List UInt8)} (h : R = Pth.runT ins (r.drop k) acc) (hk : k < r.length) (hs : Pth.stepT r[k] ins acc = none) : R = none := by
  rw [h, run_step hk, hs]; rfl
theorem run_some {ins : List (List UInt8)} {r : List OpT} {k : Nat} {acc y : List UInt8} {R : Option (List UInt8)} (h : R = Pth.runT ins (r.drop k) acc) (hk : k < r.length) (hs : Pth.stepT r[k] ins acc = some y) : R = Pth.runT ins (r.drop (k + 1)) y := by
  rw [h, run_step hk, hs]; rfl

/-- What is left to run behind a step. -/
def RunAt (R : Option (List UInt8)) (ins : List (List UInt8)) (r : List OpT) : Option (List UInt8) → Prop
  | none => R = none
  | some z => R = Pth.runT ins r z ∧ z.length ≤ 40

set_option maxRecDepth 20000 in
set_option maxHeartbeats 2000000 in
theorem runS_any (r : List OpT) (ins : List (List UInt8)) (v u : Value) (w : World) (hrow : RowO w v r) (hins : RowV w u (S ins)) (hok : r.all (opOk ins.length) = true) (ht : textsL ins = true) :
    Calls Tryz.prog 74 #[v, u] w (StepPost (Pth.runT ins r []) w) := by
  obtain ⟨a, cap, rfl, hc1, hc2, hat⟩ := hrow.ops
  have HI := Lib.hid hins
  have HK : Hid (∀ k (hk : k < r.length), opOk ins.length r[k] = true) := fun k hk => List.all_eq_true.1 hok _ (List.getElem_mem hk)
  have HX := Lib.hid ht
  clear hrow hins hok ht
  unfold maxLen at hc2
  obtain ⟨R, hR⟩ : ∃ R, R = Pth.runT ins r [] := ⟨_, rfl⟩
  rw [← hR]
  go_enter Tryz.func74, Tryz.ntmps74
  go_wp2_with fail
  go_loopw [6, 13] (fun s i wr => ∃ (k : Nat) (acc : List UInt8), k ≤ r.length ∧ acc.length ≤ 40 ∧ s = .string ⟨acc.toArray⟩ ∧ i = .int .i64 k ∧ Hid (Below w.heap.size w wr) ∧ Hid (R = Pth.runT ins (r.drop k) acc)) (fun _ i _ => r.length - (intOf i).toNat)
  case atStart => exact ⟨0, [], Nat.zero_le _, by simp, rfl, by go_num, Below.refl _ _, hR⟩
  case round =>
    clear hR
    obtain ⟨k, acc, hk, hacc, rfl, rfl, HB, HO⟩ := hrel
    have hbs := HB.out.size
    by_cases hlt : k < r.length
    · obtain ⟨g, o, rfl, hg, hcell1, hcell2, hcell3⟩ := hat k hlt
      have s1 := (HB.out.cell (p := ⟨g, o + k * 3, none⟩) hg).trans hcell1
      have s2 := (HB.out.cell (p := ⟨g, o + k * 3 + 1, none⟩) hg).trans hcell2
      have s3 := (HB.out.cell (p := ⟨g, o + k * 3 + 2, none⟩) hg).trans hcell3
      have HBA := Lib.hid (HB.out.alloc hbs (.cells #[.int .i64 r[k].1, .int .i64 r[k].2.1, .string ⟨r[k].2.2.toArray⟩] 141))
      have HC := Lib.hid (stepS_any r[k] ins u acc (wr.alloc (.cells #[.int .i64 r[k].1, .int .i64 r[k].2.1, .string ⟨r[k].2.2.toArray⟩] 141)) (HI.out.below HBA.out) (HK.out k hlt) HX.out hacc)
      obtain ⟨y, hy⟩ : ∃ y, Pth.stepT r[k] ins acc = y := ⟨_, rfl⟩
      have HS : Hid (RunAt R ins (r.drop (k + 1)) y) := by
        unfold Hid
        rcases y with _ | z
        · exact run_none HO.out hlt hy
        · exact ⟨run_some HO.out hlt hy, stepT_len hy⟩
      rw [hy] at HC
      clear hcell1 hcell2 hcell3 hat HO hy
      generalize r[k] = x at s1 s2 s3 HC HBA
      obtain ⟨x1, x2, x3⟩ := x
      unfold opV at HC
      simp only at s1 s2 s3 HC HBA
      rcases y with _ | z
      · have HV := Lib.hid (show R = none from HS.out)
        go_wp2_with fail
        refine HC.out.mono ?_
        rintro e w1 ⟨rfl, hb1⟩
        have HB1 := Lib.hid (HBA.out.trans (hb1.mono HBA.out.size))
        clear hb1 HC
        go_wp2_with fail
        go_ret2
        exact ⟨by rw [HV.out]; rfl, HB1.out⟩
      · have HV := Lib.hid (show R = Pth.runT ins (r.drop (k + 1)) z ∧ z.length ≤ 40 from HS.out)
        go_wp2_with fail
        refine HC.out.mono ?_
        rintro e w1 ⟨rfl, hb1⟩
        have HB1 := Lib.hid (HBA.out.trans (hb1.mono HBA.out.size))
        clear hb1 HC
        go_wp2_with fail
        go_roundw
        case rel => exact ⟨k + 1, z, by omega, HV.out.2, rfl, by go_num, HB1, HV.out.1⟩
        case measure => simp [intOf]; omega
    · have HV := Lib.hid (show R = some acc by rw [HO.out, List.drop_eq_nil_of_le (by omega)]; rfl)
      have hltz : ¬ ((k : Int) < (r.length : Int)) := by omega
      clear HO hat
      go_wp2_with fail
      go_ret2
      exact ⟨by rw [HV.out]; rfl, HB.out⟩

end Go.Proofs.YtgolhfmmlanmlaaGreatDoor

/- Walks: what is made of results as they are, of the reference. -/
namespace Go.Proofs.YtgolhfmmlanmlaaGreatDoor
open Go.RowKit Pth

theorem texts_of_sml {m : List ResT} {ns : List Int} (h : Sml m) (hn : ns.length ≤ 10) : textsL (bodiesL m ns) = true := by
  unfold textsL
  rw [Bool.and_eq_true, decide_eq_true_eq, bodies_len]
  refine ⟨List.all_eq_true.2 fun x hx => ?_, hn⟩
  obtain ⟨k, _, rfl⟩ := List.mem_map.1 hx
  rw [decide_eq_true_eq]
  unfold resAt
  rcases Nat.lt_or_ge k.toNat m.length with h1 | h1
  · rw [getD_at _ h1]; exact h _ (List.getElem_mem h1)
  · rw [List.getD_eq_getElem?_getD, List.getElem?_eq_none h1]; simp [noRes]

set_option maxRecDepth 20000 in
set_option maxHeartbeats 8000000 in
theorem specMake_any (ls : List (List Int)) (l : List Int) (bs : List Bool) (rs : List (List OpT)) (m : List ResT) (t : Nat) (v u : Value) (w : World) (hp : PlanV w v ls l bs rs) (hr : RowR w u m) (hpl : planA ls l bs rs = true) (hmb : m.length = bs.length) (ht : t < ls.length) (hxm : Sml m) :
    Calls Tryz.prog 40 #[v, u, .int .i64 (t : Int)] w fun e w' => e = .returned (resV (makeM ls rs m t)) ∧ Below w.heap.size w w' := by
  have hbl := (plan_parts hpl).2.1
  have hrl := (plan_parts hpl).2.2.1
  have htr : t < rs.length := by omega
  have HV := Lib.hid hp
  obtain ⟨nv, ov, sv, rv, rfl, h1, h2, h3, h4⟩ := hp
  obtain ⟨as0, cs, rfl, hs1, hs2, _⟩ := h3.boolsW
  obtain ⟨an, cn, rfl, hn1, hn2, hatn⟩ := h1.lists
  obtain ⟨ao, co, rfl, ho1, ho2, _⟩ := h2.ints
  obtain ⟨ar, cr, rfl, hr1, hr2, hatr⟩ := h4.lists
  clear h1 h2 h3 h4
  have HR := Lib.hid hr
  obtain ⟨am, cm, rfl, hm1, hm2, hatm⟩ := hr.res
  clear hr
  unfold maxLen at hs2 hn2 ho2 hr2 hm2
  obtain ⟨gr, or', ar2, cr2, rfl, hgr, hcr, hrr⟩ := hatr t htr
  obtain ⟨gn, on, an2, cn2, rfl, hgn, hcn, hrn⟩ := hatn t ht
  obtain ⟨_, _, hev, hcl, hcm, hatk⟩ := hrn.ints
  injection hev with hea _ hec
  subst hea hec
  unfold maxLen at hcm
  have hml : m.length = ls.length := by omega
  obtain ⟨hl10, hin⟩ := plan_task hpl ht
  obtain ⟨wp, hwp⟩ : ∃ wp, wp = w.alloc (.cells #[.slice (some ⟨gn, on, none⟩) ls.length cn, .slice ao l.length co, .slice as0 bs.length cs, .slice (some ⟨gr, or', none⟩) rs.length cr] 42) := ⟨_, rfl⟩
  obtain ⟨wa, hwa⟩ : ∃ wa, wa = wp.alloc (.cells #[.string ⟨#[]⟩, .int .i64 0] 75) := ⟨_, rfl⟩
  have ep : wp.heap.size = w.heap.size + 1 := by rw [hwp]; simp
  have ea : wa.heap.size = w.heap.size + 2 := by rw [hwa]; simp [ep]
  have P0 : Hid (Blk4 wa w.heap.size 42 (.slice (some ⟨gn, on, none⟩) ls.length cn) (.slice ao l.length co) (.slice as0 bs.length cs) (.slice (some ⟨gr, or', none⟩) rs.length cr)) := by rw [hwa, hwp]; exact Blk4.new.old _
  have R0 : Hid (Blk2 wa (w.heap.size + 1) 75 (.string ⟨#[]⟩) (.int .i64 0)) := by rw [hwa, ← ep]; exact Blk2.new
  have HA : Hid (Below w.heap.size w wa) := by rw [hwa, hwp]; exact ((Below.refl w.heap.size w).alloc (Nat.le_refl _) _).alloc (by simp) _
  have HWA : Hid ((w.alloc (.cells #[.slice (some ⟨gn, on, none⟩) ls.length cn, .slice ao l.length co, .slice as0 bs.length cs, .slice (some ⟨gr, or', none⟩) rs.length cr] 42)).alloc (.cells #[.string ⟨#[]⟩, .int .i64 0] 75) = wa) := by rw [hwa, hwp]; rfl
  have hsz : w.heap.size < wa.heap.size := by omega
  have hsz1 : w.heap.size + 1 < wa.heap.size := by omega
  clear hwa hwp ep
  have HATK := Lib.hid hatk
  have HATM := Lib.hid hatm
  have HIN := Lib.hid hin
  have HML := Lib.hid hml
  have HNC : Hid (wa.cell? ⟨gn, on + t, none⟩ = some (.slice an2 ls[t].length cn2)) := (HA.out.cell (p := ⟨gn, on + t, none⟩) hgn).trans hcn
  have HRC : Hid (wa.cell? ⟨gr, or' + t, none⟩ = some (.slice ar2 rs[t].length cr2)) := (HA.out.cell (p := ⟨gr, or' + t, none⟩) hgr).trans hcr
  have htz : (t : Int) < (ls.length : Int) := by omega
  have htq : (t : Int) < (rs.length : Int) := by omega
  have hgrw : gr < wa.heap.size := by omega
  have HSI := Lib.hid (fun W (h : Below w.heap.size w W) => specIns_any ls l bs rs m t _ _ W (HV.out.below h) (HR.out.below h) hpl hmb ht hxm)
  have hgood : goodR rs[t] (ls[t].length : Int) = true := by
    have := (plan_parts hpl).2.2.2 t ht
    rw [planP_at ht (by omega) htr, Bool.and_eq_true] at this
    exact this.1
  have hgo : rs[t].all (opOk ((bodiesL m ls[t]).length : Int)) = true := by rw [bodies_len]; exact (goodR_iff.1 hgood).2.2.2
  have htx : textsL (bodiesL m ls[t]) = true := texts_of_sml hxm (by omega)
  have HRUN := Lib.hid (fun W b (h : Below w.heap.size w W) (hb : RowV W b (S (bodiesL m ls[t]))) => runS_any rs[t] (bodiesL m ls[t]) _ b W (hrr.below h) hb hgo htx)
  obtain ⟨F, hF⟩ : ∃ F, firstL m ls[t] = F := ⟨_, rfl⟩
  obtain ⟨X, hX⟩ : ∃ X, Pth.runT (bodiesL m ls[t]) rs[t] [] = X := ⟨_, rfl⟩
  have HMK : Hid (makeM ls rs m t = madeR F.2 X.isSome (txtO X)) := by show _ = _; unfold makeM; rw [getD_at _ ht, getD_at _ htr, hF, hX]
  rw [hX] at HRUN
  obtain ⟨d, hd⟩ : ∃ d, X.isSome = d := ⟨_, rfl⟩
  obtain ⟨tx, htx2⟩ : ∃ tx, txtO X = tx := ⟨_, rfl⟩
  unfold StepPost at HRUN
  rw [hd, htx2] at HRUN HMK
  have HF := Lib.hid hF
  rw [HMK.out]
  clear hatn hatr hatm hatk hin hpl hrn hrr hml hmb hbl hrl hxm hgood hgo htx hX hcr hF hd htx2
  obtain ⟨c0, c1, c2, c3⟩ := P0.out.cells
  go_enter Tryz.func40, Tryz.ntmps40
  go_wp2_with fail
  rw [HWA.out]
  clear c0 c1 c2 c3 hcn
  go_loopw [18] (fun i wr => ∃ k : Nat, k ≤ ls[t].length ∧ i = .int .i64 k ∧ Hid (Below wa.heap.size wa wr) ∧ Hid (∀ x ∈ ls[t].take k, (resAt m x).2 = 0)) (fun i _ => ls[t].length - (intOf i).toNat)
  case atStart => exact ⟨0, Nat.zero_le _, rfl, Below.refl _ _, by simp [Hid]⟩
  case round =>
    obtain ⟨k, hk, rfl, HB, HO⟩ := hrel
    have HBW := Lib.hid (bth HA.out HB.out (Nat.le_refl _))
    by_cases hlt : k < ls[t].length
    · obtain ⟨g, o, rfl, hg, hcell0⟩ := HATK.out k hlt
      have hcell := (HBW.out.cell (p := ⟨g, o + k, none⟩) hg).trans hcell0
      obtain ⟨hx0, hx1⟩ := HIN.out _ (List.getElem_mem hlt)
      obtain ⟨y, hy⟩ : ∃ y : Nat, ls[t][k] = y := ⟨(ls[t][k]).toNat, by omega⟩
      have hym : y < m.length := by have := HML.out; omega
      obtain ⟨g2, o2, rfl, hg2, hm1', hm2'⟩ := HATM.out y hym
      have s1 := (HBW.out.cell (p := ⟨g2, o2 + y * 2, none⟩) hg2).trans hm1'
      have s2 := (HBW.out.cell (p := ⟨g2, o2 + y * 2 + 1, none⟩) hg2).trans hm2'
      have hra := resAt_nat hym
      have hyz : (y : Int) < (m.length : Int) := by omega
      by_cases hz : m[y].2 = 0
      · have HE : Hid (∀ x ∈ ls[t].take (k + 1), (resAt m x).2 = 0) := take_zero hlt HO.out (by rw [hy, hra]; exact hz)
        have e0 : (m[y].2 != 0) = false := by simp [hz]
        rw [hy] at hcell
        clear hcell0 hx0 hx1 hy hm1' hm2' HO hra hz HATK HATM HIN HF HRUN HSI HMK
        generalize m[y] = q at *
        obtain ⟨q1, q2⟩ := q
        simp only at s1 s2 e0
        obtain ⟨c0, c1, c2, c3⟩ := (P0.out.below HB.out hsz).cells
        go_wp2_with fail
        go_roundw
        case rel => exact ⟨k + 1, by omega, by go_num, HB, HE⟩
        case measure => simp [intOf]; omega
      · have HE : Hid (F = ((y : Int), true)) := by show _ = _; rw [← HF.out, first_yes hlt HO.out (by rw [hy, hra]; exact hz), hy]
        have e0 : (m[y].2 != 0) = true := by simp [hz]
        rw [hy] at hcell
        clear hcell0 hx0 hx1 hy hm1' hm2' HO hra hz HATK HATM HIN HF HRUN HSI HMK
        generalize m[y] = q at *
        obtain ⟨q1, q2⟩ := q
        simp only at s1 s2 e0
        have hRB := R0.out.below HB.out hsz1
        have HRB := Lib.hid hRB
        obtain ⟨r0, r1⟩ := hRB.cells
        have z0 := hRB.soft 0
        have z1 := hRB.soft 1
        clear hRB
        go_wp2_with fail
        have hZ := (HRB.out.set0 (.string ByteArray.empty)).set1 (.int .i64 2)
        refine bodyPost_ret (results_cellR rfl rfl (load_res hZ.cells.1 hZ.cells.2)) rfl ?_
        exact ⟨by rw [HE.out] <;> rfl, (HBW.out.setCell (p := ⟨w.heap.size + 1, 0, none⟩) (by show _ ≤ _ + 1; omega) _).setCell (p := ⟨w.heap.size + 1, 1, none⟩) (by show _ ≤ _ + 1; omega) _⟩
    · have HE : Hid (F = (0, false)) := by show _ = _; rw [← HF.out]; exact first_no (by have := HO.out; rwa [List.take_of_length_le (by omega)] at this)
      clear HO HATK HATM HIN HF HMK
      have hrc := (HB.out.cell (p := ⟨gr, or' + t, none⟩) hgrw).trans HRC.out
      have hszr : wa.heap.size ≤ wr.heap.size := HB.out.size
      have hltp : w.heap.size < wr.heap.size := by omega
      have hltr : w.heap.size + 1 < wr.heap.size := by omega
      have hltg : gr < wr.heap.size := by omega
      have PD : Hid (Blk4 wr.drew w.heap.size 42 (.slice (some ⟨gn, on, none⟩) ls.length cn) (.slice ao l.length co) (.slice as0 bs.length cs) (.slice (some ⟨gr, or', none⟩) rs.length cr)) := P0.out.below (Below.drew HB.out) hsz
      have RD : Hid (Blk2 wr.drew (w.heap.size + 1) 75 (.string ⟨#[]⟩) (.int .i64 0)) := R0.out.below (Below.drew HB.out) hsz1
      have HBD := Lib.hid (Below.drew HBW.out)
      have ks : (wr.drew.cell? ⟨w.heap.size, 0, none⟩ = some (.slice (some ⟨gn, on, none⟩) ls.length cn) ∧ wr.drew.cell? ⟨w.heap.size, 1, none⟩ = some (.slice ao l.length co) ∧ wr.drew.cell? ⟨w.heap.size, 2, none⟩ = some (.slice as0 bs.length cs) ∧ wr.drew.cell? ⟨w.heap.size, 3, none⟩ = some (.slice (some ⟨gr, or', none⟩) rs.length cr)) ∧ wr.drew.cell? ⟨gr, or' + t, none⟩ = some (.slice ar2 rs[t].length cr2) := ⟨PD.out.cells, hrc⟩
      have PDG : Hid (wr.drew.cell? ⟨gr, or' + t, none⟩ = some (.slice ar2 rs[t].length cr2)) := hrc
      clear hrc
      go_wp2_with fail
      go_region_held3 (fun w' => (w'.cell? ⟨w.heap.size, 0, none⟩ = some (.slice (some ⟨gn, on, none⟩) ls.length cn) ∧ w'.cell? ⟨w.heap.size, 1, none⟩ = some (.slice ao l.length co) ∧ w'.cell? ⟨w.heap.size, 2, none⟩ = some (.slice as0 bs.length cs) ∧ w'.cell? ⟨w.heap.size, 3, none⟩ = some (.slice (some ⟨gr, or', none⟩) rs.length cr)) ∧ w'.cell? ⟨gr, or' + t, none⟩ = some (.slice ar2 rs[t].length cr2)) (first | exact ks)
        (first
          | (go_at_call 41; refine (HSI.out _ (by exact HBD.out)).mono ?_; rintro e w7 ⟨v7, rfl, ho7, hb7⟩
             have ks := And.intro (PD.out.below hb7 hltp).cells ((hb7.cell (p := ⟨gr, or' + t, none⟩) hltg).trans PDG.out)
             have HRV7 := Lib.hid (RowV.of_own ho7)
             have C7 := Lib.hid hb7
             have D7 := Lib.hid (bth HBD.out hb7 (Nat.le_refl _))
             clear ho7 hb7)
          | (go_at_call 74; refine (HRUN.out _ _ (by exact D7.out) (by exact HRV7.out)).mono ?_; rintro e w8 ⟨rfl, hb8⟩
             have C8 := Lib.hid (bth C7.out hb8 (Nat.le_refl _))
             have ks := And.intro (PD.out.below C8.out hltp).cells ((C8.out.cell (p := ⟨gr, or' + t, none⟩) hltg).trans (PDG.out))
             clear hb8))
      all_goals
        have hRB := RD.out.below C8.out hltr
        have HR8 := Lib.hid hRB
        have HB8 := Lib.hid (bth HBD.out C8.out (Nat.le_refl _))
        obtain ⟨r0, r1⟩ := hRB.cells
        have z0 := hRB.soft 0
        have z1 := hRB.soft 1
        clear hRB ks
        rcases d with _ | _
        · go_wp2_with fail
          have hZ := (HR8.out.set0 (.string ByteArray.empty)).set1 (.int .i64 1)
          refine bodyPost_ret (results_cellR rfl rfl (load_res hZ.cells.1 hZ.cells.2)) rfl ?_
          exact ⟨by rw [HE.out] <;> rfl, (HB8.out.setCell (p := ⟨w.heap.size + 1, 0, none⟩) (by show _ ≤ _ + 1; omega) _).setCell (p := ⟨w.heap.size + 1, 1, none⟩) (by show _ ≤ _ + 1; omega) _⟩
        · go_wp2_with fail
          have hZ := (HR8.out.set0 (.string ⟨tx.toArray⟩)).set1 (.int .i64 0)
          refine bodyPost_ret (results_cellR rfl rfl (load_res hZ.cells.1 hZ.cells.2)) rfl ?_
          exact ⟨by rw [HE.out] <;> rfl, (HB8.out.setCell (p := ⟨w.heap.size + 1, 0, none⟩) (by show _ ≤ _ + 1; omega) _).setCell (p := ⟨w.heap.size + 1, 1, none⟩) (by show _ ≤ _ + 1; omega) _⟩

set_option maxRecDepth 20000 in
set_option maxHeartbeats 8000000 in
theorem specOne_any (ls : List (List Int)) (l : List Int) (bs : List Bool) (rs : List (List OpT)) (m : List ResT) (ts : List (List UInt8)) (t : Nat) (v u x : Value) (w : World) (hp : PlanV w v ls l bs rs) (hr : RowR w u m) (hts : RowV w x (S ts)) (hpl : planA ls l bs rs = true) (hmb : m.length = bs.length) (htb : ts.length = bs.length) (ht : t < ls.length) (hxm : Sml m) (hxt : ∀ y ∈ ts, y.length ≤ 40) :
    Calls Tryz.prog 96 #[v, u, x, .int .i64 (t : Int)] w fun e w' => e = .returned (resV (oneM ls bs rs ts m t)) ∧ Below w.heap.size w w' := by
  have hbl := (plan_parts hpl).2.1
  have htb' : t < bs.length := by omega
  have htt : t < ts.length := by omega
  have HV := Lib.hid hp
  obtain ⟨nv, ov, sv, rv, rfl, h1, h2, h3, h4⟩ := hp
  obtain ⟨as0, cs, rfl, hs1, hs2, hats⟩ := h3.boolsW
  obtain ⟨an, cn, rfl, hn1, hn2, _⟩ := h1.lists
  obtain ⟨ao, co, rfl, ho1, ho2, _⟩ := h2.ints
  obtain ⟨ar, cr, rfl, hr1, hr2, _⟩ := h4.lists
  clear h1 h2 h3 h4
  have HR := Lib.hid hr
  obtain ⟨am, cm, rfl, hm1, hm2, _⟩ := hr.res
  clear hr
  have HT := Lib.hid hts
  obtain ⟨at0, ct, rfl, ht1, ht2, hatt⟩ := hts.texts
  clear hts
  unfold maxLen at hs2 hn2 ho2 hr2 hm2 ht2
  obtain ⟨gs, os, rfl, hgs, hcs⟩ := hats t htb'
  obtain ⟨gt, ot, rfl, hgt, hct⟩ := hatt t htt
  obtain ⟨wp, hwp⟩ : ∃ wp, wp = w.alloc (.cells #[.slice an ls.length cn, .slice ao l.length co, .slice (some ⟨gs, os, none⟩) bs.length cs, .slice ar rs.length cr] 42) := ⟨_, rfl⟩
  obtain ⟨wa, hwa⟩ : ∃ wa, wa = wp.alloc (.cells #[.string ⟨#[]⟩, .int .i64 0] 75) := ⟨_, rfl⟩
  have ep : wp.heap.size = w.heap.size + 1 := by rw [hwp]; simp
  have ea : wa.heap.size = w.heap.size + 2 := by rw [hwa]; simp [ep]
  have P0 : Hid (Blk4 wa w.heap.size 42 (.slice an ls.length cn) (.slice ao l.length co) (.slice (some ⟨gs, os, none⟩) bs.length cs) (.slice ar rs.length cr)) := by rw [hwa, hwp]; exact Blk4.new.old _
  have R0 : Hid (Blk2 wa (w.heap.size + 1) 75 (.string ⟨#[]⟩) (.int .i64 0)) := by rw [hwa, ← ep]; exact Blk2.new
  have HA : Hid (Below w.heap.size w wa) := by rw [hwa, hwp]; exact ((Below.refl w.heap.size w).alloc (Nat.le_refl _) _).alloc (by simp) _
  have HWA : Hid ((w.alloc (.cells #[.slice an ls.length cn, .slice ao l.length co, .slice (some ⟨gs, os, none⟩) bs.length cs, .slice ar rs.length cr] 42)).alloc (.cells #[.string ⟨#[]⟩, .int .i64 0] 75) = wa) := by rw [hwa, hwp]; rfl
  have hsz : w.heap.size < wa.heap.size := by omega
  have hsz1 : w.heap.size + 1 < wa.heap.size := by omega
  clear hwa hwp ep
  have hzb : (t : Int) < (bs.length : Int) := by omega
  have hzt : (t : Int) < (ts.length : Int) := by omega
  have HMK := Lib.hid (specMake_any ls l bs rs m t _ _ wa (HV.out.below HA.out) (HR.out.below HA.out) hpl hmb ht hxm)
  have hxl : ts[t].length ≤ 40 := hxt _ (List.getElem_mem htt)
  have HO : Hid (oneM ls bs rs ts m t = if bs[t] then (ts[t], 0) else makeM ls rs m t) := by show _ = _; unfold oneM; rw [getD_at _ htb', getD_at _ htt]
  rw [HO.out]
  have hRB := R0.out
  obtain ⟨r0, r1⟩ := hRB.cells
  have z0 := hRB.soft 0
  have z1 := hRB.soft 1
  obtain ⟨c0, c1, c2, c3⟩ := P0.out.cells
  clear hats hatt hpl hmb hxm hxt HO hRB htb hbl
  generalize bs[t] = b at *
  generalize ts[t] = y at *
  generalize makeM ls rs m t = M at *
  obtain ⟨M1, M2⟩ := M
  rcases b with _ | _
  · go_enter Tryz.func96, Tryz.ntmps96
    go_wp2_with fail
    rw [HWA.out]
    unfold resV at HMK
    simp only at HMK
    refine HMK.out.mono ?_
    rintro e w1 ⟨rfl, hb1⟩
    have HB1 := Lib.hid hb1
    clear hb1 c0 c1 c2 c3 r0 r1 z0 z1
    have hRB := R0.out.below HB1.out hsz1
    have HRB := Lib.hid hRB
    obtain ⟨r0, r1⟩ := hRB.cells
    have z0 := hRB.soft 0
    have z1 := hRB.soft 1
    clear hRB
    go_wp2_with fail
    have hZ := (HRB.out.set0 (.string ⟨M1.toArray⟩)).set1 (.int .i64 M2)
    refine bodyPost_ret (results_cellR rfl rfl (load_res hZ.cells.1 hZ.cells.2)) rfl ?_
    exact ⟨by rfl, ((bth HA.out HB1.out (Nat.le_refl _)).setCell (p := ⟨w.heap.size + 1, 0, none⟩) (by show _ ≤ _ + 1; omega) _).setCell (p := ⟨w.heap.size + 1, 1, none⟩) (by show _ ≤ _ + 1; omega) _⟩
  · go_enter Tryz.func96, Tryz.ntmps96
    clear c0 c1 c2 c3 r0 r1 z0 z1
    go_wp2_with fail
    refine bodyPost_ret (results_cellR rfl rfl (load_res (x := .string ⟨y.toArray⟩) (y := .int .i64 0) (by go_simp) (by go_simp))) rfl ?_
    exact ⟨by rfl, ((Below.refl w.heap.size w).alloc (Nat.le_refl _) _).alloc (by simp) _⟩

end Go.Proofs.YtgolhfmmlanmlaaGreatDoor

/- Walks: a task made by the program; what it gives up with is caught. -/
namespace Go.Proofs.YtgolhfmmlanmlaaGreatDoor
open Go.RowKit Pth

theorem ta_given (v : Value) (w : World) : (Instr.typeAssert (.iface 152 v) 20 152 true).run Tryz.prog w = .ok (.tuple #[v, .bool true]) w := by kernel_rfl
theorem ta_given_nil (w : World) : (Instr.typeAssert .nilIface 20 152 true).run Tryz.prog w = .ok (.tuple #[.int .i64 0, .bool false]) w := by kernel_rfl
/-- What is given up with. -/
def gave (st : Int) : List PanicEntry := [{ v := .iface 152 (.int .i64 st), recovered := false }]

set_option maxRecDepth 20000 in
set_option maxHeartbeats 1000000 in
theorem catch_up (b : Nat) (st : Int) (x y : Value) (older : List PanicEntry) (w : World) (h0 : w.cell? ⟨b, 0, none⟩ = some x) (h1 : w.cell? ⟨b, 1, none⟩ = some y) (z0 : w.frozen? ⟨b, 0, none⟩ = false) (z1 : w.frozen? ⟨b, 1, none⟩ = false) :
    CallsD Tryz.prog 117 #[.pointer (some ⟨b, 0, none⟩)] (.panicking ({ v := .iface 152 (.int .i64 st), recovered := false } :: older)) w fun e u' w' =>
      e = .returned (.tuple #[]) ∧ u' = .panicking ({ v := .iface 152 (.int .i64 st), recovered := true } :: older) ∧ w' = (w.setCell ⟨b, 0, none⟩ (.string ByteArray.empty)).setCell ⟨b, 1, none⟩ (.int .i64 st) := by
  have q := ta_given (.int .i64 st)
  refine callsD_of_wpS Tryz.func117 rfl fun c₀ cs hu => ?_
  apply wpS_seq
  apply wpS_region
  simp [wpOpsS, go_sem, recoverD, hu, Tryz.ntmps117, Exit.thenS, q]
  apply wpS_seq
  apply wpS_region
  simp [wpOpsS, go_sem, Exit.thenS]
  refine wpS_cond (t := true) (by simp [Act.eval]) ?_
  simp only [if_true]
  apply wpS_region
  simp [wpOpsS, go_sem, h0, h1, z0, z1, bodyPostS, results, Tryz.results117]
  rfl

set_option maxRecDepth 20000 in
set_option maxHeartbeats 1000000 in
theorem catch_idle (b : Nat) (w : World) :
    CallsD Tryz.prog 117 #[.pointer (some ⟨b, 0, none⟩)] .returning w fun e u' w' => e = .returned (.tuple #[]) ∧ u' = .returning ∧ w' = w := by
  have q := ta_given_nil
  refine callsD_of_wpS Tryz.func117 rfl fun c₀ cs hu => ?_
  apply wpS_seq
  apply wpS_region
  simp [wpOpsS, go_sem, recoverD, hu, Tryz.ntmps117, Exit.thenS, q]
  apply wpS_seq
  apply wpS_region
  simp [wpOpsS, go_sem, Exit.thenS]
  refine wpS_cond (t := false) (by simp [Act.eval]) ?_
  simp only [Bool.false_eq_true, if_false]
  refine wpS_of_wp (wp_skip ?_)
  cases c₀
  simp_all [bodyPostS, results, Tryz.results117]

set_option maxHeartbeats 1000000 in
theorem textMade_b (t : List UInt8) (did ok : Bool) (v u : Value) (w : World)
    (HC : Calls Tryz.prog 140 #[v, u] w fun e w' => e = .returned (.tuple #[.string ⟨t.toArray⟩, .bool did, .bool ok]) ∧ Below w.heap.size w w') :
    Calls Tryz.prog 118 #[v, u] w fun e w' => (if did then e = .returned (.string ⟨t.toArray⟩) else e = .panicked (gave 1)) ∧ Below w.heap.size w w' := by
  have HC := Lib.hid HC
  rcases did with _ | _
  · go_enter Tryz.func118, Tryz.ntmps118
    go_wp2_with fail
    refine HC.out.mono ?_
    rintro e w1 ⟨rfl, hb1⟩
    have HB1 := Lib.hid hb1
    clear hb1
    go_wp2_with fail
    exact ⟨rfl, rfl, HB1.out⟩
  · go_enter Tryz.func118, Tryz.ntmps118
    go_wp2_with fail
    refine HC.out.mono ?_
    rintro e w1 ⟨rfl, hb1⟩
    have HB1 := Lib.hid hb1
    clear hb1
    go_wp2_with fail
    go_ret
    exact ⟨by simp, HB1.out⟩

/-- What is told of what a task needs, or what is given up with. -/
def ReadyPost (ts : List (List UInt8)) (blocked : Bool) (w : World) (e : Ending) (w' : World) : Prop :=
  Below w.heap.size w w' ∧ if blocked then e = .panicked (gave 2) else ∃ v, e = .returned v ∧ w'.ownsRow w.heap.size 9 1 v ts.length (S ts)

set_option maxRecDepth 20000 in
set_option maxHeartbeats 4000000 in
theorem bodiesReady_any (ls : List (List Int)) (l : List Int) (bs : List Bool) (rs : List (List OpT)) (m : List ResT) (t : Nat) (v u : Value) (w : World) (hp : PlanV w v ls l bs rs) (hr : RowR w u m) (hpl : planA ls l bs rs = true) (hmb : m.length = bs.length) (ht : t < ls.length) (hxm : ∀ f ∈ m, f.1.length ≤ 40) :
    Calls Tryz.prog 119 #[v, u, .int .i64 (t : Int)] w (ReadyPost (bodiesL m ls[t]) (firstL m ls[t]).2 w) := by
  have HV := Lib.hid hp
  have HR := Lib.hid hr
  obtain ⟨nv, ov, sv, rv, rfl, h1, h2, h3, h4⟩ := hp
  obtain ⟨as0, cs, rfl, hs1, hs2, _⟩ := h3.boolsW
  obtain ⟨an, cn, rfl, hn1, hn2, _⟩ := h1.lists
  obtain ⟨ao, co, rfl, ho1, ho2, _⟩ := h2.ints
  obtain ⟨ar, cr, rfl, hr1, hr2, _⟩ := h4.lists
  obtain ⟨am, cm, rfl, hm1, hm2, _⟩ := hr.res
  clear h1 h2 h3 h4 hr
  unfold maxLen at hs2 hn2 ho2 hr2 hm2
  obtain ⟨wa, hwa⟩ : ∃ wa, wa = w.alloc (.cells #[.slice an ls.length cn, .slice ao l.length co, .slice as0 bs.length cs, .slice ar rs.length cr] 42) := ⟨_, rfl⟩
  have hsz : w.heap.size < wa.heap.size := by rw [hwa]; simp
  have P0 : Hid (Blk4 wa w.heap.size 42 (.slice an ls.length cn) (.slice ao l.length co) (.slice as0 bs.length cs) (.slice ar rs.length cr)) := by rw [hwa]; exact Blk4.new
  have HA : Hid (Below w.heap.size w wa) := by rw [hwa]; exact (Below.refl w.heap.size w).alloc (Nat.le_refl _) _
  have HWA := Lib.hid hwa
  have HF := Lib.hid (first_any ls l bs rs m t _ _ wa (HV.out.below HA.out) (HR.out.below HA.out) hpl hmb ht)
  have HI := Lib.hid (fun W (h : Below w.heap.size w W) => implIns_any ls l bs rs m t _ _ W (HV.out.below h) (HR.out.below h) hpl hmb ht hxm)
  obtain ⟨c0, c1, c2, c3⟩ := P0.out.cells
  clear hwa hpl hmb hxm
  obtain ⟨r, hr⟩ : ∃ r, firstL m ls[t] = r := ⟨_, rfl⟩
  obtain ⟨ts, hts⟩ : ∃ ts, bodiesL m ls[t] = ts := ⟨_, rfl⟩
  rw [hr] at HF ⊢
  rw [hts] at HI ⊢
  clear hr hts
  obtain ⟨r1, r2⟩ := r
  unfold NumOk at HF
  simp only at HF ⊢
  cases r2 with
  | true =>
    go_enter Tryz.func119, Tryz.ntmps119
    go_wp2_with fail
    rw [← HWA.out]
    refine HF.out.mono ?_
    rintro e w1 ⟨rfl, hb1⟩
    have HB1 := Lib.hid (bth HA.out hb1 (Nat.le_refl _))
    clear hb1 c0 c1 c2 c3
    go_wp2_with fail
    exact ⟨rfl, HB1.out, rfl⟩
  | false =>
    go_enter Tryz.func119, Tryz.ntmps119
    go_wp2_with fail
    rw [← HWA.out]
    refine HF.out.mono ?_
    rintro e w1 ⟨rfl, hb1⟩
    have K1 := Lib.hid hb1
    have HB1 := Lib.hid (bth HA.out hb1 (Nat.le_refl _))
    clear hb1 c0 c1 c2 c3
    obtain ⟨c0, c1, c2, c3⟩ := (P0.out.below K1.out hsz).cells
    go_wp2_with fail
    refine (HI.out w1 HB1.out).mono ?_
    rintro e w2 ⟨v2, rfl, ho2', hb2⟩
    have HO2 := Lib.hid ho2'
    obtain ⟨q1, q2, rfl⟩ := own_slice ho2'
    have HB2 := Lib.hid (bth HB1.out hb2 (Nat.le_refl _))
    have hsb := HB1.out.size
    clear hb2 ho2' c0 c1 c2 c3
    go_wp2_with fail
    go_ret
    exact ⟨HB2.out, _, rfl, own_base HO2.out hsb⟩
end Go.Proofs.YtgolhfmmlanmlaaGreatDoor
