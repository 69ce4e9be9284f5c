/- The walks of FnExactDequeTake and FnExactDequeSteal: they answer true. -/
import Derived.Test.YthgpifeljeldjaaDqS
import Derived.Test.YthgpifeljeldjaaDqI
import Derived.Test.YthgpifeljeldjaaMkPr
import Derived.Test.YthgpifeljeldjaaEqP
namespace Go.Proofs.Ythgpifeljeldjaa
open Go.RowKit

theorem below_grownI2 {w w1 w2 : World} {B : Nat} {r : Option Nat} (h : Below B w w1) (hg : w1.grownBy w2 r) (hr : ∀ x, r = some x → B ≤ x) (hB : B ≤ w1.heap.size) : Below B w w2 :=
  ⟨hg.os.trans h.os, hg.tape.trans h.tape, hg.output.trans h.output, Nat.le_trans h.size hg.size, fun k hk => (hg.block k (by omega) (fun e => by have := hr k e.symm; omega)).trans (h.block k hk)⟩
theorem InssAt.grownF {w w' : World} {lo hi : Nat} {A : Option Addr} {l : List InsD} {r : Option Nat} (h : InssAt w (New lo hi) A l) (hg : w.grownBy w' r) (hr : ∀ x, r = some x → hi ≤ x) (hhi : hi ≤ w.heap.size) : InssAt w' (New lo hi) A l :=
  h.keep (fun b o hb => by
    have e := hg.block b (by have := hb.2; omega) (fun e => by have := hr b e.symm; have := hb.2; omega)
    simp only [World.cell?, e]) (fun _ h => h)

set_option maxRecDepth 100000 in
set_option maxHeartbeats 6400000 in
theorem exTake_of (r f : Int) (l : List InsD) (w : World) (hl : l.length ≤ 1000) (kS : ∀ w, Calls Try.prog 19 #[.int .i64 r, .int .i64 f] w fun e w' => InsR w w' e l) (kI : ∀ w, Calls Try.prog 20 #[.int .i64 r, .int .i64 f] w fun e w' => InsR w w' e l) :
    Calls Try.prog 4 #[.int .i64 r, .int .i64 f] w fun e w' => e = .returned (.bool true) ∧ Below w.heap.size w w' := by
  replace kS := hide kS
  replace kI := hide kI
  replace hl := hide hl
  go_enter Try.func4, Try.ntmps4
  go_wp2_with fail
  refine (kS.out _).mono ?_
  rintro e w1 hr
  obtain ⟨A1, c1, rfl, -, -, hi1, hb1⟩ := hr.at_
  have S1 := hide hi1
  have B1 := hide hb1
  have L1 := hide hb1.size
  clear hr hi1 hb1
  obtain ⟨h1, hh1⟩ : ∃ x, x = w1.heap.size := ⟨_, rfl⟩
  rw [← hh1] at S1 L1
  replace hh1 := hide (Nat.le_of_eq hh1)
  go_wp2_with fail
  refine (kI.out _).mono ?_
  rintro e w2 hr
  obtain ⟨A2, c2, rfl, -, ho2, hi2, hb2⟩ := hr.at_
  have O2 := hide (own_base ho2 hh1.out)
  have G2 := hide (hi2.more (S' := New h1 w2.heap.size) (fun b k => ⟨Nat.le_trans hh1.out k.1, k.2⟩))
  have S2 := hide (S1.out.below hb2 (fun b k => Nat.lt_of_lt_of_le k.2 hh1.out))
  have B2 := hide (B1.out.trans (hb2.mono B1.out.size))
  have Z2 := hide (Nat.le_trans hh1.out hb2.size)
  clear hr ho2 hi2 hb2 S1 B1 hh1
  go_wp2_with fail
  refine (eqInsS_any A2 A1 l c2 c1 (New w.heap.size w2.heap.size) _ (fun b k => k.2) (G2.out.more (fun b k => ⟨Nat.le_trans L1.out k.1, k.2⟩)) (S2.out.more (fun b k => ⟨k.1, Nat.lt_of_lt_of_le k.2 Z2.out⟩))).mono ?_
  rintro e w3 ⟨rfl, hb3⟩
  have O3 := hide (own_keep O2.out (fun b _ hlt => hb3.block b hlt))
  have S3 := hide (S2.out.below hb3 (fun b k => Nat.lt_of_lt_of_le k.2 Z2.out))
  have B3 := hide (B2.out.trans (hb3.mono B2.out.size))
  have Z3 := hide (Nat.le_trans Z2.out hb3.size)
  clear hb3 O2 G2 S2 B2 Z2
  go_wp2_with fail
  refine (markInsO (k := 1) O3.out (by have := hl.out; omega) (by omega)).mono ?_
  rintro e w4 ⟨rfl, ho4, hg4⟩
  have far := fun x (h : (Value.slice A2 l.length c2).ownBlock = some x) => (own_lt O3.out h).1
  have S4 := hide (S3.out.grownF hg4 far Z3.out)
  have B4 := hide (below_grownI2 B3.out hg4 (fun x h => Nat.le_trans L1.out (far x h)) B3.out.size)
  have Z4 := hide (Nat.le_trans Z3.out hg4.size)
  have ho5 : w4.ownsRow h1 71 6 (.slice A2 l.length c2) (markL 1 l.length).length (flat (markL 1 l.length)) := by rw [markL_len]; exact ho4
  obtain ⟨A3, c3, e3, -, hi4⟩ := own_inss ho5
  rw [markL_len] at e3
  cases e3
  have G4 := hide (hi4.more (S' := New h1 w4.heap.size) (fun b k => ⟨k.2.1, k.2.2⟩))
  clear far ho4 hg4 ho5 hi4 O3 S3 B3 Z3
  have hh4 := hide (Nat.le_refl w4.heap.size)
  obtain ⟨h4, hq4⟩ : ∃ x, x = w4.heap.size := ⟨_, rfl⟩
  rw [← hq4] at G4
  replace hq4 := hide (Nat.le_of_eq hq4)
  clear hh4
  obtain ⟨mz, hmz⟩ : ∃ mz : Int, mz = ((1 + l.length * 6 : Nat) : Int) := ⟨_, rfl⟩
  have kH := fun (w : World) (h : InssAt w (New h1 h4) A2 (markL 1 l.length)) => heldInsS_any A2 l.length c2 1 (New h1 h4) w (by have := hl.out; omega) (by omega) h
  rw [← hmz] at kH ⊢
  have hmz0 : decide (mz < 0) = false := decide_eq_false (by omega)
  have hmm : (mz != mz) = false := by simp
  replace kH := hide kH
  clear hmz
  go_wp2_with fail
  refine (kH.out _ G4.out).mono ?_
  rintro e wx ⟨rfl, rfl⟩
  go_wp2_with fail
  refine (kI.out _).mono ?_
  rintro e w5 hr
  obtain ⟨A5, c5, rfl, -, -, hi5, hb5⟩ := hr.at_
  have G5 := hide (G4.out.below hb5 (fun b k => Nat.lt_of_lt_of_le k.2 hq4.out))
  have S5 := hide (S4.out.below hb5 (fun b k => Nat.lt_of_lt_of_le k.2 Z4.out))
  have B5 := hide (B4.out.trans (hb5.mono B4.out.size))
  have Z5 := hide (Nat.le_trans Z4.out hb5.size)
  have Q5 := hide (Nat.le_trans hq4.out hb5.size)
  have H5 := hide (hi5.more (S' := New w.heap.size w5.heap.size) (fun b k => ⟨Nat.le_trans B4.out.size k.1, k.2⟩))
  clear hr hi5 hb5 G4 S4 B4 Z4 hq4
  go_wp2_with fail
  refine (eqInsS_any A5 A1 l c5 c1 (New w.heap.size w5.heap.size) _ (fun b k => k.2) H5.out (S5.out.more (fun b k => ⟨k.1, Nat.lt_of_lt_of_le k.2 Z5.out⟩))).mono ?_
  rintro e w6 ⟨rfl, hb6⟩
  have G6 := hide (G5.out.below hb6 (fun b k => Nat.lt_of_lt_of_le k.2 Q5.out))
  have B6 := hide (B5.out.trans (hb6.mono B5.out.size))
  clear hb6 G5 S5 B5 Z5 Q5 H5
  go_wp2_with fail
  refine (kH.out _ G6.out).mono ?_
  rintro e wx ⟨rfl, rfl⟩
  go_wp2_with fail
  go_ret
  exact ⟨rfl, B6.out⟩
theorem exTake_walk (r f : Int) (w : World) : Calls Try.prog 4 #[.int .i64 r, .int .i64 f] w fun e w' => e = .returned (.bool true) ∧ Below w.heap.size w w' := by
  cases h : rfB r f
  · exact exTake_of r f [] w (by simp) (fun w => stake_no r f w h) (fun w => ptake_no r f w h)
  · exact exTake_of r f (takeI r (tkB f)) w (by rw [takeI_len]; split <;> omega) (fun w => stake_yes r f w h) (fun w => ptake_yes r f w h)

set_option maxRecDepth 100000 in
set_option maxHeartbeats 6400000 in
theorem exSteal_of (r f : Int) (l : List InsD) (w : World) (hl : l.length ≤ 1000) (kS : ∀ w, Calls Try.prog 24 #[.int .i64 r, .int .i64 f] w fun e w' => InsR w w' e l) (kI : ∀ w, Calls Try.prog 25 #[.int .i64 r, .int .i64 f] w fun e w' => InsR w w' e l) :
    Calls Try.prog 5 #[.int .i64 r, .int .i64 f] w fun e w' => e = .returned (.bool true) ∧ Below w.heap.size w w' := by
  replace kS := hide kS
  replace kI := hide kI
  replace hl := hide hl
  go_enter Try.func5, Try.ntmps5
  go_wp2_with fail
  refine (kS.out _).mono ?_
  rintro e w1 hr
  obtain ⟨A1, c1, rfl, -, -, hi1, hb1⟩ := hr.at_
  have S1 := hide hi1
  have B1 := hide hb1
  have L1 := hide hb1.size
  clear hr hi1 hb1
  obtain ⟨h1, hh1⟩ : ∃ x, x = w1.heap.size := ⟨_, rfl⟩
  rw [← hh1] at S1 L1
  replace hh1 := hide (Nat.le_of_eq hh1)
  go_wp2_with fail
  refine (kI.out _).mono ?_
  rintro e w2 hr
  obtain ⟨A2, c2, rfl, -, ho2, hi2, hb2⟩ := hr.at_
  have O2 := hide (own_base ho2 hh1.out)
  have G2 := hide (hi2.more (S' := New h1 w2.heap.size) (fun b k => ⟨Nat.le_trans hh1.out k.1, k.2⟩))
  have S2 := hide (S1.out.below hb2 (fun b k => Nat.lt_of_lt_of_le k.2 hh1.out))
  have B2 := hide (B1.out.trans (hb2.mono B1.out.size))
  have Z2 := hide (Nat.le_trans hh1.out hb2.size)
  clear hr ho2 hi2 hb2 S1 B1 hh1
  go_wp2_with fail
  refine (eqInsS_any A2 A1 l c2 c1 (New w.heap.size w2.heap.size) _ (fun b k => k.2) (G2.out.more (fun b k => ⟨Nat.le_trans L1.out k.1, k.2⟩)) (S2.out.more (fun b k => ⟨k.1, Nat.lt_of_lt_of_le k.2 Z2.out⟩))).mono ?_
  rintro e w3 ⟨rfl, hb3⟩
  have O3 := hide (own_keep O2.out (fun b _ hlt => hb3.block b hlt))
  have S3 := hide (S2.out.below hb3 (fun b k => Nat.lt_of_lt_of_le k.2 Z2.out))
  have B3 := hide (B2.out.trans (hb3.mono B2.out.size))
  have Z3 := hide (Nat.le_trans Z2.out hb3.size)
  clear hb3 O2 G2 S2 B2 Z2
  go_wp2_with fail
  refine (markInsO (k := 1) O3.out (by have := hl.out; omega) (by omega)).mono ?_
  rintro e w4 ⟨rfl, ho4, hg4⟩
  have far := fun x (h : (Value.slice A2 l.length c2).ownBlock = some x) => (own_lt O3.out h).1
  have S4 := hide (S3.out.grownF hg4 far Z3.out)
  have B4 := hide (below_grownI2 B3.out hg4 (fun x h => Nat.le_trans L1.out (far x h)) B3.out.size)
  have Z4 := hide (Nat.le_trans Z3.out hg4.size)
  have ho5 : w4.ownsRow h1 71 6 (.slice A2 l.length c2) (markL 1 l.length).length (flat (markL 1 l.length)) := by rw [markL_len]; exact ho4
  obtain ⟨A3, c3, e3, -, hi4⟩ := own_inss ho5
  rw [markL_len] at e3
  cases e3
  have G4 := hide (hi4.more (S' := New h1 w4.heap.size) (fun b k => ⟨k.2.1, k.2.2⟩))
  clear far ho4 hg4 ho5 hi4 O3 S3 B3 Z3
  have hh4 := hide (Nat.le_refl w4.heap.size)
  obtain ⟨h4, hq4⟩ : ∃ x, x = w4.heap.size := ⟨_, rfl⟩
  rw [← hq4] at G4
  replace hq4 := hide (Nat.le_of_eq hq4)
  clear hh4
  obtain ⟨mz, hmz⟩ : ∃ mz : Int, mz = ((1 + l.length * 6 : Nat) : Int) := ⟨_, rfl⟩
  have kH := fun (w : World) (h : InssAt w (New h1 h4) A2 (markL 1 l.length)) => heldInsS_any A2 l.length c2 1 (New h1 h4) w (by have := hl.out; omega) (by omega) h
  rw [← hmz] at kH ⊢
  have hmz0 : decide (mz < 0) = false := decide_eq_false (by omega)
  have hmm : (mz != mz) = false := by simp
  replace kH := hide kH
  clear hmz
  go_wp2_with fail
  refine (kH.out _ G4.out).mono ?_
  rintro e wx ⟨rfl, rfl⟩
  go_wp2_with fail
  refine (kI.out _).mono ?_
  rintro e w5 hr
  obtain ⟨A5, c5, rfl, -, -, hi5, hb5⟩ := hr.at_
  have G5 := hide (G4.out.below hb5 (fun b k => Nat.lt_of_lt_of_le k.2 hq4.out))
  have S5 := hide (S4.out.below hb5 (fun b k => Nat.lt_of_lt_of_le k.2 Z4.out))
  have B5 := hide (B4.out.trans (hb5.mono B4.out.size))
  have Z5 := hide (Nat.le_trans Z4.out hb5.size)
  have Q5 := hide (Nat.le_trans hq4.out hb5.size)
  have H5 := hide (hi5.more (S' := New w.heap.size w5.heap.size) (fun b k => ⟨Nat.le_trans B4.out.size k.1, k.2⟩))
  clear hr hi5 hb5 G4 S4 B4 Z4 hq4
  go_wp2_with fail
  refine (eqInsS_any A5 A1 l c5 c1 (New w.heap.size w5.heap.size) _ (fun b k => k.2) H5.out (S5.out.more (fun b k => ⟨k.1, Nat.lt_of_lt_of_le k.2 Z5.out⟩))).mono ?_
  rintro e w6 ⟨rfl, hb6⟩
  have G6 := hide (G5.out.below hb6 (fun b k => Nat.lt_of_lt_of_le k.2 Q5.out))
  have B6 := hide (B5.out.trans (hb6.mono B5.out.size))
  clear hb6 G5 S5 B5 Z5 Q5 H5
  go_wp2_with fail
  refine (kH.out _ G6.out).mono ?_
  rintro e wx ⟨rfl, rfl⟩
  go_wp2_with fail
  go_ret
  exact ⟨rfl, B6.out⟩
theorem exSteal_walk (r f : Int) (w : World) : Calls Try.prog 5 #[.int .i64 r, .int .i64 f] w fun e w' => e = .returned (.bool true) ∧ Below w.heap.size w w' := by
  cases h : rfB r f
  · exact exSteal_of r f [] w (by simp) (fun w => ssteal_no r f w h) (fun w => psteal_no r f w h)
  · exact exSteal_of r f (stealI r (stB f)) w (by rw [stealI_len]; split <;> omega) (fun w => ssteal_yes r f w h) (fun w => psteal_yes r f w h)
end Go.Proofs.Ythgpifeljeldjaa
