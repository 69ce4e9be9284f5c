/- The program's TurnThreads. -/
import Derived.Test.YtjendjbbhohjcaaMn0
import Derived.Test.YtjendjbbhohjcaaMn9
import Derived.Test.YtjendjbbhohjcaaMn10
import Derived.Test.YtjendjbbhohjcaaRows
import Derived.BigQuiet
import Derived.Deep.QuietTactic
import Derived.BigRegion
import Derived.Deep.RegionHeld3
namespace Go.Proofs.Ytjendjbbhohjcaa
open Go.RowKit

set_option maxHeartbeats 400000 in
theorem known_any (o : Int) (w : World) :
    Calls Try.prog 113 #[.int .i64 o] w fun e w' => e = .returned (.bool (knownB o)) ∧ w = w' := by
  go_enter Try.func113, Try.ntmps113
  go_wp2
  all_goals
    go_ret
    exact ⟨ret_bool (by unfold knownB; simp; omega), rfl⟩


set_option maxHeartbeats 400000 in
theorem touches_any (o : Int) (w : World) :
    Calls Try.prog 112 #[.int .i64 o] w fun e w' => e = .returned (.int .i64 (touchN o)) ∧ w = w' := by
  go_enter Try.func112, Try.ntmps112
  go_wp2
  all_goals
    go_ret
    exact ⟨ret_int (by simp only [beq_iff_eq, beq_eq_false_iff_ne, ne_eq] at *; unfold touchN; first | (subst_vars; rfl) | (repeat rw [if_neg (by omega)])), rfl⟩

set_option maxHeartbeats 800000 in
theorem uses_any (o : Int) (w : World) :
    Calls Try.prog 124 #[.int .i64 o] w fun e w' => e = .returned (.agg #[.bool (uR o), .bool (uA o), .bool (uB o), .bool (uX o), .bool (uN o)]) ∧ Below w.heap.size w w' := by
  go_enter Try.func124, Try.ntmps124
  go_wp2
  all_goals
    refine bodyPost_ret (v := .agg #[.bool (uR o), .bool (uA o), .bool (uB o), .bool (uX o), .bool (uN o)]) ?_ rfl ⟨rfl, below1 _ _⟩
    first | (obtain ⟨e1, e2, e3, e4, e5⟩ := u_other o ‹_› ‹_› ‹_› ‹_› ‹_› ‹_› ‹_› ‹_› ‹_› ‹_› ‹_› ‹_› ‹_›; simp [results, Try.results124, go_sem, e1, e2, e3, e4, e5]; done) | (simp only [beq_iff_eq] at *; subst_vars; simp [results, Try.results124, go_sem, uR, uA, uB, uX, uN])



set_option maxHeartbeats 400000 in
theorem fields_any (o r a b x n : Int) (w : World) :
    Calls Try.prog 125 #[.agg #[.int .i64 o, .int .i64 r, .int .i64 a, .int .i64 b, .int .i64 x, .int .i64 n]] w fun e w' => e = .returned (.agg #[.int .i64 r, .int .i64 a, .int .i64 b, .int .i64 x, .int .i64 n]) ∧ Below w.heap.size w w' := by
  go_enter Try.func125, Try.ntmps125
  go_wp2
  exact bodyPost_ret (v := .agg #[.int .i64 r, .int .i64 a, .int .i64 b, .int .i64 x, .int .i64 n]) (by simp [results, Try.results125, go_sem]) rfl ⟨rfl, below2 _ _ _⟩

set_option maxHeartbeats 400000 in
theorem count_any (o r a b x n : Int) (w : World) :
    Calls Try.prog 111 #[.agg #[.int .i64 o, .int .i64 r, .int .i64 a, .int .i64 b, .int .i64 x, .int .i64 n]] w fun e w' => e = .returned (.int .i64 (countN o n)) ∧ Below w.heap.size w w' := by
  go_enter Try.func111, Try.ntmps111
  go_wp2
  all_goals
    go_ret
    exact ⟨ret_int (by simp only [beq_iff_eq, beq_eq_false_iff_ne, ne_eq] at *; unfold countN; first | (subst_vars; rfl) | (repeat rw [if_neg (by omega)])), below2 _ _ _⟩

end Go.Proofs.Ytjendjbbhohjcaa

namespace Go.Proofs.Ytjendjbbhohjcaa
open Go.RowKit

theorem regB_eq (r : Int) : (regB r = true ↔ (0 ≤ r ∧ r ≤ 5)) := by unfold regB; simp
theorem regB_no {r : Int} (h : ¬ (0 ≤ r ∧ r ≤ 5)) : regB r = false := by unfold regB; simpa using h

set_option maxHeartbeats 400000 in
theorem isReg_any (r : Int) (w : World) :
    Calls Try.prog 126 #[.int .i64 r] w fun e w' => e = .returned (.bool (regB r)) ∧ w = w' := by
  go_enter Try.func126, Try.ntmps126
  go_wp2
  all_goals
    go_ret
    exact ⟨ret_bool (by unfold regB; rw [Bool.eq_iff_iff]; simp; omega), rfl⟩

set_option maxHeartbeats 800000 in
theorem regs_any (o r a b x n : Int) (w : World) :
    Calls Try.prog 115 #[.agg #[.int .i64 o, .int .i64 r, .int .i64 a, .int .i64 b, .int .i64 x, .int .i64 n]] w fun e w' => e = .returned (.bool (regsB r a b)) ∧ Below w.heap.size w w' := by
  have HF := hide (show regsB r a b = (regB r && regB a && regB b) from rfl)
  have k1 := hide (fun w => isReg_any r w)
  have k2 := hide (fun w => isReg_any a w)
  have k3 := hide (fun w => isReg_any b w)
  generalize regB r = p1 at *
  generalize regB a = p2 at *
  generalize regB b = p3 at *
  cases p1
  · go_enter Try.func115, Try.ntmps115
    go_wp2_with fail
    refine (k1.out _).mono ?_; rintro e w1 ⟨rfl, rfl⟩
    go_wp2_with fail
    go_ret
    exact ⟨ret_bool (by rw [HF.out]; rfl), below1 _ _⟩
  cases p2
  · go_enter Try.func115, Try.ntmps115
    go_wp2_with fail
    refine (k1.out _).mono ?_; rintro e w1 ⟨rfl, rfl⟩
    go_wp2_with fail
    refine (k2.out _).mono ?_; rintro e w1 ⟨rfl, rfl⟩
    go_wp2_with fail
    go_ret
    exact ⟨ret_bool (by rw [HF.out]; rfl), below1 _ _⟩
  go_enter Try.func115, Try.ntmps115
  go_wp2_with fail
  refine (k1.out _).mono ?_; rintro e w1 ⟨rfl, rfl⟩
  go_wp2_with fail
  refine (k2.out _).mono ?_; rintro e w1 ⟨rfl, rfl⟩
  go_wp2_with fail
  refine (k3.out _).mono ?_; rintro e w1 ⟨rfl, rfl⟩
  go_wp2_with fail
  go_ret
  exact ⟨ret_bool (by rw [HF.out]; rfl), below1 _ _⟩

set_option maxHeartbeats 800000 in
theorem jump_any (o r a b x n i m : Int) (w : World) :
    Calls Try.prog 117 #[.agg #[.int .i64 o, .int .i64 r, .int .i64 a, .int .i64 b, .int .i64 x, .int .i64 n], .int .i64 i, .int .i64 m] w fun e w' => e = .returned (.bool (jumpB o n i m)) ∧ Below w.heap.size w w' := by
  go_enter Try.func117, Try.ntmps117
  go_wp2
  all_goals
    go_ret
    exact ⟨ret_bool (by simp only [beq_iff_eq, beq_eq_false_iff_ne, ne_eq] at *; unfold jumpB; rw [Bool.eq_iff_iff]; simp; try omega), below2 _ _ _⟩

set_option maxHeartbeats 800000 in
theorem cells_any (o r a b x n cells : Int) (w : World) (hc1 : -9223372036854775808 ≤ cells) (hc2 : cells ≤ 9223372036854775807) :
    Calls Try.prog 116 #[.agg #[.int .i64 o, .int .i64 r, .int .i64 a, .int .i64 b, .int .i64 x, .int .i64 n], .int .i64 cells] w fun e w' => e = .returned (.bool (cellsB o x n cells)) ∧ Below w.heap.size w w' := by
  go_enter Try.func116, Try.ntmps116
  go_wp2_with (first | (go_at_call 99; refine (kind_any _ _ _ _ _ _ _).mono ?_; rintro e w1 ⟨rfl, hb1⟩; obtain ⟨hcl1, hfz1⟩ := bcell hb1; have hz1 := size_step hb1) | (go_at_call 112; refine (touches_any _ _).mono ?_; rintro e w2 ⟨rfl, rfl⟩) | (go_at_call 111; refine (count_any _ _ _ _ _ _ _).mono ?_; rintro e w3 ⟨rfl, hb3⟩; obtain ⟨hcl3, hfz3⟩ := bcell hb3))
  all_goals
    go_ret
    refine ⟨ret_bool ?_, ?_⟩
  all_goals first | exact below_step ‹_› | exact below_then (below_step ‹_›) ‹_› | skip
  all_goals
    simp only [beq_iff_eq, beq_eq_false_iff_ne, ne_eq] at *
    unfold cellsB
    rw [Bool.eq_iff_iff]
    simp
    omega

set_option maxHeartbeats 800000 in
theorem zero_any (o r a b x n : Int) (w : World) :
    Calls Try.prog 114 #[.agg #[.int .i64 o, .int .i64 r, .int .i64 a, .int .i64 b, .int .i64 x, .int .i64 n]] w fun e w' => e = .returned (.bool (zeroB o r a b x n)) ∧ Below w.heap.size w w' := by
  have i0 : ∀ w, (Instr.index 145 (.agg #[.int .i64 r, .int .i64 a, .int .i64 b, .int .i64 x, .int .i64 n]) (.int .i64 0)).run Try.prog w = .ok (.int .i64 r) w := fun _ => by kernel_rfl
  have i1 : ∀ w, (Instr.index 145 (.agg #[.int .i64 r, .int .i64 a, .int .i64 b, .int .i64 x, .int .i64 n]) (.int .i64 1)).run Try.prog w = .ok (.int .i64 a) w := fun _ => by kernel_rfl
  have i2 : ∀ w, (Instr.index 145 (.agg #[.int .i64 r, .int .i64 a, .int .i64 b, .int .i64 x, .int .i64 n]) (.int .i64 2)).run Try.prog w = .ok (.int .i64 b) w := fun _ => by kernel_rfl
  have i3 : ∀ w, (Instr.index 145 (.agg #[.int .i64 r, .int .i64 a, .int .i64 b, .int .i64 x, .int .i64 n]) (.int .i64 3)).run Try.prog w = .ok (.int .i64 x) w := fun _ => by kernel_rfl
  have i4 : ∀ w, (Instr.index 145 (.agg #[.int .i64 r, .int .i64 a, .int .i64 b, .int .i64 x, .int .i64 n]) (.int .i64 4)).run Try.prog w = .ok (.int .i64 n) w := fun _ => by kernel_rfl
  go_enter Try.func114, Try.ntmps114
  go_wp2_with (first | (go_at_call 99; refine (kind_any _ _ _ _ _ _ _).mono ?_; rintro e w1 ⟨rfl, hb1⟩; obtain ⟨hcl1, hfz1⟩ := bcell hb1; have hz1 := size_step hb1) | (go_at_call 124; refine (uses_any _ _).mono ?_; rintro e w2 ⟨rfl, hb2⟩; obtain ⟨hcl2, hfz2⟩ := bcell hb2; have hz2 : w.heap.size < w2.heap.size := Nat.lt_of_lt_of_le hz1 hb2.size) | (go_at_call 125; refine (fields_any _ _ _ _ _ _ _).mono ?_; rintro e w3 ⟨rfl, hb3⟩; obtain ⟨hcl3, hfz3⟩ := bcell hb3))
  clear hcl1 hcl2 hfz1 hfz2 hfz3 hz1 hz2
  generalize efl1 : uR o = fl1 at *
  generalize efl2 : uA o = fl2 at *
  generalize efl3 : uB o = fl3 at *
  generalize efl4 : uX o = fl4 at *
  generalize efl5 : uN o = fl5 at *
  have Hu1 := hide efl1
  have Hu2 := hide efl2
  have Hu3 := hide efl3
  have Hu4 := hide efl4
  have Hu5 := hide efl5
  clear efl1 efl2 efl3 efl4 efl5
  go_loop [11] (fun i => (i = .int .i64 0) ∨ (i = .int .i64 1 ∧ Hid ((r == 0 || fl1) = true)) ∨ (i = .int .i64 2 ∧ Hid ((r == 0 || fl1) = true) ∧ Hid ((a == 0 || fl2) = true)) ∨ (i = .int .i64 3 ∧ Hid ((r == 0 || fl1) = true) ∧ Hid ((a == 0 || fl2) = true) ∧ Hid ((b == 0 || fl3) = true)) ∨ (i = .int .i64 4 ∧ Hid ((r == 0 || fl1) = true) ∧ Hid ((a == 0 || fl2) = true) ∧ Hid ((b == 0 || fl3) = true) ∧ Hid ((x == 0 || fl4) = true)) ∨ (i = .int .i64 5 ∧ Hid ((r == 0 || fl1) = true) ∧ Hid ((a == 0 || fl2) = true) ∧ Hid ((b == 0 || fl3) = true) ∧ Hid ((x == 0 || fl4) = true) ∧ Hid ((n == 0 || fl5) = true))) (fun i => (5 - intOf i).toNat)
  case atStart => exact .inl rfl
  case round =>
    rcases hrel with rfl | ⟨rfl, g1⟩ | ⟨rfl, g1, g2⟩ | ⟨rfl, g1, g2, g3⟩ | ⟨rfl, g1, g2, g3, g4⟩ | ⟨rfl, g1, g2, g3, g4, g5⟩
    · by_cases h : r = 0
      · have e1 : (r != 0) = false := by simp [h]
        have g1 : Hid ((r == 0 || fl1) = true) := hide (by simp [h])
        clear h
        go_wp2
        go_round
        case rel => exact .inr (.inl ⟨rfl, g1⟩)
        case measure => simp [intOf]
      · have e1 : (r != 0) = true := by simp [h]
        have e2 : (r == 0) = false := by simp [h]
        clear h
        have H2 := hide e2
        clear e2
        cases fl1
        · go_wp2
          go_ret
          exact ⟨ret_bool (by unfold zeroB; rw [Hu1.out, Hu2.out, Hu3.out, Hu4.out, Hu5.out, H2.out]; simp), below_then (below_then (below_step hb1) hb2) (below_step hb3)⟩
        · go_wp2
          go_round
          case rel => exact .inr (.inl ⟨rfl, hide (by simp)⟩)
          case measure => simp [intOf]
    · by_cases h : a = 0
      · have e1 : (a != 0) = false := by simp [h]
        have g2 : Hid ((a == 0 || fl2) = true) := hide (by simp [h])
        clear h
        go_wp2
        go_round
        case rel => exact .inr (.inr (.inl ⟨rfl, g1, g2⟩))
        case measure => simp [intOf]
      · have e1 : (a != 0) = true := by simp [h]
        have e2 : (a == 0) = false := by simp [h]
        clear h
        have H2 := hide e2
        clear e2
        cases fl2
        · go_wp2
          go_ret
          exact ⟨ret_bool (by unfold zeroB; rw [Hu1.out, Hu2.out, Hu3.out, Hu4.out, Hu5.out, H2.out]; simp), below_then (below_then (below_step hb1) hb2) (below_step hb3)⟩
        · go_wp2
          go_round
          case rel => exact .inr (.inr (.inl ⟨rfl, g1, hide (by simp)⟩))
          case measure => simp [intOf]
    · by_cases h : b = 0
      · have e1 : (b != 0) = false := by simp [h]
        have g3 : Hid ((b == 0 || fl3) = true) := hide (by simp [h])
        clear h
        go_wp2
        go_round
        case rel => exact .inr (.inr (.inr (.inl ⟨rfl, g1, g2, g3⟩)))
        case measure => simp [intOf]
      · have e1 : (b != 0) = true := by simp [h]
        have e2 : (b == 0) = false := by simp [h]
        clear h
        have H2 := hide e2
        clear e2
        cases fl3
        · go_wp2
          go_ret
          exact ⟨ret_bool (by unfold zeroB; rw [Hu1.out, Hu2.out, Hu3.out, Hu4.out, Hu5.out, H2.out]; simp), below_then (below_then (below_step hb1) hb2) (below_step hb3)⟩
        · go_wp2
          go_round
          case rel => exact .inr (.inr (.inr (.inl ⟨rfl, g1, g2, hide (by simp)⟩)))
          case measure => simp [intOf]
    · by_cases h : x = 0
      · have e1 : (x != 0) = false := by simp [h]
        have g4 : Hid ((x == 0 || fl4) = true) := hide (by simp [h])
        clear h
        go_wp2
        go_round
        case rel => exact .inr (.inr (.inr (.inr (.inl ⟨rfl, g1, g2, g3, g4⟩))))
        case measure => simp [intOf]
      · have e1 : (x != 0) = true := by simp [h]
        have e2 : (x == 0) = false := by simp [h]
        clear h
        have H2 := hide e2
        clear e2
        cases fl4
        · go_wp2
          go_ret
          exact ⟨ret_bool (by unfold zeroB; rw [Hu1.out, Hu2.out, Hu3.out, Hu4.out, Hu5.out, H2.out]; simp), below_then (below_then (below_step hb1) hb2) (below_step hb3)⟩
        · go_wp2
          go_round
          case rel => exact .inr (.inr (.inr (.inr (.inl ⟨rfl, g1, g2, g3, hide (by simp)⟩))))
          case measure => simp [intOf]
    · by_cases h : n = 0
      · have e1 : (n != 0) = false := by simp [h]
        have g5 : Hid ((n == 0 || fl5) = true) := hide (by simp [h])
        clear h
        go_wp2
        go_round
        case rel => exact .inr (.inr (.inr (.inr (.inr ⟨rfl, g1, g2, g3, g4, g5⟩))))
        case measure => simp [intOf]
      · have e1 : (n != 0) = true := by simp [h]
        have e2 : (n == 0) = false := by simp [h]
        clear h
        have H2 := hide e2
        clear e2
        cases fl5
        · go_wp2
          go_ret
          exact ⟨ret_bool (by unfold zeroB; rw [Hu1.out, Hu2.out, Hu3.out, Hu4.out, Hu5.out, H2.out]; simp), below_then (below_then (below_step hb1) hb2) (below_step hb3)⟩
        · go_wp2
          go_round
          case rel => exact .inr (.inr (.inr (.inr (.inr ⟨rfl, g1, g2, g3, g4, hide (by simp)⟩))))
          case measure => simp [intOf]
    · go_wp2
      go_ret
      exact ⟨ret_bool (by unfold zeroB; rw [Hu1.out, Hu2.out, Hu3.out, Hu4.out, Hu5.out, g1.out, g2.out, g3.out, g4.out, g5.out]; rfl), below_then (below_then (below_step hb1) hb2) (below_step hb3)⟩
end Go.Proofs.Ytjendjbbhohjcaa

namespace Go.Proofs.Ytjendjbbhohjcaa
open Go.RowKit

set_option maxHeartbeats 1600000 in
theorem ins_any (o r a b x n i cells m : Int) (w : World) (hc1 : -9223372036854775808 ≤ cells) (hc2 : cells ≤ 9223372036854775807) :
    Calls Try.prog 102 #[.agg #[.int .i64 o, .int .i64 r, .int .i64 a, .int .i64 b, .int .i64 x, .int .i64 n], .int .i64 i, .int .i64 cells, .int .i64 m] w fun e w' => e = .returned (.bool (insB o r a b x n i cells m)) ∧ Below w.heap.size w w' := by
  have HF := hide (show insB o r a b x n i cells m = (knownB o && zeroB o r a b x n && regsB r a b && cellsB o x n cells && jumpB o n i m) from rfl)
  have k1 := hide (fun w => known_any o w)
  have k2 := hide (fun w => zero_any o r a b x n w)
  have k3 := hide (fun w => regs_any o r a b x n w)
  have k4 := hide (fun w => cells_any o r a b x n cells w hc1 hc2)
  have k5 := hide (fun w => jump_any o r a b x n i m w)
  clear hc1 hc2
  generalize knownB o = p1 at *
  generalize zeroB o r a b x n = p2 at *
  generalize regsB r a b = p3 at *
  generalize cellsB o x n cells = p4 at *
  generalize jumpB o n i m = p5 at *
  cases p1
  · go_enter Try.func102, Try.ntmps102
    go_wp2_with (first | (go_at_call 99; refine (kind_any _ _ _ _ _ _ _).mono ?_; rintro e w1 ⟨rfl, hb1⟩; obtain ⟨hcl1, hfz1⟩ := bcell hb1; have hz1 := size_step hb1) | (go_at_call 113; refine (k1.out _).mono ?_; rintro e w2 ⟨rfl, rfl⟩))
    go_ret
    exact ⟨ret_bool (by rw [HF.out]; rfl), below_step hb1⟩
  cases p2
  · go_enter Try.func102, Try.ntmps102
    go_wp2_with (first | (go_at_call 99; refine (kind_any _ _ _ _ _ _ _).mono ?_; rintro e w1 ⟨rfl, hb1⟩; obtain ⟨hcl1, hfz1⟩ := bcell hb1; have hz1 := size_step hb1) | (go_at_call 113; refine (k1.out _).mono ?_; rintro e w2 ⟨rfl, rfl⟩) | (go_at_call 114; refine (k2.out _).mono ?_; rintro e w2 ⟨rfl, hb2⟩; obtain ⟨hcl2, hfz2⟩ := bcell hb2; have hz2 := Nat.lt_of_lt_of_le hz1 hb2.size))
    go_ret
    exact ⟨ret_bool (by rw [HF.out]; rfl), below_then (below_step hb1) hb2⟩
  cases p3
  · go_enter Try.func102, Try.ntmps102
    go_wp2_with (first | (go_at_call 99; refine (kind_any _ _ _ _ _ _ _).mono ?_; rintro e w1 ⟨rfl, hb1⟩; obtain ⟨hcl1, hfz1⟩ := bcell hb1; have hz1 := size_step hb1) | (go_at_call 113; refine (k1.out _).mono ?_; rintro e w2 ⟨rfl, rfl⟩) | (go_at_call 114; refine (k2.out _).mono ?_; rintro e w2 ⟨rfl, hb2⟩; obtain ⟨hcl2, hfz2⟩ := bcell hb2; have hz2 := Nat.lt_of_lt_of_le hz1 hb2.size) | (go_at_call 115; refine (k3.out _).mono ?_; rintro e w3 ⟨rfl, hb3⟩; obtain ⟨hcl3, hfz3⟩ := bcell hb3; have hz3 := Nat.lt_of_lt_of_le hz2 hb3.size))
    go_ret
    exact ⟨ret_bool (by rw [HF.out]; rfl), below_then (below_then (below_step hb1) hb2) hb3⟩
  cases p4
  · go_enter Try.func102, Try.ntmps102
    go_wp2_with (first | (go_at_call 99; refine (kind_any _ _ _ _ _ _ _).mono ?_; rintro e w1 ⟨rfl, hb1⟩; obtain ⟨hcl1, hfz1⟩ := bcell hb1; have hz1 := size_step hb1) | (go_at_call 113; refine (k1.out _).mono ?_; rintro e w2 ⟨rfl, rfl⟩) | (go_at_call 114; refine (k2.out _).mono ?_; rintro e w2 ⟨rfl, hb2⟩; obtain ⟨hcl2, hfz2⟩ := bcell hb2; have hz2 := Nat.lt_of_lt_of_le hz1 hb2.size) | (go_at_call 115; refine (k3.out _).mono ?_; rintro e w3 ⟨rfl, hb3⟩; obtain ⟨hcl3, hfz3⟩ := bcell hb3; have hz3 := Nat.lt_of_lt_of_le hz2 hb3.size) | (go_at_call 116; refine (k4.out _).mono ?_; rintro e w4 ⟨rfl, hb4⟩; obtain ⟨hcl4, hfz4⟩ := bcell hb4; have hz4 := Nat.lt_of_lt_of_le hz3 hb4.size))
    go_ret
    exact ⟨ret_bool (by rw [HF.out]; rfl), below_then (below_then (below_then (below_step hb1) hb2) hb3) hb4⟩
  go_enter Try.func102, Try.ntmps102
  go_wp2_with (first | (go_at_call 99; refine (kind_any _ _ _ _ _ _ _).mono ?_; rintro e w1 ⟨rfl, hb1⟩; obtain ⟨hcl1, hfz1⟩ := bcell hb1; have hz1 := size_step hb1) | (go_at_call 113; refine (k1.out _).mono ?_; rintro e w2 ⟨rfl, rfl⟩) | (go_at_call 114; refine (k2.out _).mono ?_; rintro e w2 ⟨rfl, hb2⟩; obtain ⟨hcl2, hfz2⟩ := bcell hb2; have hz2 := Nat.lt_of_lt_of_le hz1 hb2.size) | (go_at_call 115; refine (k3.out _).mono ?_; rintro e w3 ⟨rfl, hb3⟩; obtain ⟨hcl3, hfz3⟩ := bcell hb3; have hz3 := Nat.lt_of_lt_of_le hz2 hb3.size) | (go_at_call 116; refine (k4.out _).mono ?_; rintro e w4 ⟨rfl, hb4⟩; obtain ⟨hcl4, hfz4⟩ := bcell hb4; have hz4 := Nat.lt_of_lt_of_le hz3 hb4.size) | (go_at_call 117; refine (k5.out _).mono ?_; rintro e w5 ⟨rfl, hb5⟩))
  go_ret
  exact ⟨ret_bool (by rw [HF.out]; rfl), below_then (below_then (below_then (below_then (below_step hb1) hb2) hb3) hb4) hb5⟩
end Go.Proofs.Ytjendjbbhohjcaa

namespace Go.Proofs.Ytjendjbbhohjcaa
open Go.RowKit

def insBD (d : InsD) (i cells m : Int) : Bool := insB d.o d.r d.a d.b d.x d.n i cells m
def thrB (l : List InsD) (cells : Nat) : Bool := decide (l.length ≤ 24) && allB (fun k => insBD (getd l k) k cells l.length) l.length
def sizesB (p : ProgD) : Bool := decide (1 ≤ p.init.length ∧ p.init.length ≤ 6 ∧ 1 ≤ p.ts.length ∧ p.ts.length ≤ 3)
def progB (p : ProgD) : Bool := sizesB p && allB (fun k => thrB (gett p.ts k) p.init.length) p.ts.length

theorem insBD_any (d : InsD) (i cells m : Int) (w : World) (hc1 : -9223372036854775808 ≤ cells) (hc2 : cells ≤ 9223372036854775807) :
    Calls Try.prog 102 #[.agg #[.int .i64 d.o, .int .i64 d.r, .int .i64 d.a, .int .i64 d.b, .int .i64 d.x, .int .i64 d.n], .int .i64 i, .int .i64 cells, .int .i64 m] w fun e w' => e = .returned (.bool (insBD d i cells m)) ∧ Below w.heap.size w w' :=
  ins_any d.o d.r d.a d.b d.x d.n i cells m w hc1 hc2

set_option maxHeartbeats 800000 in
theorem thrOk_any (A : Option Addr) (l : List InsD) (c cells : Nat) (S : Nat → Prop) (w : World) (hcells : cells ≤ 9223372036854775807) (hS : ∀ b, S b → b < w.heap.size) (ha : InssAt w S A l) :
    Calls Try.prog 71 #[.agg #[.slice A l.length c], .int .i64 cells] w fun e w' => e = .returned (.bool (thrB l cells)) ∧ Below w.heap.size w w' := by
  have hn := ha.1
  by_cases h24 : 24 < l.length
  · have HF := hide (show thrB l cells = false by unfold thrB; simp; omega)
    have h24' : (24 : Int) < (l.length : Int) := by omega
    go_enter Try.func71, Try.ntmps71
    go_wp2
    go_ret
    exact ⟨ret_bool HF.out.symm, below1 _ _⟩
  · have hle : (l.length : Int) ≤ 24 := by omega
    have hb0 := below1 w (Obj.cells #[Value.slice A l.length c] 45)
    go_enter Try.func71, Try.ntmps71
    go_wp2
    go_loopw [14] (fun i wr => ∃ (k : Nat), k ≤ l.length ∧ i = .int .i64 k ∧ Hid (∀ j, j < k → insBD (getd l j) j cells l.length = true) ∧ Below (w.alloc (Obj.cells #[Value.slice A l.length c] 45)).heap.size (w.alloc (Obj.cells #[Value.slice A l.length c] 45)) wr) (fun i _ => l.length - (intOf i).toNat)
    case atStart => exact ⟨0, Nat.zero_le _, rfl, hide (fun j hj => by omega), Below.refl _ _⟩
    case round =>
      obtain ⟨k, hk, rfl, hj, hb⟩ := hrel
      by_cases hlt : k < l.length
      · obtain ⟨b, off, rfl, hbB, hc⟩ := ((ha.below hb0 hS).below hb (fun b h => Nat.lt_of_lt_of_le (hS b h) hb0.size)).2 (by omega)
        obtain ⟨c0, c1, c2, c3, c4, c5⟩ := hc k hlt
        obtain ⟨hcl, hfz⟩ := bcell hb
        have hsz := size_step hb
        have kc := hide (fun w => insBD_any (getd l k) k cells l.length w (by omega) (by omega))
        clear hc
        cases hr : insBD (getd l k) k cells l.length
        · have HF := hide (show thrB l cells = false by unfold thrB; rw [allB_no hlt hr]; simp)
          rw [hr] at kc
          clear hr
          go_wp2_with (go_at_call 102; refine (kc.out _).mono ?_; rintro e w3 ⟨rfl, hb3⟩)
          go_ret
          exact ⟨ret_bool HF.out.symm, below_then (below_then hb0 hb) (below_step hb3)⟩
        · rw [hr] at kc
          have HR := hide hr
          clear hr
          go_wp2_with (go_at_call 102; refine (kc.out _).mono ?_; rintro e w3 ⟨rfl, hb3⟩)
          go_roundw
          case rel =>
            refine ⟨k + 1, by omega, by go_num, hide (fun j hjk => ?_), hb.trans ((below_step hb3).mono hb.size)⟩
            by_cases e : j = k
            · subst e; exact HR.out
            · exact hj.out j (by omega)
          case measure => simp [intOf]; omega
      · obtain rfl : k = l.length := by omega
        have HF := hide (show thrB l cells = true by unfold thrB; rw [allB_yes hj.out]; simp; omega)
        go_wp2
        go_ret
        exact ⟨ret_bool HF.out.symm, below_then hb0 hb⟩

set_option maxHeartbeats 800000 in
theorem progOk_any (v : Value) (p : ProgD) (S : Nat → Prop) (w : World) (hS : ∀ b, S b → b < w.heap.size) (hp : ProgAt w S v p) :
    Calls Try.prog 25 #[v] w fun e w' => e = .returned (.bool (progB p)) ∧ Below w.heap.size w w' := by
  obtain ⟨A, c, A', c', rfl, hcc, hi, ht⟩ := hp
  have hn := hi.1
  have hn' := ht.1
  have hb0 := below1 w (Obj.cells #[Value.slice A p.init.length c, Value.slice A' p.ts.length c'] 37)
  by_cases hs : 1 ≤ p.init.length ∧ p.init.length ≤ 6 ∧ 1 ≤ p.ts.length ∧ p.ts.length ≤ 3
  · obtain ⟨s1, s2, s3, s4⟩ := hs
    have HSz := hide (show sizesB p = true by unfold sizesB; simp; omega)
    have q1 : decide ((p.init.length : Int) < 1) = false := by simp; omega
    have q2 : decide ((6 : Int) < (p.init.length : Int)) = false := by simp; omega
    have q3 : decide ((p.ts.length : Int) < 1) = false := by simp; omega
    have q4 : decide ((3 : Int) < (p.ts.length : Int)) = false := by simp; omega
    go_enter Try.func25, Try.ntmps25
    go_wp2
    go_quiet (fail)
    go_wp2
    clear q1 q2 q3 q4
    have hbq := below_drewN hb0 nq
    generalize hW : (w.alloc (Obj.cells #[Value.slice A p.init.length c, Value.slice A' p.ts.length c'] 37)).drewN nq = W at *
    clear hW
    go_loopw [30] (fun i wr => ∃ (k : Nat), k ≤ p.ts.length ∧ i = .int .i64 k ∧ Hid (∀ j, j < k → thrB (gett p.ts j) p.init.length = true) ∧ Below w.heap.size w wr) (fun i _ => p.ts.length - (intOf i).toNat)
    case atStart => exact ⟨0, Nat.zero_le _, rfl, hide (fun j hj => by omega), hbq⟩
    case round =>
      obtain ⟨k, hk, rfl, hj, hb⟩ := hrel
      by_cases hlt : k < p.ts.length
      · obtain ⟨b, off, rfl, hbB, hc⟩ := (ht.below hb hS).2 (by omega)
        obtain ⟨A2, c2, hcell, hcap, hin⟩ := hc k hlt
        have hin1 := fun o => hin.below (below1 wr o) (fun b h => Nat.lt_of_lt_of_le (hS b h) hb.size)
        have kc := hide (fun w hS ha => thrOk_any A2 (gett p.ts k) c2 p.init.length S w hn hS ha)
        have HIN := hide hin1
        clear hc hin hin1
        cases hr : thrB (gett p.ts k) p.init.length
        · have HF := hide (show progB p = false by unfold progB; rw [allB_no hlt hr]; simp)
          rw [hr] at kc
          clear hr
          go_wp2_with (go_at_call 71; refine (kc.out _ (fun b h => Nat.lt_of_lt_of_le (Nat.lt_of_lt_of_le (hS b h) hb.size) (below1 _ _).size) (HIN.out _)).mono ?_; rintro e w3 ⟨rfl, hb3⟩)
          go_ret
          exact ⟨ret_bool HF.out.symm, below_then hb (below_step hb3)⟩
        · rw [hr] at kc
          have HR := hide hr
          clear hr
          go_wp2_with (go_at_call 71; refine (kc.out _ (fun b h => Nat.lt_of_lt_of_le (Nat.lt_of_lt_of_le (hS b h) hb.size) (below1 _ _).size) (HIN.out _)).mono ?_; rintro e w3 ⟨rfl, hb3⟩)
          go_roundw
          case rel =>
            refine ⟨k + 1, by omega, by go_num, hide (fun j hjk => ?_), below_then hb (below_step hb3)⟩
            by_cases e : j = k
            · subst e; exact HR.out
            · exact hj.out j (by omega)
          case measure => simp [intOf]; omega
      · obtain rfl : k = p.ts.length := by omega
        have HF := hide (show progB p = true by unfold progB; rw [allB_yes hj.out, HSz.out]; rfl)
        go_wp2
        go_ret
        exact ⟨ret_bool HF.out.symm, hb⟩
  · have HF := hide (show progB p = false by unfold progB sizesB; rw [decide_eq_false hs]; simp)
    by_cases h1 : p.init.length < 1
    · have q1 : decide ((p.init.length : Int) < 1) = true := by simp; omega
      clear hs
      go_enter Try.func25, Try.ntmps25
      go_wp2
      go_quiet (fail)
      go_wp2
      go_ret
      exact ⟨ret_bool HF.out.symm, below_drewN hb0 _⟩
    have q1 : decide ((p.init.length : Int) < 1) = false := by simp; omega
    by_cases h2 : 6 < p.init.length
    · have q2 : decide ((6 : Int) < (p.init.length : Int)) = true := by simp; omega
      clear hs
      go_enter Try.func25, Try.ntmps25
      go_wp2
      go_quiet (fail)
      go_wp2
      go_ret
      exact ⟨ret_bool HF.out.symm, below_drewN hb0 _⟩
    have q2 : decide ((6 : Int) < (p.init.length : Int)) = false := by simp; omega
    by_cases h3 : p.ts.length < 1
    · have q3 : decide ((p.ts.length : Int) < 1) = true := by simp; omega
      clear hs
      go_enter Try.func25, Try.ntmps25
      go_wp2
      go_quiet (fail)
      go_wp2
      go_ret
      exact ⟨ret_bool HF.out.symm, below_drewN hb0 _⟩
    have q3 : decide ((p.ts.length : Int) < 1) = false := by simp; omega
    have q4 : decide ((3 : Int) < (p.ts.length : Int)) = true := by simp; omega
    clear hs
    go_enter Try.func25, Try.ntmps25
    go_wp2
    go_quiet (fail)
    go_wp2
    go_ret
    exact ⟨ret_bool HF.out.symm, below_drewN hb0 _⟩
end Go.Proofs.Ytjendjbbhohjcaa

namespace Go.Proofs.Ytjendjbbhohjcaa
open Go.RowKit

def turnB (p : ProgD) (zs : List Int) : Bool := progB p && orderB zs p.ts.length
def turnQ (p : ProgD) (zs : List Int) : ProgD := if turnB p zs then ⟨p.init, turnTs p.ts zs zs.length⟩ else ⟨[], []⟩
set_option maxRecDepth 100000 in
set_option maxHeartbeats 1600000 in
theorem cloneInss_any (A : Option Addr) (l : List InsD) (n c : Nat) (w : World) (hn : l.length = n) (hl : n ≤ 1000) (hS : InssAt w (Old w.heap.size) A l) :
    Calls Try.prog 107 #[.slice A n c] w fun e w' => InsR w w' e l := by
  rcases A with _ | ad
  · have hz : l = [] := by
      rcases Nat.eq_zero_or_pos l.length with h | h
      · exact List.eq_nil_of_length_eq_zero h
      · obtain ⟨b, off, e, _⟩ := hS.2 h
        cases e
    subst hz
    obtain rfl : n = 0 := by simpa using hn.symm
    clear hn hS
    have he : ∀ w : World, (binOp .eql 43 (.slice none 0 c) (.slice none 0 0)).run Try.prog w = .ok (.bool true) w := fun _ => by kernel_rfl
    go_enter Try.func107, Try.ntmps107
    go_wp2
    go_ret
    exact InsR.nil _
  · obtain ⟨i1, hi1, hy0, hy1, hy2⟩ := info_parts Try.infoIns
    have hb0 := below1 w (Obj.cells #[] 89)
    have hsrc := hide ((hS.ints (by omega)).below hb0 (fun _ h => h))
    have hfl := hide (show (flatZ l).length = n * 6 from by rw [flatZ_len, hn])
    clear hS
    have he : ∀ w : World, (binOp .eql 43 (.slice (some ad) n c) (.slice none 0 0)).run Try.prog w = .ok (.bool false) w := fun _ => by kernel_rfl
    replace hn := hide hn
    go_enter Try.func107, Try.ntmps107
    go_wp2_with (at_builtin; refine wpList_append_src _ rfl _ _ _ rfl w.heap.size 89 i1 _ 6 48 Try.underlying43 hi1 hy0 hy1 hy2 rfl (by omega) (.slice (some ⟨w.heap.size, 0, none⟩) 0 0) 0 [] rfl (own_row (Nat.le_refl _) (by omega) rfl) (Old w.heap.size) (some ad) n c (flatZ l) rfl (by rw [hfl.out]) hsrc.out (by have : maxLen = 9223372036854775807 := rfl; omega) (by omega) (by simp) ?_)
    intro A' c' w2 hown hgr hat
    go_wp2_with fail
    go_ret
    rw [flatZ_map] at hown
    have hn2 := hn.out
    subst hn2
    exact ⟨A', c', by simp, by simpa using hown, hb0.trans (below_own hgr (fun k hk => by simp [Value.ownBlock]; omega) (by simp))⟩
theorem Try.infoThrZ : (Try.prog.info? 45).map (fun i => (i.zero, i.size, i.bytes)) = some (some (.agg #[.slice none 0 0]), 1, 24) := by kernel_rfl
theorem make_threads11 (n : Nat) (hn : n ≤ 1048576) (W : World) : (Instr.makeSlice 35 (.int .i64 (n : Int)) (.int .i64 (n : Int))).run Try.prog W = .ok (.slice (some ⟨W.heap.size, 0, none⟩) n n) (W.alloc (.cells (zrow #[.slice none 0 0] n) 45)) := by
  obtain ⟨i0, hi, hz0, hz1, hz2⟩ := info_parts Try.infoThrZ
  have hr := run_make (P := Try.prog) W 35 45 i0 _ Try.underlying35 hi hz0 .i64 .i64 n n (by omega) (Int.le_refl _) (by rw [hz2]; omega) (by omega)
  simp only [Int.toNat_natCast, hz1, Nat.mul_one] at hr
  exact hr
theorem zrow_repl (n : Nat) (v : Value) : zrow #[v] n = (List.replicate n v).toArray := by
  apply Array.ext
  · simp [zrow, madeCells]
  · intro i h1 h2
    simp [zrow, madeCells, Nat.mod_one]
set_option maxRecDepth 100000 in
set_option maxHeartbeats 3200000 in
theorem copyOfThread_any (A A' : Option Addr) (c c' k : Nat) (p : ProgD) (S : Nat → Prop) (w : World) (hS : ∀ b, S b → b < w.heap.size) (ht : ThreadsAt w S A' p.ts) (hk : k < p.ts.length) (hl : (gett p.ts k).length ≤ 1000) :
    Calls Try.prog 84 #[.agg #[.slice A p.init.length c, .slice A' p.ts.length c'], .int .i64 k] w fun e w' => ThrR w w' e (gett p.ts k) := by
  obtain ⟨W0, hW0⟩ : ∃ x, x = w.alloc (Obj.cells #[.slice A p.init.length c, .slice A' p.ts.length c'] 37) := ⟨_, rfl⟩
  obtain ⟨W, hW⟩ : ∃ x, x = W0.alloc (Obj.cells #[.slice none 0 0] 45) := ⟨_, rfl⟩
  have hbW0 : Below w.heap.size w W0 := by rw [hW0]; exact below1 _ _
  have hsz0 : w.heap.size + 1 = W0.heap.size := by rw [hW0]; simp
  have hbW : Below w.heap.size w W := by rw [hW]; exact hbW0.alloc hbW0.size _
  have X := hide (show Blk W w.heap.size 37 #[.slice A p.init.length c, .slice A' p.ts.length c'] from by rw [hW, hW0]; exact (Blk.new _ _ _).alloc _)
  have R := hide (show Blk W (w.heap.size + 1) 45 #[.slice none 0 0] from by rw [hW, hsz0]; exact Blk.new _ _ _)
  obtain ⟨b, off, rfl, hbS, hc⟩ := (ht.below hbW hS).2 (by omega)
  obtain ⟨A3, c3, hcell, -, hin⟩ := hc k hk
  have hbl := Nat.lt_of_lt_of_le (hS b hbS) hbW.size
  have kC := cloneInss_any A3 (gett p.ts k) _ c3 W rfl hl (hin.more (fun b h => Nat.lt_of_lt_of_le (hS b h) hbW.size))
  obtain ⟨l, hll⟩ : ∃ l, l = gett p.ts k := ⟨_, rfl⟩
  rw [← hll] at kC hcell ⊢
  have kC := hide kC
  have BW := hide hbW
  clear hbW hbW0 hsz0 hc hin ht hl hS hll
  go_enter Try.func84, Try.ntmps84
  go_upto_region 1 with fail
  rw [← hW0, ← hW]
  clear hW hW0
  have x1 := X.out.cell 1
  have lx := X.out.lt
  simp only [List.getElem?_toArray, List.getElem?_cons_zero, List.getElem?_cons_succ] at x1
  go_wp2_with fail
  refine kC.out.mono ?_
  rintro e w1 ⟨A1, c1, rfl, ho1, hb1⟩
  have R1 := R.out.below hb1 R.out.lt
  have r0 := R1.cell 0
  have r2 := R1.frozen 0
  have lR := R1.lt
  have O1 := hide (own_base ho1 BW.out.size)
  have B1 := hide (BW.out.trans (hb1.mono BW.out.size))
  simp only [List.getElem?_toArray, List.getElem?_cons_zero] at r0
  have hne := hide (show ∀ b, A1.map (·.block) = some b → b ≠ w.heap.size + 1 from fun b hb e => by
    subst e
    have := (own_lt ho1 (b := w.heap.size + 1) (by
      cases A1 with
      | none => simp at hb
      | some a => simpa [Value.ownBlock] using hb)).1
    have h2 := R.out.lt
    omega)
  clear ho1 hb1 kC x1 lx hcell hbl R1
  go_wp2_with fail
  refine bodyPost_ret (v := .agg #[.slice A1 l.length c1]) (by simp [results, Try.results84, go_sem, r0]; done) rfl ?_
  refine ⟨A1, c1, rfl, own_setFar O1.out (fun e => ?_) _, B1.out.setCell (p := ⟨w.heap.size + 1, 0, none⟩) (by show w.heap.size ≤ w.heap.size + 1; omega) _⟩
  cases A1 with
  | none => simp [Value.ownBlock] at e
  | some a => exact hne.out _ rfl (by simpa [Value.ownBlock] using e)
set_option maxRecDepth 100000 in
set_option maxHeartbeats 6400000 in
theorem fetchedT_any (AO A A' : Option Addr) (zs : List Int) (n cO c c' : Nat) (p : ProgD) (S : Nat → Prop) (w : World) (hz : zs.length = n) (hn : n ≤ 1000) (hS : ∀ b, S b → b < w.heap.size) (ha : IntsAt w S AO zs) (ht : ThreadsAt w S A' p.ts) (hin : ∀ k, k < n → 0 ≤ geti zs k ∧ geti zs k < p.ts.length) (hl : ∀ k, (gett p.ts k).length ≤ 1000) :
    Calls Try.prog 86 #[.agg #[.slice AO n cO, .func (.func 84) #[.agg #[.slice A p.init.length c, .slice A' p.ts.length c']] #[]]] w fun e w' => RowR3 w w' e (turnTs p.ts zs n) := by
  obtain ⟨W, hW⟩ : ∃ x, x = w.alloc (Obj.cells #[.slice AO n cO, .func (.func 84) #[.agg #[.slice A p.init.length c, .slice A' p.ts.length c']] #[]] 101) := ⟨_, rfl⟩
  have hbW : Below w.heap.size w W := by rw [hW]; exact below1 _ _
  have X := hide (show Blk W w.heap.size 101 #[.slice AO n cO, .func (.func 84) #[.agg #[.slice A p.init.length c, .slice A' p.ts.length c']] #[]] from by rw [hW]; exact Blk.new _ _ _)
  have hmk := make_threads11 n (by omega) W
  rw [zrow_repl] at hmk
  have b1 := below1 W (Obj.cells (List.replicate n (Value.slice none 0 0)).toArray 45)
  have G0 := hide (show ThG w W.heap.size n [] [] (W.alloc (Obj.cells (List.replicate n (Value.slice none 0 0)).toArray 45)) from ⟨by have := Blk.new W 45 (List.replicate n (Value.slice none 0 0)).toArray; simpa using this, rfl, fun k hk => by simp at hk, fun j k _ hk => by simp at hk, hbW.trans (b1.mono hbW.size), hbW.size⟩)
  obtain ⟨w1, hw1⟩ : ∃ x, x = W.alloc (Obj.cells (List.replicate n (Value.slice none 0 0)).toArray 45) := ⟨_, rfl⟩
  rw [← hw1] at hmk G0 b1
  have X1 := hide (X.out.below b1 X.out.lt)
  have hgw := hide (show w.heap.size < W.heap.size from by rw [hW]; simp)
  obtain ⟨g, hg⟩ : ∃ g, g = W.heap.size := ⟨_, rfl⟩
  rw [← hg] at hmk G0 hgw
  replace hz := hide hz
  replace hS := hide hS
  replace ha := hide ha
  replace ht := hide ht
  replace hin := hide hin
  replace hl := hide hl
  have x0 := X.out.cell 0
  have lx := X.out.lt
  simp only [List.getElem?_toArray, List.getElem?_cons_zero] at x0
  clear hbW b1 hw1 hg
  go_enter Try.func86, Try.ntmps86
  go_upto_region 1 with fail
  rw [← hW]
  clear hW
  go_upto_region 2 with fail
  clear hmk x0 lx X
  have x0 := X1.out.cell 0
  have lx := X1.out.lt
  simp only [List.getElem?_toArray, List.getElem?_cons_zero] at x0
  go_wp2_with fail
  clear x0 lx
  go_loopw [13] (fun i wr => ∃ (k : Nat) (vs : List Value), k ≤ n ∧ i = .int .i64 k ∧ Hid (ThG w g n (turnTs p.ts zs k) vs wr) ∧ Hid (Blk wr w.heap.size 101 #[.slice AO n cO, .func (.func 84) #[.agg #[.slice A p.init.length c, .slice A' p.ts.length c']] #[]])) (fun i _ => n - (intOf i).toNat)
  case atStart => exact ⟨0, [], Nat.zero_le _, rfl, G0, X1⟩
  case round =>
    clear G0 X1
    obtain ⟨k, vs, hk, rfl, G0, X0⟩ := hrel
    by_cases hlt : k < n
    · have hlt' : decide ((k : Int) < (n : Int)) = true := decide_eq_true (by omega)
      have hkn : k < n := hlt
      obtain ⟨b, off, rfl, hbS, hc⟩ := (ha.out.below G0.out.low hS.out).2 (by rw [hz.out]; omega)
      have hcell := hc k (by rw [hz.out]; exact hlt)
      have hst := hide (turnTs_succ p.ts zs k)
      obtain ⟨h0, h1⟩ := hin.out k hlt
      obtain ⟨z, hzz⟩ : ∃ z, z = geti zs k := ⟨_, rfl⟩
      rw [← hzz] at hcell hst h0 h1
      obtain ⟨y, rfl⟩ : ∃ y : Nat, z = (y : Int) := ⟨z.toNat, by omega⟩
      rw [Int.toNat_natCast] at hst
      have hbl := Nat.lt_of_lt_of_le (hS.out b hbS) G0.out.low.size
      have kC := hide (copyOfThread_any A A' c c' y p S wr (fun b h => Nat.lt_of_lt_of_le (hS.out b h) G0.out.low.size) (ht.out.below G0.out.low hS.out) (by omega) (hl.out y))
      have x1 := X0.out.cell 1
      have lx := X0.out.lt
      simp only [List.getElem?_toArray, List.getElem?_cons_zero, List.getElem?_cons_succ] at x1
      clear hc hzz
      go_wp2_with fail
      refine kC.out.mono ?_
      rintro e w5 ⟨A5, c5, rfl, ho5, hb5⟩
      clear x1 lx hcell hbl kC
      have G5 := G0.out.next hb5
      obtain ⟨l, hll⟩ : ∃ l, l = gett p.ts y := ⟨_, rfl⟩
      rw [← hll] at ho5 hst ⊢
      have hlenk := turnTs_len p.ts zs k
      have f0 := G5.blk.cell k
      rw [List.getElem?_toArray, List.getElem?_append_right (by rw [G5.len, hlenk]; omega), G5.len, hlenk, Nat.sub_self, List.getElem?_replicate, if_pos (by omega)] at f0
      have f1 := G5.blk.frozen k
      have fl := G5.blk.lt
      have G6 := G0.out.more (by rw [hlenk]; exact hlt) hb5 ho5
      rw [hlenk, ← hst.out] at G6
      replace G6 := hide G6
      have X6 := hide ((X0.out.below hb5 X0.out.lt).far (p := ⟨g, k, none⟩) (by have := hgw.out; show w.heap.size ≠ g; omega) (.slice A5 l.length c5))
      obtain ⟨m5, hm5⟩ : ∃ m, m = l.length := ⟨_, rfl⟩
      rw [← hm5] at G6 X6 ⊢
      clear hm5 hll hst G5 G0 X0 ho5 hb5 hlenk h0 h1
      go_wp2_with fail
      go_roundw
      case rel => exact ⟨k + 1, _, by omega, by go_num, G6, X6⟩
      case measure => simp [intOf]; omega
    · obtain rfl : k = n := by omega
      have hlt' : decide ((k : Int) < (k : Int)) = false := decide_eq_false (by omega)
      have hE := hide (G0.out.ret (turnTs_len p.ts zs k) hn)
      go_wp2_with fail
      go_ret
      exact hE.out
end Go.Proofs.Ytjendjbbhohjcaa
