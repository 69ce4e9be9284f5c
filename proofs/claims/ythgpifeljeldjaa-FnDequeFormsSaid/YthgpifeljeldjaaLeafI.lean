/- The leaves of impl.InsOk: what each small function returns, for every argument. -/
import Derived.Test.YthgpifeljeldjaaKin
import Derived.Test.YthgpifeljeldjaaRows
import Derived.Test.YthgpifeljeldjaaCore
import Derived.BigQuiet
import Derived.Deep.QuietTactic
import Derived.BigRegion
namespace Go.Proofs.Ythgpifeljeldjaa
open Go.RowKit

set_option maxHeartbeats 400000 in
theorem known_any (o : Int) (w : World) :
    Calls Try.prog 68 #[.int .i64 o] w fun e w' => e = .returned (.bool (knownB o)) ∧ w = w' := by
  go_enter Try.func68, Try.ntmps68
  go_wp2
  all_goals
    go_ret
    exact ⟨ret_bool (by unfold knownB; simp; omega), rfl⟩


set_option maxHeartbeats 400000 in
theorem touches_any (o : Int) (w : World) :
    Calls Try.prog 78 #[.int .i64 o] w fun e w' => e = .returned (.int .i64 (touchN o)) ∧ w = w' := by
  go_enter Try.func78, Try.ntmps78
  go_wp2
  all_goals
    go_ret
    exact ⟨ret_int (by simp only [beq_iff_eq, beq_eq_false_iff_ne, ne_eq] at *; unfold touchN; first | (subst_vars; rfl) | (repeat rw [if_neg (by omega)])), rfl⟩

set_option maxHeartbeats 800000 in
theorem uses_any (o : Int) (w : World) :
    Calls Try.prog 75 #[.int .i64 o] w fun e w' => e = .returned (.agg #[.bool (uR o), .bool (uA o), .bool (uB o), .bool (uX o), .bool (uN o)]) ∧ Below w.heap.size w w' := by
  go_enter Try.func75, Try.ntmps75
  go_wp2
  all_goals
    refine bodyPost_ret (v := .agg #[.bool (uR o), .bool (uA o), .bool (uB o), .bool (uX o), .bool (uN o)]) ?_ rfl ⟨rfl, below1 _ _⟩
    first | (obtain ⟨e1, e2, e3, e4, e5⟩ := u_other o ‹_› ‹_› ‹_› ‹_› ‹_› ‹_› ‹_› ‹_› ‹_› ‹_› ‹_› ‹_› ‹_›; simp [results, Try.results75, go_sem, e1, e2, e3, e4, e5]; done) | (simp only [beq_iff_eq] at *; subst_vars; simp [results, Try.results75, go_sem, uR, uA, uB, uX, uN])



set_option maxHeartbeats 400000 in
theorem fields_any (o r a b x n : Int) (w : World) :
    Calls Try.prog 76 #[.agg #[.int .i64 o, .int .i64 r, .int .i64 a, .int .i64 b, .int .i64 x, .int .i64 n]] w fun e w' => e = .returned (.agg #[.int .i64 r, .int .i64 a, .int .i64 b, .int .i64 x, .int .i64 n]) ∧ Below w.heap.size w w' := by
  go_enter Try.func76, Try.ntmps76
  go_wp2
  exact bodyPost_ret (v := .agg #[.int .i64 r, .int .i64 a, .int .i64 b, .int .i64 x, .int .i64 n]) (by simp [results, Try.results76, go_sem]) rfl ⟨rfl, below2 _ _ _⟩

set_option maxHeartbeats 400000 in
theorem count_any (o r a b x n : Int) (w : World) :
    Calls Try.prog 79 #[.agg #[.int .i64 o, .int .i64 r, .int .i64 a, .int .i64 b, .int .i64 x, .int .i64 n]] w fun e w' => e = .returned (.int .i64 (countN o n)) ∧ Below w.heap.size w w' := by
  go_enter Try.func79, Try.ntmps79
  go_wp2
  all_goals
    go_ret
    exact ⟨ret_int (by simp only [beq_iff_eq, beq_eq_false_iff_ne, ne_eq] at *; unfold countN; first | (subst_vars; rfl) | (repeat rw [if_neg (by omega)])), below2 _ _ _⟩

end Go.Proofs.Ythgpifeljeldjaa

namespace Go.Proofs.Ythgpifeljeldjaa
open Go.RowKit

theorem regB_eq (r : Int) : (regB r = true ↔ (0 ≤ r ∧ r ≤ 5)) := by unfold regB; simp
theorem regB_no {r : Int} (h : ¬ (0 ≤ r ∧ r ≤ 5)) : regB r = false := by unfold regB; simpa using h

set_option maxHeartbeats 400000 in
theorem isReg_any (r : Int) (w : World) :
    Calls Try.prog 77 #[.int .i64 r] w fun e w' => e = .returned (.bool (regB r)) ∧ w = w' := by
  go_enter Try.func77, Try.ntmps77
  go_wp2
  all_goals
    go_ret
    exact ⟨ret_bool (by unfold regB; rw [Bool.eq_iff_iff]; simp; omega), rfl⟩

set_option maxHeartbeats 800000 in
theorem regs_any (o r a b x n : Int) (w : World) :
    Calls Try.prog 70 #[.agg #[.int .i64 o, .int .i64 r, .int .i64 a, .int .i64 b, .int .i64 x, .int .i64 n]] w fun e w' => e = .returned (.bool (regsB r a b)) ∧ Below w.heap.size w w' := by
  have HF := hide (show regsB r a b = (regB r && regB a && regB b) from rfl)
  have k1 := hide (fun w => isReg_any r w)
  have k2 := hide (fun w => isReg_any a w)
  have k3 := hide (fun w => isReg_any b w)
  generalize regB r = p1 at *
  generalize regB a = p2 at *
  generalize regB b = p3 at *
  cases p1
  · go_enter Try.func70, Try.ntmps70
    go_wp2_with fail
    refine (k1.out _).mono ?_; rintro e w1 ⟨rfl, rfl⟩
    go_wp2_with fail
    go_ret
    exact ⟨ret_bool (by rw [HF.out]; rfl), below1 _ _⟩
  cases p2
  · go_enter Try.func70, Try.ntmps70
    go_wp2_with fail
    refine (k1.out _).mono ?_; rintro e w1 ⟨rfl, rfl⟩
    go_wp2_with fail
    refine (k2.out _).mono ?_; rintro e w1 ⟨rfl, rfl⟩
    go_wp2_with fail
    go_ret
    exact ⟨ret_bool (by rw [HF.out]; rfl), below1 _ _⟩
  go_enter Try.func70, Try.ntmps70
  go_wp2_with fail
  refine (k1.out _).mono ?_; rintro e w1 ⟨rfl, rfl⟩
  go_wp2_with fail
  refine (k2.out _).mono ?_; rintro e w1 ⟨rfl, rfl⟩
  go_wp2_with fail
  refine (k3.out _).mono ?_; rintro e w1 ⟨rfl, rfl⟩
  go_wp2_with fail
  go_ret
  exact ⟨ret_bool (by rw [HF.out]; rfl), below1 _ _⟩

set_option maxHeartbeats 800000 in
theorem jump_any (o r a b x n i m : Int) (w : World) :
    Calls Try.prog 72 #[.agg #[.int .i64 o, .int .i64 r, .int .i64 a, .int .i64 b, .int .i64 x, .int .i64 n], .int .i64 i, .int .i64 m] w fun e w' => e = .returned (.bool (jumpB o n i m)) ∧ Below w.heap.size w w' := by
  go_enter Try.func72, Try.ntmps72
  go_wp2
  all_goals
    go_ret
    exact ⟨ret_bool (by simp only [beq_iff_eq, beq_eq_false_iff_ne, ne_eq] at *; unfold jumpB; rw [Bool.eq_iff_iff]; simp; try omega), below2 _ _ _⟩

set_option maxHeartbeats 800000 in
theorem cells_any (o r a b x n cells : Int) (w : World) (hc1 : -9223372036854775808 ≤ cells) (hc2 : cells ≤ 9223372036854775807) :
    Calls Try.prog 71 #[.agg #[.int .i64 o, .int .i64 r, .int .i64 a, .int .i64 b, .int .i64 x, .int .i64 n], .int .i64 cells] w fun e w' => e = .returned (.bool (cellsB o x n cells)) ∧ Below w.heap.size w w' := by
  go_enter Try.func71, Try.ntmps71
  go_wp2_with (first | (go_at_call 65; refine (kind_any _ _ _ _ _ _ _).mono ?_; rintro e w1 ⟨rfl, hb1⟩; obtain ⟨hcl1, hfz1⟩ := bcell hb1; have hz1 := size_step hb1) | (go_at_call 78; refine (touches_any _ _).mono ?_; rintro e w2 ⟨rfl, rfl⟩) | (go_at_call 79; refine (count_any _ _ _ _ _ _ _).mono ?_; rintro e w3 ⟨rfl, hb3⟩; obtain ⟨hcl3, hfz3⟩ := bcell hb3))
  all_goals
    go_ret
    refine ⟨ret_bool ?_, ?_⟩
  all_goals first | exact below_step ‹_› | exact below_then (below_step ‹_›) ‹_› | skip
  all_goals
    simp only [beq_iff_eq, beq_eq_false_iff_ne, ne_eq] at *
    unfold cellsB
    rw [Bool.eq_iff_iff]
    simp
    omega

set_option maxHeartbeats 800000 in
theorem zero_any (o r a b x n : Int) (w : World) :
    Calls Try.prog 69 #[.agg #[.int .i64 o, .int .i64 r, .int .i64 a, .int .i64 b, .int .i64 x, .int .i64 n]] w fun e w' => e = .returned (.bool (zeroB o r a b x n)) ∧ Below w.heap.size w w' := by
  have i0 : ∀ w, (Instr.index 94 (.agg #[.int .i64 r, .int .i64 a, .int .i64 b, .int .i64 x, .int .i64 n]) (.int .i64 0)).run Try.prog w = .ok (.int .i64 r) w := fun _ => by kernel_rfl
  have i1 : ∀ w, (Instr.index 94 (.agg #[.int .i64 r, .int .i64 a, .int .i64 b, .int .i64 x, .int .i64 n]) (.int .i64 1)).run Try.prog w = .ok (.int .i64 a) w := fun _ => by kernel_rfl
  have i2 : ∀ w, (Instr.index 94 (.agg #[.int .i64 r, .int .i64 a, .int .i64 b, .int .i64 x, .int .i64 n]) (.int .i64 2)).run Try.prog w = .ok (.int .i64 b) w := fun _ => by kernel_rfl
  have i3 : ∀ w, (Instr.index 94 (.agg #[.int .i64 r, .int .i64 a, .int .i64 b, .int .i64 x, .int .i64 n]) (.int .i64 3)).run Try.prog w = .ok (.int .i64 x) w := fun _ => by kernel_rfl
  have i4 : ∀ w, (Instr.index 94 (.agg #[.int .i64 r, .int .i64 a, .int .i64 b, .int .i64 x, .int .i64 n]) (.int .i64 4)).run Try.prog w = .ok (.int .i64 n) w := fun _ => by kernel_rfl
  go_enter Try.func69, Try.ntmps69
  go_wp2_with (first | (go_at_call 65; refine (kind_any _ _ _ _ _ _ _).mono ?_; rintro e w1 ⟨rfl, hb1⟩; obtain ⟨hcl1, hfz1⟩ := bcell hb1; have hz1 := size_step hb1) | (go_at_call 75; refine (uses_any _ _).mono ?_; rintro e w2 ⟨rfl, hb2⟩; obtain ⟨hcl2, hfz2⟩ := bcell hb2; have hz2 : w.heap.size < w2.heap.size := Nat.lt_of_lt_of_le hz1 hb2.size) | (go_at_call 76; refine (fields_any _ _ _ _ _ _ _).mono ?_; rintro e w3 ⟨rfl, hb3⟩; obtain ⟨hcl3, hfz3⟩ := bcell hb3))
  clear hcl1 hcl2 hfz1 hfz2 hfz3 hz1 hz2
  generalize efl1 : uR o = fl1 at *
  generalize efl2 : uA o = fl2 at *
  generalize efl3 : uB o = fl3 at *
  generalize efl4 : uX o = fl4 at *
  generalize efl5 : uN o = fl5 at *
  have Hu1 := hide efl1
  have Hu2 := hide efl2
  have Hu3 := hide efl3
  have Hu4 := hide efl4
  have Hu5 := hide efl5
  clear efl1 efl2 efl3 efl4 efl5
  go_loop [11] (fun i => (i = .int .i64 0) ∨ (i = .int .i64 1 ∧ Hid ((r == 0 || fl1) = true)) ∨ (i = .int .i64 2 ∧ Hid ((r == 0 || fl1) = true) ∧ Hid ((a == 0 || fl2) = true)) ∨ (i = .int .i64 3 ∧ Hid ((r == 0 || fl1) = true) ∧ Hid ((a == 0 || fl2) = true) ∧ Hid ((b == 0 || fl3) = true)) ∨ (i = .int .i64 4 ∧ Hid ((r == 0 || fl1) = true) ∧ Hid ((a == 0 || fl2) = true) ∧ Hid ((b == 0 || fl3) = true) ∧ Hid ((x == 0 || fl4) = true)) ∨ (i = .int .i64 5 ∧ Hid ((r == 0 || fl1) = true) ∧ Hid ((a == 0 || fl2) = true) ∧ Hid ((b == 0 || fl3) = true) ∧ Hid ((x == 0 || fl4) = true) ∧ Hid ((n == 0 || fl5) = true))) (fun i => (5 - intOf i).toNat)
  case atStart => exact .inl rfl
  case round =>
    rcases hrel with rfl | ⟨rfl, g1⟩ | ⟨rfl, g1, g2⟩ | ⟨rfl, g1, g2, g3⟩ | ⟨rfl, g1, g2, g3, g4⟩ | ⟨rfl, g1, g2, g3, g4, g5⟩
    · by_cases h : r = 0
      · have e1 : (r != 0) = false := by simp [h]
        have g1 : Hid ((r == 0 || fl1) = true) := hide (by simp [h])
        clear h
        go_wp2
        go_round
        case rel => exact .inr (.inl ⟨rfl, g1⟩)
        case measure => simp [intOf]
      · have e1 : (r != 0) = true := by simp [h]
        have e2 : (r == 0) = false := by simp [h]
        clear h
        have H2 := hide e2
        clear e2
        cases fl1
        · go_wp2
          go_ret
          exact ⟨ret_bool (by unfold zeroB; rw [Hu1.out, Hu2.out, Hu3.out, Hu4.out, Hu5.out, H2.out]; simp), below_then (below_then (below_step hb1) hb2) (below_step hb3)⟩
        · go_wp2
          go_round
          case rel => exact .inr (.inl ⟨rfl, hide (by simp)⟩)
          case measure => simp [intOf]
    · by_cases h : a = 0
      · have e1 : (a != 0) = false := by simp [h]
        have g2 : Hid ((a == 0 || fl2) = true) := hide (by simp [h])
        clear h
        go_wp2
        go_round
        case rel => exact .inr (.inr (.inl ⟨rfl, g1, g2⟩))
        case measure => simp [intOf]
      · have e1 : (a != 0) = true := by simp [h]
        have e2 : (a == 0) = false := by simp [h]
        clear h
        have H2 := hide e2
        clear e2
        cases fl2
        · go_wp2
          go_ret
          exact ⟨ret_bool (by unfold zeroB; rw [Hu1.out, Hu2.out, Hu3.out, Hu4.out, Hu5.out, H2.out]; simp), below_then (below_then (below_step hb1) hb2) (below_step hb3)⟩
        · go_wp2
          go_round
          case rel => exact .inr (.inr (.inl ⟨rfl, g1, hide (by simp)⟩))
          case measure => simp [intOf]
    · by_cases h : b = 0
      · have e1 : (b != 0) = false := by simp [h]
        have g3 : Hid ((b == 0 || fl3) = true) := hide (by simp [h])
        clear h
        go_wp2
        go_round
        case rel => exact .inr (.inr (.inr (.inl ⟨rfl, g1, g2, g3⟩)))
        case measure => simp [intOf]
      · have e1 : (b != 0) = true := by simp [h]
        have e2 : (b == 0) = false := by simp [h]
        clear h
        have H2 := hide e2
        clear e2
        cases fl3
        · go_wp2
          go_ret
          exact ⟨ret_bool (by unfold zeroB; rw [Hu1.out, Hu2.out, Hu3.out, Hu4.out, Hu5.out, H2.out]; simp), below_then (below_then (below_step hb1) hb2) (below_step hb3)⟩
        · go_wp2
          go_round
          case rel => exact .inr (.inr (.inr (.inl ⟨rfl, g1, g2, hide (by simp)⟩)))
          case measure => simp [intOf]
    · by_cases h : x = 0
      · have e1 : (x != 0) = false := by simp [h]
        have g4 : Hid ((x == 0 || fl4) = true) := hide (by simp [h])
        clear h
        go_wp2
        go_round
        case rel => exact .inr (.inr (.inr (.inr (.inl ⟨rfl, g1, g2, g3, g4⟩))))
        case measure => simp [intOf]
      · have e1 : (x != 0) = true := by simp [h]
        have e2 : (x == 0) = false := by simp [h]
        clear h
        have H2 := hide e2
        clear e2
        cases fl4
        · go_wp2
          go_ret
          exact ⟨ret_bool (by unfold zeroB; rw [Hu1.out, Hu2.out, Hu3.out, Hu4.out, Hu5.out, H2.out]; simp), below_then (below_then (below_step hb1) hb2) (below_step hb3)⟩
        · go_wp2
          go_round
          case rel => exact .inr (.inr (.inr (.inr (.inl ⟨rfl, g1, g2, g3, hide (by simp)⟩))))
          case measure => simp [intOf]
    · by_cases h : n = 0
      · have e1 : (n != 0) = false := by simp [h]
        have g5 : Hid ((n == 0 || fl5) = true) := hide (by simp [h])
        clear h
        go_wp2
        go_round
        case rel => exact .inr (.inr (.inr (.inr (.inr ⟨rfl, g1, g2, g3, g4, g5⟩))))
        case measure => simp [intOf]
      · have e1 : (n != 0) = true := by simp [h]
        have e2 : (n == 0) = false := by simp [h]
        clear h
        have H2 := hide e2
        clear e2
        cases fl5
        · go_wp2
          go_ret
          exact ⟨ret_bool (by unfold zeroB; rw [Hu1.out, Hu2.out, Hu3.out, Hu4.out, Hu5.out, H2.out]; simp), below_then (below_then (below_step hb1) hb2) (below_step hb3)⟩
        · go_wp2
          go_round
          case rel => exact .inr (.inr (.inr (.inr (.inr ⟨rfl, g1, g2, g3, g4, hide (by simp)⟩))))
          case measure => simp [intOf]
    · go_wp2
      go_ret
      exact ⟨ret_bool (by unfold zeroB; rw [Hu1.out, Hu2.out, Hu3.out, Hu4.out, Hu5.out, g1.out, g2.out, g3.out, g4.out, g5.out]; rfl), below_then (below_then (below_step hb1) hb2) (below_step hb3)⟩
end Go.Proofs.Ythgpifeljeldjaa
