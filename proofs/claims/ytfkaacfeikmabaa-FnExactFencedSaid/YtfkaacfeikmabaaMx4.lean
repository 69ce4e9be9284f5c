/- The model's small questions about a kind: l5store, l5load. -/
import Derived.Test.YtfkaacfeikmabaaMx0
import Derived.Test.YtfkaacfeikmabaaMx2
import Derived.Test.YtfkaacfeikmabaaRows
import Derived.BigQuiet
import Derived.Deep.QuietTactic
import Derived.BigRegion
namespace Go.Proofs.Ytfkaacfeikmabaa
open Go.RowKit

set_option maxHeartbeats 400000 in
theorem known_any (o : Int) (w : World) :
    Calls Try.prog 169 #[.int .i64 o] w fun e w' => e = .returned (.bool (knownB o)) ∧ w = w' := by
  go_enter Try.func169, Try.ntmps169
  go_wp2
  all_goals
    go_ret
    exact ⟨ret_bool (by unfold knownB; simp; omega), rfl⟩

set_option maxHeartbeats 400000 in
theorem kind_any (o r a b x n : Int) (w : World) :
    Calls Try.prog 117 #[.agg #[.int .i64 o, .int .i64 r, .int .i64 a, .int .i64 b, .int .i64 x, .int .i64 n]] w fun e w' => e = .returned (.int .i64 o) ∧ Below w.heap.size w w' := by
  go_enter Try.func117, Try.ntmps117
  go_wp2
  go_ret
  exact ⟨rfl, below1 _ _⟩

set_option maxHeartbeats 400000 in
theorem touches_any (o : Int) (w : World) :
    Calls Try.prog 134 #[.int .i64 o] w fun e w' => e = .returned (.int .i64 (touchN o)) ∧ w = w' := by
  go_enter Try.func134, Try.ntmps134
  go_wp2
  all_goals
    go_ret
    exact ⟨ret_int (by simp only [beq_iff_eq, beq_eq_false_iff_ne, ne_eq] at *; unfold touchN; first | (subst_vars; rfl) | (repeat rw [if_neg (by omega)])), rfl⟩

set_option maxHeartbeats 800000 in
theorem uses_any (o : Int) (w : World) :
    Calls Try.prog 121 #[.int .i64 o] w fun e w' => e = .returned (.agg #[.bool (uR o), .bool (uA o), .bool (uB o), .bool (uX o), .bool (uN o)]) ∧ Below w.heap.size w w' := by
  go_enter Try.func121, Try.ntmps121
  go_wp2
  all_goals
    refine bodyPost_ret (v := .agg #[.bool (uR o), .bool (uA o), .bool (uB o), .bool (uX o), .bool (uN o)]) ?_ rfl ⟨rfl, below1 _ _⟩
    first | (obtain ⟨e1, e2, e3, e4, e5⟩ := u_other o ‹_› ‹_› ‹_› ‹_› ‹_› ‹_› ‹_› ‹_› ‹_› ‹_› ‹_› ‹_› ‹_›; simp [results, Try.results121, go_sem, e1, e2, e3, e4, e5]; done) | (simp only [beq_iff_eq] at *; subst_vars; simp [results, Try.results121, go_sem, uR, uA, uB, uX, uN])

set_option maxHeartbeats 800000 in
theorem l1uses_any (o : Int) (w : World) :
    Calls Try.prog 167 #[.int .i64 o] w fun e w' => e = .returned (.agg #[.bool (uR o), .bool (uA o), .bool (uB o), .bool (uX o), .bool (uN o)]) ∧ Below w.heap.size w w' := by
  go_enter Try.func167, Try.ntmps167
  go_wp2
  all_goals
    refine bodyPost_ret (v := .agg #[.bool (uR o), .bool (uA o), .bool (uB o), .bool (uX o), .bool (uN o)]) ?_ rfl ⟨rfl, below1 _ _⟩
    first | (obtain ⟨e1, e2, e3, e4, e5⟩ := u_other o ‹_› ‹_› ‹_› ‹_› ‹_› ‹_› ‹_› ‹_› ‹_› ‹_› ‹_› ‹_› ‹_›; simp [results, Try.results167, go_sem, e1, e2, e3, e4, e5]; done) | (simp only [beq_iff_eq] at *; subst_vars; simp [results, Try.results167, go_sem, uR, uA, uB, uX, uN])

set_option maxHeartbeats 400000 in
theorem l1reg_any (r : Int) (w : World) :
    Calls Try.prog 115 #[.int .i64 r] w fun e w' => e = .returned (.bool (regB r)) ∧ w = w' := by
  go_enter Try.func115, Try.ntmps115
  go_wp2
  all_goals
    go_ret
    exact ⟨ret_bool (by unfold regB; rw [Bool.eq_iff_iff]; simp; omega), rfl⟩

set_option maxHeartbeats 400000 in
theorem fields_any (o r a b x n : Int) (w : World) :
    Calls Try.prog 197 #[.agg #[.int .i64 o, .int .i64 r, .int .i64 a, .int .i64 b, .int .i64 x, .int .i64 n]] w fun e w' => e = .returned (.agg #[.int .i64 r, .int .i64 a, .int .i64 b, .int .i64 x, .int .i64 n]) ∧ Below w.heap.size w w' := by
  go_enter Try.func197, Try.ntmps197
  go_wp2
  exact bodyPost_ret (v := .agg #[.int .i64 r, .int .i64 a, .int .i64 b, .int .i64 x, .int .i64 n]) (by simp [results, Try.results197, go_sem]) rfl ⟨rfl, below2 _ _ _⟩

set_option maxHeartbeats 400000 in
theorem count_any (o r a b x n : Int) (w : World) :
    Calls Try.prog 133 #[.agg #[.int .i64 o, .int .i64 r, .int .i64 a, .int .i64 b, .int .i64 x, .int .i64 n]] w fun e w' => e = .returned (.int .i64 (countN o n)) ∧ Below w.heap.size w w' := by
  go_enter Try.func133, Try.ntmps133
  go_wp2
  all_goals
    go_ret
    exact ⟨ret_int (by simp only [beq_iff_eq, beq_eq_false_iff_ne, ne_eq] at *; unfold countN; first | (subst_vars; rfl) | (repeat rw [if_neg (by omega)])), below2 _ _ _⟩

end Go.Proofs.Ytfkaacfeikmabaa

namespace Go.Proofs.Ytfkaacfeikmabaa
open Go.RowKit

theorem regB_eq (r : Int) : (regB r = true ↔ (0 ≤ r ∧ r ≤ 5)) := by unfold regB; simp
theorem regB_no {r : Int} (h : ¬ (0 ≤ r ∧ r ≤ 5)) : regB r = false := by unfold regB; simpa using h

set_option maxHeartbeats 400000 in
theorem isReg_any (r : Int) (w : World) :
    Calls Try.prog 130 #[.int .i64 r] w fun e w' => e = .returned (.bool (regB r)) ∧ w = w' := by
  go_enter Try.func130, Try.ntmps130
  go_wp2
  all_goals
    go_ret
    exact ⟨ret_bool (by unfold regB; rw [Bool.eq_iff_iff]; simp; omega), rfl⟩

set_option maxHeartbeats 800000 in
theorem regs_any (o r a b x n : Int) (w : World) :
    Calls Try.prog 120 #[.agg #[.int .i64 o, .int .i64 r, .int .i64 a, .int .i64 b, .int .i64 x, .int .i64 n]] w fun e w' => e = .returned (.bool (regsB r a b)) ∧ Below w.heap.size w w' := by
  have HF := hide (show regsB r a b = (regB r && regB a && regB b) from rfl)
  have k1 := hide (fun w => isReg_any r w)
  have k2 := hide (fun w => isReg_any a w)
  have k3 := hide (fun w => isReg_any b w)
  generalize regB r = p1 at *
  generalize regB a = p2 at *
  generalize regB b = p3 at *
  cases p1
  · go_enter Try.func120, Try.ntmps120
    go_wp2_with fail
    refine (k1.out _).mono ?_; rintro e w1 ⟨rfl, rfl⟩
    go_wp2_with fail
    go_ret
    exact ⟨ret_bool (by rw [HF.out]; rfl), below1 _ _⟩
  cases p2
  · go_enter Try.func120, Try.ntmps120
    go_wp2_with fail
    refine (k1.out _).mono ?_; rintro e w1 ⟨rfl, rfl⟩
    go_wp2_with fail
    refine (k2.out _).mono ?_; rintro e w1 ⟨rfl, rfl⟩
    go_wp2_with fail
    go_ret
    exact ⟨ret_bool (by rw [HF.out]; rfl), below1 _ _⟩
  go_enter Try.func120, Try.ntmps120
  go_wp2_with fail
  refine (k1.out _).mono ?_; rintro e w1 ⟨rfl, rfl⟩
  go_wp2_with fail
  refine (k2.out _).mono ?_; rintro e w1 ⟨rfl, rfl⟩
  go_wp2_with fail
  refine (k3.out _).mono ?_; rintro e w1 ⟨rfl, rfl⟩
  go_wp2_with fail
  go_ret
  exact ⟨ret_bool (by rw [HF.out]; rfl), below1 _ _⟩

set_option maxHeartbeats 800000 in
theorem jump_any (o r a b x n i m : Int) (w : World) :
    Calls Try.prog 177 #[.agg #[.int .i64 o, .int .i64 r, .int .i64 a, .int .i64 b, .int .i64 x, .int .i64 n], .int .i64 i, .int .i64 m] w fun e w' => e = .returned (.bool (jumpB o n i m)) ∧ Below w.heap.size w w' := by
  go_enter Try.func177, Try.ntmps177
  go_wp2
  all_goals
    go_ret
    exact ⟨ret_bool (by simp only [beq_iff_eq, beq_eq_false_iff_ne, ne_eq] at *; unfold jumpB; rw [Bool.eq_iff_iff]; simp; try omega), below2 _ _ _⟩

set_option maxHeartbeats 800000 in
theorem cells_any (o r a b x n cells : Int) (w : World) (hc1 : -9223372036854775808 ≤ cells) (hc2 : cells ≤ 9223372036854775807) :
    Calls Try.prog 176 #[.agg #[.int .i64 o, .int .i64 r, .int .i64 a, .int .i64 b, .int .i64 x, .int .i64 n], .int .i64 cells] w fun e w' => e = .returned (.bool (cellsB o x n cells)) ∧ Below w.heap.size w w' := by
  go_enter Try.func176, Try.ntmps176
  go_wp2_with (first | (go_at_call 117; refine (kind_any _ _ _ _ _ _ _).mono ?_; rintro e w1 ⟨rfl, hb1⟩; obtain ⟨hcl1, hfz1⟩ := bcell hb1; have hz1 := size_step hb1) | (go_at_call 134; refine (touches_any _ _).mono ?_; rintro e w2 ⟨rfl, rfl⟩) | (go_at_call 133; refine (count_any _ _ _ _ _ _ _).mono ?_; rintro e w3 ⟨rfl, hb3⟩; obtain ⟨hcl3, hfz3⟩ := bcell hb3))
  all_goals
    go_ret
    refine ⟨ret_bool ?_, ?_⟩
  all_goals first | exact below_step ‹_› | exact below_then (below_step ‹_›) ‹_› | skip
  all_goals
    simp only [beq_iff_eq, beq_eq_false_iff_ne, ne_eq] at *
    unfold cellsB
    rw [Bool.eq_iff_iff]
    simp
    omega

set_option maxHeartbeats 800000 in
theorem zero_any (o r a b x n : Int) (w : World) :
    Calls Try.prog 175 #[.agg #[.int .i64 o, .int .i64 r, .int .i64 a, .int .i64 b, .int .i64 x, .int .i64 n]] w fun e w' => e = .returned (.bool (zeroB o r a b x n)) ∧ Below w.heap.size w w' := by
  have i0 : ∀ w, (Instr.index 230 (.agg #[.int .i64 r, .int .i64 a, .int .i64 b, .int .i64 x, .int .i64 n]) (.int .i64 0)).run Try.prog w = .ok (.int .i64 r) w := fun _ => by kernel_rfl
  have i1 : ∀ w, (Instr.index 230 (.agg #[.int .i64 r, .int .i64 a, .int .i64 b, .int .i64 x, .int .i64 n]) (.int .i64 1)).run Try.prog w = .ok (.int .i64 a) w := fun _ => by kernel_rfl
  have i2 : ∀ w, (Instr.index 230 (.agg #[.int .i64 r, .int .i64 a, .int .i64 b, .int .i64 x, .int .i64 n]) (.int .i64 2)).run Try.prog w = .ok (.int .i64 b) w := fun _ => by kernel_rfl
  have i3 : ∀ w, (Instr.index 230 (.agg #[.int .i64 r, .int .i64 a, .int .i64 b, .int .i64 x, .int .i64 n]) (.int .i64 3)).run Try.prog w = .ok (.int .i64 x) w := fun _ => by kernel_rfl
  have i4 : ∀ w, (Instr.index 230 (.agg #[.int .i64 r, .int .i64 a, .int .i64 b, .int .i64 x, .int .i64 n]) (.int .i64 4)).run Try.prog w = .ok (.int .i64 n) w := fun _ => by kernel_rfl
  go_enter Try.func175, Try.ntmps175
  go_wp2_with (first | (go_at_call 117; refine (kind_any _ _ _ _ _ _ _).mono ?_; rintro e w1 ⟨rfl, hb1⟩; obtain ⟨hcl1, hfz1⟩ := bcell hb1; have hz1 := size_step hb1) | (go_at_call 121; refine (uses_any _ _).mono ?_; rintro e w2 ⟨rfl, hb2⟩; obtain ⟨hcl2, hfz2⟩ := bcell hb2; have hz2 : w.heap.size < w2.heap.size := Nat.lt_of_lt_of_le hz1 hb2.size) | (go_at_call 197; refine (fields_any _ _ _ _ _ _ _).mono ?_; rintro e w3 ⟨rfl, hb3⟩; obtain ⟨hcl3, hfz3⟩ := bcell hb3))
  clear hcl1 hcl2 hfz1 hfz2 hfz3 hz1 hz2
  generalize efl1 : uR o = fl1 at *
  generalize efl2 : uA o = fl2 at *
  generalize efl3 : uB o = fl3 at *
  generalize efl4 : uX o = fl4 at *
  generalize efl5 : uN o = fl5 at *
  have Hu1 := hide efl1
  have Hu2 := hide efl2
  have Hu3 := hide efl3
  have Hu4 := hide efl4
  have Hu5 := hide efl5
  clear efl1 efl2 efl3 efl4 efl5
  go_loop [11] (fun i => (i = .int .i64 0) ∨ (i = .int .i64 1 ∧ Hid ((r == 0 || fl1) = true)) ∨ (i = .int .i64 2 ∧ Hid ((r == 0 || fl1) = true) ∧ Hid ((a == 0 || fl2) = true)) ∨ (i = .int .i64 3 ∧ Hid ((r == 0 || fl1) = true) ∧ Hid ((a == 0 || fl2) = true) ∧ Hid ((b == 0 || fl3) = true)) ∨ (i = .int .i64 4 ∧ Hid ((r == 0 || fl1) = true) ∧ Hid ((a == 0 || fl2) = true) ∧ Hid ((b == 0 || fl3) = true) ∧ Hid ((x == 0 || fl4) = true)) ∨ (i = .int .i64 5 ∧ Hid ((r == 0 || fl1) = true) ∧ Hid ((a == 0 || fl2) = true) ∧ Hid ((b == 0 || fl3) = true) ∧ Hid ((x == 0 || fl4) = true) ∧ Hid ((n == 0 || fl5) = true))) (fun i => (5 - intOf i).toNat)
  case atStart => exact .inl rfl
  case round =>
    rcases hrel with rfl | ⟨rfl, g1⟩ | ⟨rfl, g1, g2⟩ | ⟨rfl, g1, g2, g3⟩ | ⟨rfl, g1, g2, g3, g4⟩ | ⟨rfl, g1, g2, g3, g4, g5⟩
    · by_cases h : r = 0
      · have e1 : (r != 0) = false := by simp [h]
        have g1 : Hid ((r == 0 || fl1) = true) := hide (by simp [h])
        clear h
        go_wp2
        go_round
        case rel => exact .inr (.inl ⟨rfl, g1⟩)
        case measure => simp [intOf]
      · have e1 : (r != 0) = true := by simp [h]
        have e2 : (r == 0) = false := by simp [h]
        clear h
        have H2 := hide e2
        clear e2
        cases fl1
        · go_wp2
          go_ret
          exact ⟨ret_bool (by unfold zeroB; rw [Hu1.out, Hu2.out, Hu3.out, Hu4.out, Hu5.out, H2.out]; simp), below_then (below_then (below_step hb1) hb2) (below_step hb3)⟩
        · go_wp2
          go_round
          case rel => exact .inr (.inl ⟨rfl, hide (by simp)⟩)
          case measure => simp [intOf]
    · by_cases h : a = 0
      · have e1 : (a != 0) = false := by simp [h]
        have g2 : Hid ((a == 0 || fl2) = true) := hide (by simp [h])
        clear h
        go_wp2
        go_round
        case rel => exact .inr (.inr (.inl ⟨rfl, g1, g2⟩))
        case measure => simp [intOf]
      · have e1 : (a != 0) = true := by simp [h]
        have e2 : (a == 0) = false := by simp [h]
        clear h
        have H2 := hide e2
        clear e2
        cases fl2
        · go_wp2
          go_ret
          exact ⟨ret_bool (by unfold zeroB; rw [Hu1.out, Hu2.out, Hu3.out, Hu4.out, Hu5.out, H2.out]; simp), below_then (below_then (below_step hb1) hb2) (below_step hb3)⟩
        · go_wp2
          go_round
          case rel => exact .inr (.inr (.inl ⟨rfl, g1, hide (by simp)⟩))
          case measure => simp [intOf]
    · by_cases h : b = 0
      · have e1 : (b != 0) = false := by simp [h]
        have g3 : Hid ((b == 0 || fl3) = true) := hide (by simp [h])
        clear h
        go_wp2
        go_round
        case rel => exact .inr (.inr (.inr (.inl ⟨rfl, g1, g2, g3⟩)))
        case measure => simp [intOf]
      · have e1 : (b != 0) = true := by simp [h]
        have e2 : (b == 0) = false := by simp [h]
        clear h
        have H2 := hide e2
        clear e2
        cases fl3
        · go_wp2
          go_ret
          exact ⟨ret_bool (by unfold zeroB; rw [Hu1.out, Hu2.out, Hu3.out, Hu4.out, Hu5.out, H2.out]; simp), below_then (below_then (below_step hb1) hb2) (below_step hb3)⟩
        · go_wp2
          go_round
          case rel => exact .inr (.inr (.inr (.inl ⟨rfl, g1, g2, hide (by simp)⟩)))
          case measure => simp [intOf]
    · by_cases h : x = 0
      · have e1 : (x != 0) = false := by simp [h]
        have g4 : Hid ((x == 0 || fl4) = true) := hide (by simp [h])
        clear h
        go_wp2
        go_round
        case rel => exact .inr (.inr (.inr (.inr (.inl ⟨rfl, g1, g2, g3, g4⟩))))
        case measure => simp [intOf]
      · have e1 : (x != 0) = true := by simp [h]
        have e2 : (x == 0) = false := by simp [h]
        clear h
        have H2 := hide e2
        clear e2
        cases fl4
        · go_wp2
          go_ret
          exact ⟨ret_bool (by unfold zeroB; rw [Hu1.out, Hu2.out, Hu3.out, Hu4.out, Hu5.out, H2.out]; simp), below_then (below_then (below_step hb1) hb2) (below_step hb3)⟩
        · go_wp2
          go_round
          case rel => exact .inr (.inr (.inr (.inr (.inl ⟨rfl, g1, g2, g3, hide (by simp)⟩))))
          case measure => simp [intOf]
    · by_cases h : n = 0
      · have e1 : (n != 0) = false := by simp [h]
        have g5 : Hid ((n == 0 || fl5) = true) := hide (by simp [h])
        clear h
        go_wp2
        go_round
        case rel => exact .inr (.inr (.inr (.inr (.inr ⟨rfl, g1, g2, g3, g4, g5⟩))))
        case measure => simp [intOf]
      · have e1 : (n != 0) = true := by simp [h]
        have e2 : (n == 0) = false := by simp [h]
        clear h
        have H2 := hide e2
        clear e2
        cases fl5
        · go_wp2
          go_ret
          exact ⟨ret_bool (by unfold zeroB; rw [Hu1.out, Hu2.out, Hu3.out, Hu4.out, Hu5.out, H2.out]; simp), below_then (below_then (below_step hb1) hb2) (below_step hb3)⟩
        · go_wp2
          go_round
          case rel => exact .inr (.inr (.inr (.inr (.inr ⟨rfl, g1, g2, g3, g4, hide (by simp)⟩))))
          case measure => simp [intOf]
    · go_wp2
      go_ret
      exact ⟨ret_bool (by unfold zeroB; rw [Hu1.out, Hu2.out, Hu3.out, Hu4.out, Hu5.out, g1.out, g2.out, g3.out, g4.out, g5.out]; rfl), below_then (below_then (below_step hb1) hb2) (below_step hb3)⟩
end Go.Proofs.Ytfkaacfeikmabaa

namespace Go.Proofs.Ytfkaacfeikmabaa
open Go.RowKit

def calcV (o n x y : Int) : Int :=
  if o = 2 then x else if o = 3 then wrap64 (x + y) else if o = 4 then wrap64 (x - y) else if o = 5 then (if x < y then 1 else 0) else if o = 6 then (if x = y then 1 else 0) else n
def quietB (o : Int) : Bool := knownB o && decide (touchN o = 0)
def jumpsB (o x : Int) : Bool := decide (o = 14 ∨ (o = 13 ∧ x = 0))

theorem oneIf_any (b : Bool) (w : World) : Calls Try.prog 170 #[.bool b] w fun e w' => e = .returned (.int .i64 (if b then 1 else 0)) ∧ w' = w := by
  cases b
  all_goals
    go_enter Try.func170, Try.ntmps170
    go_wp2
    go_ret
    exact ⟨rfl, rfl⟩
theorem l2flag_any (b : Bool) (w : World) : Calls Try.prog 168 #[.bool b] w fun e w' => e = .returned (.int .i64 (if b then 1 else 0)) ∧ w' = w := by
  cases b
  all_goals
    go_enter Try.func168, Try.ntmps168
    go_wp2
    go_ret
    exact ⟨rfl, rfl⟩
theorem quietK_any (o : Int) (w : World) : Calls Try.prog 118 #[.int .i64 o] w fun e w' => e = .returned (.bool (quietB o)) ∧ w = w' := by
  have h1 := hide (show quietB o = (knownB o && decide (touchN o = 0)) from rfl)
  have k1 := hide (fun w => known_any o w)
  have k2 := hide (fun w => touches_any o w)
  generalize knownB o = p at *
  cases p
  · go_enter Try.func118, Try.ntmps118
    go_wp2_with fail
    refine (k1.out _).mono ?_
    rintro e w1 ⟨rfl, rfl⟩
    go_wp2_with fail
    go_ret
    exact ⟨ret_bool (by rw [h1.out]; rfl), rfl⟩
  · generalize touchN o = t at *
    by_cases ht : t = 0
    · subst ht
      go_enter Try.func118, Try.ntmps118
      go_wp2_with fail
      refine (k1.out _).mono ?_
      rintro e w1 ⟨rfl, rfl⟩
      go_wp2_with fail
      refine (k2.out _).mono ?_
      rintro e w1 ⟨rfl, rfl⟩
      go_wp2_with fail
      go_ret
      exact ⟨ret_bool (by rw [h1.out]; rfl), rfl⟩
    · go_enter Try.func118, Try.ntmps118
      go_wp2_with fail
      refine (k1.out _).mono ?_
      rintro e w1 ⟨rfl, rfl⟩
      go_wp2_with fail
      refine (k2.out _).mono ?_
      rintro e w1 ⟨rfl, rfl⟩
      go_wp2_with fail
      go_ret
      exact ⟨ret_bool (by rw [h1.out]; simp [ht]), rfl⟩
theorem fileOk_any (A : Option Addr) (n c : Nat) (w : World) : Calls Try.prog 119 #[.agg #[.slice A n c]] w fun e w' => e = .returned (.bool (decide (n = 6))) ∧ Below w.heap.size w w' := by
  go_enter Try.func119, Try.ntmps119
  go_wp2
  go_ret
  exact ⟨ret_bool (by rw [Bool.eq_iff_iff]; simp; try omega), below1 _ _⟩
theorem l2quiet_any (o : Int) (w : World) : Calls Try.prog 114 #[.int .i64 o] w fun e w' => e = .returned (.bool (decide ((1 ≤ o ∧ o ≤ 6) ∨ o = 13 ∨ o = 14))) ∧ w' = w := by
  go_enter Try.func114, Try.ntmps114
  go_wp2
  all_goals
    go_ret
    refine ⟨ret_bool ?_, rfl⟩
    rw [Bool.eq_iff_iff] <;> simp <;> omega

section
variable {S : Nat → Prop} {A : Option Addr} {zs : List Int} {w : World}
set_option maxRecDepth 100000 in
set_option maxHeartbeats 3200000 in
theorem result_any (o r x n : Int) (a b c : Nat) (ha : a < 6) (hb : b < 6) (hz : zs.length = 6) (hS : ∀ b, S b → b < w.heap.size) (hin : IntsAt w S A zs) :
    Calls Try.prog 122 #[.agg #[.int .i64 o, .int .i64 r, .int .i64 a, .int .i64 b, .int .i64 x, .int .i64 n], .agg #[.slice A 6 c]] w fun e w' => e = .returned (.int .i64 (calcV o n (geti zs a) (geti zs b))) ∧ Below w.heap.size w w' := by
  obtain ⟨bb, off, rfl, hSb, hci⟩ := hin.2 (by omega)
  have hlt := hS bb hSb
  have ca := hci a (by omega)
  have cb := hci b (by omega)
  have ha' : (a : Int) < 6 := by omega
  have hb' : (b : Int) < 6 := by omega
  clear hci hin hz hS hSb
  generalize geti zs a = za at *
  generalize geti zs b = zb at *
  have hb2 := hide (below2 w (Obj.cells #[Value.int .i64 o, Value.int .i64 r, Value.int .i64 a, Value.int .i64 b, Value.int .i64 x, Value.int .i64 n] 72) (Obj.cells #[Value.slice (some ⟨bb, off, none⟩) 6 c] 69))
  have KI := hide ((Blk.new w 72 #[Value.int .i64 o, Value.int .i64 r, Value.int .i64 a, Value.int .i64 b, Value.int .i64 x, Value.int .i64 n]).alloc (Obj.cells #[Value.slice (some ⟨bb, off, none⟩) 6 c] 69))
  have hcases : o = 2 ∨ o = 3 ∨ o = 4 ∨ (o = 5 ∧ za < zb) ∨ (o = 5 ∧ ¬ za < zb) ∨ (o = 6 ∧ za = zb) ∨ (o = 6 ∧ ¬ za = zb) ∨ (¬ o = 2 ∧ ¬ o = 3 ∧ ¬ o = 4 ∧ ¬ o = 5 ∧ ¬ o = 6) := by omega
  rcases hcases with rfl | rfl | rfl | ⟨rfl, h1⟩ | ⟨rfl, h1⟩ | ⟨rfl, rfl⟩ | ⟨rfl, h1⟩ | ⟨h1, h2, h3, h4, h5⟩
  all_goals
    go_enter Try.func122, Try.ntmps122
    go_wp2_with fail
    go_quiet (fail)
    go_wp2_with fail
    refine (kind_any _ _ _ _ _ _ _).mono ?_
    rintro e w1 ⟨rfl, hb1⟩
    have hB := hide (below_then hb2.out (below_then (below_drewN (Below.refl _ _) _) hb1))
    have c5 : w1.cell? ⟨w.heap.size, 5, none⟩ = some (.int .i64 n) := (hb1.cell (p := ⟨w.heap.size, 5, none⟩) (by simp; omega)).trans (KI.out.cell 5)
    go_wp2_with (first | (go_at_call 170; refine (oneIf_any _ _).mono ?_; rintro e w2 ⟨rfl, rfl⟩))
    go_ret
    exact ⟨ret_int (by simp [calcV, *]), hB.out⟩
end
end Go.Proofs.Ytfkaacfeikmabaa

namespace Go.Proofs.Ytfkaacfeikmabaa
open Go.RowKit

set_option maxHeartbeats 1600000 in
theorem ins_any (o r a b x n i cells m : Int) (w : World) (hc1 : -9223372036854775808 ≤ cells) (hc2 : cells ≤ 9223372036854775807) :
    Calls Try.prog 135 #[.agg #[.int .i64 o, .int .i64 r, .int .i64 a, .int .i64 b, .int .i64 x, .int .i64 n], .int .i64 i, .int .i64 cells, .int .i64 m] w fun e w' => e = .returned (.bool (insB o r a b x n i cells m)) ∧ Below w.heap.size w w' := by
  have HF := hide (show insB o r a b x n i cells m = (knownB o && zeroB o r a b x n && regsB r a b && cellsB o x n cells && jumpB o n i m) from rfl)
  have k1 := hide (fun w => known_any o w)
  have k2 := hide (fun w => zero_any o r a b x n w)
  have k3 := hide (fun w => regs_any o r a b x n w)
  have k4 := hide (fun w => cells_any o r a b x n cells w hc1 hc2)
  have k5 := hide (fun w => jump_any o r a b x n i m w)
  clear hc1 hc2
  generalize knownB o = p1 at *
  generalize zeroB o r a b x n = p2 at *
  generalize regsB r a b = p3 at *
  generalize cellsB o x n cells = p4 at *
  generalize jumpB o n i m = p5 at *
  cases p1
  · go_enter Try.func135, Try.ntmps135
    go_wp2_with (first | (go_at_call 117; refine (kind_any _ _ _ _ _ _ _).mono ?_; rintro e w1 ⟨rfl, hb1⟩; obtain ⟨hcl1, hfz1⟩ := bcell hb1; have hz1 := size_step hb1) | (go_at_call 169; refine (k1.out _).mono ?_; rintro e w2 ⟨rfl, rfl⟩))
    go_ret
    exact ⟨ret_bool (by rw [HF.out]; rfl), below_step hb1⟩
  cases p2
  · go_enter Try.func135, Try.ntmps135
    go_wp2_with (first | (go_at_call 117; refine (kind_any _ _ _ _ _ _ _).mono ?_; rintro e w1 ⟨rfl, hb1⟩; obtain ⟨hcl1, hfz1⟩ := bcell hb1; have hz1 := size_step hb1) | (go_at_call 169; refine (k1.out _).mono ?_; rintro e w2 ⟨rfl, rfl⟩) | (go_at_call 175; refine (k2.out _).mono ?_; rintro e w2 ⟨rfl, hb2⟩; obtain ⟨hcl2, hfz2⟩ := bcell hb2; have hz2 := Nat.lt_of_lt_of_le hz1 hb2.size))
    go_ret
    exact ⟨ret_bool (by rw [HF.out]; rfl), below_then (below_step hb1) hb2⟩
  cases p3
  · go_enter Try.func135, Try.ntmps135
    go_wp2_with (first | (go_at_call 117; refine (kind_any _ _ _ _ _ _ _).mono ?_; rintro e w1 ⟨rfl, hb1⟩; obtain ⟨hcl1, hfz1⟩ := bcell hb1; have hz1 := size_step hb1) | (go_at_call 169; refine (k1.out _).mono ?_; rintro e w2 ⟨rfl, rfl⟩) | (go_at_call 175; refine (k2.out _).mono ?_; rintro e w2 ⟨rfl, hb2⟩; obtain ⟨hcl2, hfz2⟩ := bcell hb2; have hz2 := Nat.lt_of_lt_of_le hz1 hb2.size) | (go_at_call 120; refine (k3.out _).mono ?_; rintro e w3 ⟨rfl, hb3⟩; obtain ⟨hcl3, hfz3⟩ := bcell hb3; have hz3 := Nat.lt_of_lt_of_le hz2 hb3.size))
    go_ret
    exact ⟨ret_bool (by rw [HF.out]; rfl), below_then (below_then (below_step hb1) hb2) hb3⟩
  cases p4
  · go_enter Try.func135, Try.ntmps135
    go_wp2_with (first | (go_at_call 117; refine (kind_any _ _ _ _ _ _ _).mono ?_; rintro e w1 ⟨rfl, hb1⟩; obtain ⟨hcl1, hfz1⟩ := bcell hb1; have hz1 := size_step hb1) | (go_at_call 169; refine (k1.out _).mono ?_; rintro e w2 ⟨rfl, rfl⟩) | (go_at_call 175; refine (k2.out _).mono ?_; rintro e w2 ⟨rfl, hb2⟩; obtain ⟨hcl2, hfz2⟩ := bcell hb2; have hz2 := Nat.lt_of_lt_of_le hz1 hb2.size) | (go_at_call 120; refine (k3.out _).mono ?_; rintro e w3 ⟨rfl, hb3⟩; obtain ⟨hcl3, hfz3⟩ := bcell hb3; have hz3 := Nat.lt_of_lt_of_le hz2 hb3.size) | (go_at_call 176; refine (k4.out _).mono ?_; rintro e w4 ⟨rfl, hb4⟩; obtain ⟨hcl4, hfz4⟩ := bcell hb4; have hz4 := Nat.lt_of_lt_of_le hz3 hb4.size))
    go_ret
    exact ⟨ret_bool (by rw [HF.out]; rfl), below_then (below_then (below_then (below_step hb1) hb2) hb3) hb4⟩
  go_enter Try.func135, Try.ntmps135
  go_wp2_with (first | (go_at_call 117; refine (kind_any _ _ _ _ _ _ _).mono ?_; rintro e w1 ⟨rfl, hb1⟩; obtain ⟨hcl1, hfz1⟩ := bcell hb1; have hz1 := size_step hb1) | (go_at_call 169; refine (k1.out _).mono ?_; rintro e w2 ⟨rfl, rfl⟩) | (go_at_call 175; refine (k2.out _).mono ?_; rintro e w2 ⟨rfl, hb2⟩; obtain ⟨hcl2, hfz2⟩ := bcell hb2; have hz2 := Nat.lt_of_lt_of_le hz1 hb2.size) | (go_at_call 120; refine (k3.out _).mono ?_; rintro e w3 ⟨rfl, hb3⟩; obtain ⟨hcl3, hfz3⟩ := bcell hb3; have hz3 := Nat.lt_of_lt_of_le hz2 hb3.size) | (go_at_call 176; refine (k4.out _).mono ?_; rintro e w4 ⟨rfl, hb4⟩; obtain ⟨hcl4, hfz4⟩ := bcell hb4; have hz4 := Nat.lt_of_lt_of_le hz3 hb4.size) | (go_at_call 177; refine (k5.out _).mono ?_; rintro e w5 ⟨rfl, hb5⟩))
  go_ret
  exact ⟨ret_bool (by rw [HF.out]; rfl), below_then (below_then (below_then (below_then (below_step hb1) hb2) hb3) hb4) hb5⟩
end Go.Proofs.Ytfkaacfeikmabaa

namespace Go.Proofs.Ytfkaacfeikmabaa
open Go.RowKit

def insBD (d : InsD) (i cells m : Int) : Bool := insB d.o d.r d.a d.b d.x d.n i cells m
def thrB (l : List InsD) (cells : Nat) : Bool := decide (l.length ≤ 24) && allB (fun k => insBD (getd l k) k cells l.length) l.length
def sizesB (p : ProgD) : Bool := decide (1 ≤ p.init.length ∧ p.init.length ≤ 6 ∧ 1 ≤ p.ts.length ∧ p.ts.length ≤ 3)
def progB (p : ProgD) : Bool := sizesB p && allB (fun k => thrB (gett p.ts k) p.init.length) p.ts.length

theorem insBD_any (d : InsD) (i cells m : Int) (w : World) (hc1 : -9223372036854775808 ≤ cells) (hc2 : cells ≤ 9223372036854775807) :
    Calls Try.prog 135 #[.agg #[.int .i64 d.o, .int .i64 d.r, .int .i64 d.a, .int .i64 d.b, .int .i64 d.x, .int .i64 d.n], .int .i64 i, .int .i64 cells, .int .i64 m] w fun e w' => e = .returned (.bool (insBD d i cells m)) ∧ Below w.heap.size w w' :=
  ins_any d.o d.r d.a d.b d.x d.n i cells m w hc1 hc2

set_option maxHeartbeats 800000 in
theorem thrOk_any (A : Option Addr) (l : List InsD) (c cells : Nat) (S : Nat → Prop) (w : World) (hcells : cells ≤ 9223372036854775807) (hS : ∀ b, S b → b < w.heap.size) (ha : InssAt w S A l) :
    Calls Try.prog 113 #[.agg #[.slice A l.length c], .int .i64 cells] w fun e w' => e = .returned (.bool (thrB l cells)) ∧ Below w.heap.size w w' := by
  have hn := ha.1
  by_cases h24 : 24 < l.length
  · have HF := hide (show thrB l cells = false by unfold thrB; simp; omega)
    have h24' : (24 : Int) < (l.length : Int) := by omega
    go_enter Try.func113, Try.ntmps113
    go_wp2
    go_ret
    exact ⟨ret_bool HF.out.symm, below1 _ _⟩
  · have hle : (l.length : Int) ≤ 24 := by omega
    have hb0 := below1 w (Obj.cells #[Value.slice A l.length c] 99)
    go_enter Try.func113, Try.ntmps113
    go_wp2
    go_loopw [14] (fun i wr => ∃ (k : Nat), k ≤ l.length ∧ i = .int .i64 k ∧ Hid (∀ j, j < k → insBD (getd l j) j cells l.length = true) ∧ Below (w.alloc (Obj.cells #[Value.slice A l.length c] 99)).heap.size (w.alloc (Obj.cells #[Value.slice A l.length c] 99)) wr) (fun i _ => l.length - (intOf i).toNat)
    case atStart => exact ⟨0, Nat.zero_le _, rfl, hide (fun j hj => by omega), Below.refl _ _⟩
    case round =>
      obtain ⟨k, hk, rfl, hj, hb⟩ := hrel
      by_cases hlt : k < l.length
      · obtain ⟨b, off, rfl, hbB, hc⟩ := ((ha.below hb0 hS).below hb (fun b h => Nat.lt_of_lt_of_le (hS b h) hb0.size)).2 (by omega)
        obtain ⟨c0, c1, c2, c3, c4, c5⟩ := hc k hlt
        obtain ⟨hcl, hfz⟩ := bcell hb
        have hsz := size_step hb
        have kc := hide (fun w => insBD_any (getd l k) k cells l.length w (by omega) (by omega))
        clear hc
        cases hr : insBD (getd l k) k cells l.length
        · have HF := hide (show thrB l cells = false by unfold thrB; rw [allB_no hlt hr]; simp)
          rw [hr] at kc
          clear hr
          go_wp2_with (go_at_call 135; refine (kc.out _).mono ?_; rintro e w3 ⟨rfl, hb3⟩)
          go_ret
          exact ⟨ret_bool HF.out.symm, below_then (below_then hb0 hb) (below_step hb3)⟩
        · rw [hr] at kc
          have HR := hide hr
          clear hr
          go_wp2_with (go_at_call 135; refine (kc.out _).mono ?_; rintro e w3 ⟨rfl, hb3⟩)
          go_roundw
          case rel =>
            refine ⟨k + 1, by omega, by go_num, hide (fun j hjk => ?_), hb.trans ((below_step hb3).mono hb.size)⟩
            by_cases e : j = k
            · subst e; exact HR.out
            · exact hj.out j (by omega)
          case measure => simp [intOf]; omega
      · obtain rfl : k = l.length := by omega
        have HF := hide (show thrB l cells = true by unfold thrB; rw [allB_yes hj.out]; simp; omega)
        go_wp2
        go_ret
        exact ⟨ret_bool HF.out.symm, below_then hb0 hb⟩

set_option maxHeartbeats 800000 in
theorem progOk_any (v : Value) (p : ProgD) (S : Nat → Prop) (w : World) (hS : ∀ b, S b → b < w.heap.size) (hp : ProgAt w S v p) :
    Calls Try.prog 39 #[v] w fun e w' => e = .returned (.bool (progB p)) ∧ Below w.heap.size w w' := by
  obtain ⟨A, c, A', c', rfl, hcc, hi, ht⟩ := hp
  have hn := hi.1
  have hn' := ht.1
  have hb0 := below1 w (Obj.cells #[Value.slice A p.init.length c, Value.slice A' p.ts.length c'] 31)
  by_cases hs : 1 ≤ p.init.length ∧ p.init.length ≤ 6 ∧ 1 ≤ p.ts.length ∧ p.ts.length ≤ 3
  · obtain ⟨s1, s2, s3, s4⟩ := hs
    have HSz := hide (show sizesB p = true by unfold sizesB; simp; omega)
    have q1 : decide ((p.init.length : Int) < 1) = false := by simp; omega
    have q2 : decide ((6 : Int) < (p.init.length : Int)) = false := by simp; omega
    have q3 : decide ((p.ts.length : Int) < 1) = false := by simp; omega
    have q4 : decide ((3 : Int) < (p.ts.length : Int)) = false := by simp; omega
    go_enter Try.func39, Try.ntmps39
    go_wp2
    go_quiet (fail)
    go_wp2
    clear q1 q2 q3 q4
    have hbq := below_drewN hb0 nq
    generalize hW : (w.alloc (Obj.cells #[Value.slice A p.init.length c, Value.slice A' p.ts.length c'] 31)).drewN nq = W at *
    clear hW
    go_loopw [30] (fun i wr => ∃ (k : Nat), k ≤ p.ts.length ∧ i = .int .i64 k ∧ Hid (∀ j, j < k → thrB (gett p.ts j) p.init.length = true) ∧ Below w.heap.size w wr) (fun i _ => p.ts.length - (intOf i).toNat)
    case atStart => exact ⟨0, Nat.zero_le _, rfl, hide (fun j hj => by omega), hbq⟩
    case round =>
      obtain ⟨k, hk, rfl, hj, hb⟩ := hrel
      by_cases hlt : k < p.ts.length
      · obtain ⟨b, off, rfl, hbB, hc⟩ := (ht.below hb hS).2 (by omega)
        obtain ⟨A2, c2, hcell, hcap, hin⟩ := hc k hlt
        have hin1 := fun o => hin.below (below1 wr o) (fun b h => Nat.lt_of_lt_of_le (hS b h) hb.size)
        have kc := hide (fun w hS ha => thrOk_any A2 (gett p.ts k) c2 p.init.length S w hn hS ha)
        have HIN := hide hin1
        clear hc hin hin1
        cases hr : thrB (gett p.ts k) p.init.length
        · have HF := hide (show progB p = false by unfold progB; rw [allB_no hlt hr]; simp)
          rw [hr] at kc
          clear hr
          go_wp2_with (go_at_call 113; refine (kc.out _ (fun b h => Nat.lt_of_lt_of_le (Nat.lt_of_lt_of_le (hS b h) hb.size) (below1 _ _).size) (HIN.out _)).mono ?_; rintro e w3 ⟨rfl, hb3⟩)
          go_ret
          exact ⟨ret_bool HF.out.symm, below_then hb (below_step hb3)⟩
        · rw [hr] at kc
          have HR := hide hr
          clear hr
          go_wp2_with (go_at_call 113; refine (kc.out _ (fun b h => Nat.lt_of_lt_of_le (Nat.lt_of_lt_of_le (hS b h) hb.size) (below1 _ _).size) (HIN.out _)).mono ?_; rintro e w3 ⟨rfl, hb3⟩)
          go_roundw
          case rel =>
            refine ⟨k + 1, by omega, by go_num, hide (fun j hjk => ?_), below_then hb (below_step hb3)⟩
            by_cases e : j = k
            · subst e; exact HR.out
            · exact hj.out j (by omega)
          case measure => simp [intOf]; omega
      · obtain rfl : k = p.ts.length := by omega
        have HF := hide (show progB p = true by unfold progB; rw [allB_yes hj.out, HSz.out]; rfl)
        go_wp2
        go_ret
        exact ⟨ret_bool HF.out.symm, hb⟩
  · have HF := hide (show progB p = false by unfold progB sizesB; rw [decide_eq_false hs]; simp)
    by_cases h1 : p.init.length < 1
    · have q1 : decide ((p.init.length : Int) < 1) = true := by simp; omega
      clear hs
      go_enter Try.func39, Try.ntmps39
      go_wp2
      go_quiet (fail)
      go_wp2
      go_ret
      exact ⟨ret_bool HF.out.symm, below_drewN hb0 _⟩
    have q1 : decide ((p.init.length : Int) < 1) = false := by simp; omega
    by_cases h2 : 6 < p.init.length
    · have q2 : decide ((6 : Int) < (p.init.length : Int)) = true := by simp; omega
      clear hs
      go_enter Try.func39, Try.ntmps39
      go_wp2
      go_quiet (fail)
      go_wp2
      go_ret
      exact ⟨ret_bool HF.out.symm, below_drewN hb0 _⟩
    have q2 : decide ((6 : Int) < (p.init.length : Int)) = false := by simp; omega
    by_cases h3 : p.ts.length < 1
    · have q3 : decide ((p.ts.length : Int) < 1) = true := by simp; omega
      clear hs
      go_enter Try.func39, Try.ntmps39
      go_wp2
      go_quiet (fail)
      go_wp2
      go_ret
      exact ⟨ret_bool HF.out.symm, below_drewN hb0 _⟩
    have q3 : decide ((p.ts.length : Int) < 1) = false := by simp; omega
    have q4 : decide ((3 : Int) < (p.ts.length : Int)) = true := by simp; omega
    clear hs
    go_enter Try.func39, Try.ntmps39
    go_wp2
    go_quiet (fail)
    go_wp2
    go_ret
    exact ⟨ret_bool HF.out.symm, below_drewN hb0 _⟩
end Go.Proofs.Ytfkaacfeikmabaa

namespace Go.Proofs.Ytfkaacfeikmabaa
open Go.RowKit

def storeB (o : Int) : Bool := o == 8 || o == 10
def loadB (o : Int) : Bool := o == 7 || o == 9
set_option maxHeartbeats 800000 in
theorem l5store_any (o : Int) (w : World) : Calls Try.prog 76 #[.int .i64 o] w fun e w' => e = .returned (.bool (storeB o)) ∧ w = w' := by
  unfold storeB
  cases h : (o == 8)
  all_goals
    go_enter Try.func76, Try.ntmps76
    go_wp2
    go_ret
    exact ⟨rfl, rfl⟩
set_option maxHeartbeats 800000 in
theorem l5load_any (o : Int) (w : World) : Calls Try.prog 78 #[.int .i64 o] w fun e w' => e = .returned (.bool (loadB o)) ∧ w = w' := by
  unfold loadB
  cases h : (o == 7)
  all_goals
    go_enter Try.func78, Try.ntmps78
    go_wp2
    go_ret
    exact ⟨rfl, rfl⟩
end Go.Proofs.Ytfkaacfeikmabaa
