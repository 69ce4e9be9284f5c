/- spec.InsOk returns insB: unknown kinds, registers, kinds 1 to 6 and 12. -/
import Derived.Test.YtfkaacfeikmabaaSInsOk0
namespace Go.Proofs.Ytfkaacfeikmabaa
open Go.RowKit

set_option maxHeartbeats 1600000 in
theorem sins_low (o r a b x n i cells m : Int) (w : World) (hk : ¬ (1 ≤ o ∧ o ≤ 14)) :
    Calls Try.prog 112 #[.agg #[.int .i64 o, .int .i64 r, .int .i64 a, .int .i64 b, .int .i64 x, .int .i64 n], .int .i64 i, .int .i64 cells, .int .i64 m] w fun e w' => e = .returned (.bool (insB o r a b x n i cells m)) ∧ Below w.heap.size w w' := by
  have HF := hide (insB_no (r := r) (a := a) (b := b) (x := x) (n := n) (i := i) (cells := cells) (m := m) (.inl hk))
  by_cases h : o < 1
  · clear hk
    go_enter Try.func112, Try.ntmps112
    go_wp2
    go_ret
    exact ⟨ret_bool HF.out.symm, below1 _ _⟩
  · have h2 : 14 < o := by omega
    clear hk h
    go_enter Try.func112, Try.ntmps112
    go_wp2
    go_ret
    exact ⟨ret_bool HF.out.symm, below1 _ _⟩

set_option maxHeartbeats 1600000 in
theorem sins_regs (o r a b x n i cells m : Int) (w : World) (hk : 1 ≤ o) (hk2 : o ≤ 14) (hr : regB r = false ∨ regB a = false ∨ regB b = false) :
    Calls Try.prog 112 #[.agg #[.int .i64 o, .int .i64 r, .int .i64 a, .int .i64 b, .int .i64 x, .int .i64 n], .int .i64 i, .int .i64 cells, .int .i64 m] w fun e w' => e = .returned (.bool (insB o r a b x n i cells m)) ∧ Below w.heap.size w w' := by
  have HF := hide (insB_no (o := o) (r := r) (a := a) (b := b) (x := x) (n := n) (i := i) (cells := cells) (m := m) (.inr hr))
  have k1 := hide (fun w => l1reg_any r w)
  have k2 := hide (fun w => l1reg_any a w)
  have k3 := hide (fun w => l1reg_any b w)
  generalize regB r = p1 at *
  generalize regB a = p2 at *
  generalize regB b = p3 at *
  cases p1
  · clear hr
    go_enter Try.func112, Try.ntmps112
    go_wp2_with fail
    refine (k1.out _).mono ?_; rintro e w1 ⟨rfl, rfl⟩
    go_wp2_with fail
    go_ret
    exact ⟨ret_bool HF.out.symm, below1 _ _⟩
  cases p2
  · clear hr
    go_enter Try.func112, Try.ntmps112
    go_wp2_with fail
    refine (k1.out _).mono ?_; rintro e w1 ⟨rfl, rfl⟩
    go_wp2_with fail
    refine (k2.out _).mono ?_; rintro e w1 ⟨rfl, rfl⟩
    go_wp2_with fail
    go_ret
    exact ⟨ret_bool HF.out.symm, below1 _ _⟩
  cases p3
  · clear hr
    go_enter Try.func112, Try.ntmps112
    go_wp2_with fail
    refine (k1.out _).mono ?_; rintro e w1 ⟨rfl, rfl⟩
    go_wp2_with fail
    refine (k2.out _).mono ?_; rintro e w1 ⟨rfl, rfl⟩
    go_wp2_with fail
    refine (k3.out _).mono ?_; rintro e w1 ⟨rfl, rfl⟩
    go_wp2_with fail
    go_ret
    exact ⟨ret_bool HF.out.symm, below1 _ _⟩
  · simp at hr

set_option maxHeartbeats 3200000 in
theorem sins_a (o r a b x n i cells m : Int) (w : World) (ho : o = 1 ∨ o = 2 ∨ o = 3 ∨ o = 4) (hr1 : regB r = true) (hr2 : regB a = true) (hr3 : regB b = true) :
    Calls Try.prog 112 #[.agg #[.int .i64 o, .int .i64 r, .int .i64 a, .int .i64 b, .int .i64 x, .int .i64 n], .int .i64 i, .int .i64 cells, .int .i64 m] w fun e w' => e = .returned (.bool (insB o r a b x n i cells m)) ∧ Below w.heap.size w w' := by
  have hk : 1 ≤ o ∧ o ≤ 14 := by omega
  have HF := hide (insB_iff (o := o) (r := r) (a := a) (b := b) (x := x) (n := n) (i := i) (cells := cells) (m := m) hk hr1 hr2 hr3)
  have k1 := hide (fun w => l1reg_any r w)
  have k2 := hide (fun w => l1reg_any a w)
  have k3 := hide (fun w => l1reg_any b w)
  have k4 := hide (fun w => l1uses_any o w)
  rw [hr1] at k1
  rw [hr2] at k2
  rw [hr3] at k3
  clear hr1 hr2 hr3 hk
  generalize hres : insB o r a b x n i cells m = res at *
  clear hres
  rcases ho with rfl | rfl | rfl | rfl
  all_goals
    go_enter Try.func112, Try.ntmps112
    go_wp2_with fail
    refine (k1.out _).mono ?_; rintro e w1 ⟨rfl, rfl⟩
    go_wp2_with fail
    refine (k2.out _).mono ?_; rintro e w1 ⟨rfl, rfl⟩
    go_wp2_with fail
    refine (k3.out _).mono ?_; rintro e w1 ⟨rfl, rfl⟩
    go_wp2_with fail
    refine (k4.out _).mono ?_; rintro e w1 ⟨rfl, hb1⟩
    obtain ⟨hcl1, hfz1⟩ := bcell hb1; have hz1 := size_step hb1
    go_wp2_with fail
  all_goals
    have H := HF.out
    go_ret
    refine ⟨ret_bool ?_, below_then (below_step hb1) (below1 _ _)⟩
    rw [Bool.eq_iff_iff, H]
    simp [uR, uA, uB, uX, uN, touchN, countN]
    try simp only [bne_iff_ne, bne_eq_false_iff_eq, ne_eq] at *
    try omega

set_option maxHeartbeats 3200000 in
theorem sins_b (o r a b x n i cells m : Int) (w : World) (ho : o = 5 ∨ o = 6 ∨ o = 12) (hr1 : regB r = true) (hr2 : regB a = true) (hr3 : regB b = true) :
    Calls Try.prog 112 #[.agg #[.int .i64 o, .int .i64 r, .int .i64 a, .int .i64 b, .int .i64 x, .int .i64 n], .int .i64 i, .int .i64 cells, .int .i64 m] w fun e w' => e = .returned (.bool (insB o r a b x n i cells m)) ∧ Below w.heap.size w w' := by
  have hk : 1 ≤ o ∧ o ≤ 14 := by omega
  have HF := hide (insB_iff (o := o) (r := r) (a := a) (b := b) (x := x) (n := n) (i := i) (cells := cells) (m := m) hk hr1 hr2 hr3)
  have k1 := hide (fun w => l1reg_any r w)
  have k2 := hide (fun w => l1reg_any a w)
  have k3 := hide (fun w => l1reg_any b w)
  have k4 := hide (fun w => l1uses_any o w)
  rw [hr1] at k1
  rw [hr2] at k2
  rw [hr3] at k3
  clear hr1 hr2 hr3 hk
  generalize hres : insB o r a b x n i cells m = res at *
  clear hres
  rcases ho with rfl | rfl | rfl
  all_goals
    go_enter Try.func112, Try.ntmps112
    go_wp2_with fail
    refine (k1.out _).mono ?_; rintro e w1 ⟨rfl, rfl⟩
    go_wp2_with fail
    refine (k2.out _).mono ?_; rintro e w1 ⟨rfl, rfl⟩
    go_wp2_with fail
    refine (k3.out _).mono ?_; rintro e w1 ⟨rfl, rfl⟩
    go_wp2_with fail
    refine (k4.out _).mono ?_; rintro e w1 ⟨rfl, hb1⟩
    obtain ⟨hcl1, hfz1⟩ := bcell hb1; have hz1 := size_step hb1
    go_wp2_with fail
  all_goals
    have H := HF.out
    go_ret
    refine ⟨ret_bool ?_, below_then (below_step hb1) (below1 _ _)⟩
    rw [Bool.eq_iff_iff, H]
    simp [uR, uA, uB, uX, uN, touchN, countN]
    try simp only [bne_iff_ne, bne_eq_false_iff_eq, ne_eq] at *
    try omega

end Go.Proofs.Ytfkaacfeikmabaa
