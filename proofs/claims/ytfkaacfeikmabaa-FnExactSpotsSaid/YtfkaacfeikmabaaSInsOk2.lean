/- spec.InsOk returns insB: kinds 7 to 11, 13, 14. -/
import Derived.Test.YtfkaacfeikmabaaSInsOk0
namespace Go.Proofs.Ytfkaacfeikmabaa
open Go.RowKit

set_option maxHeartbeats 3200000 in
theorem sins_c (o r a b x n i cells m : Int) (w : World) (ho : o = 7 ∨ o = 8 ∨ o = 11) (hr1 : regB r = true) (hr2 : regB a = true) (hr3 : regB b = true) (hc1 : -9223372036854775808 ≤ cells) (hc2 : cells ≤ 9223372036854775807) :
    Calls Try.prog 112 #[.agg #[.int .i64 o, .int .i64 r, .int .i64 a, .int .i64 b, .int .i64 x, .int .i64 n], .int .i64 i, .int .i64 cells, .int .i64 m] w fun e w' => e = .returned (.bool (insB o r a b x n i cells m)) ∧ Below w.heap.size w w' := by
  have hk : 1 ≤ o ∧ o ≤ 14 := by omega
  have HF := hide (insB_iff (o := o) (r := r) (a := a) (b := b) (x := x) (n := n) (i := i) (cells := cells) (m := m) hk hr1 hr2 hr3)
  have k1 := hide (fun w => l1reg_any r w)
  have k2 := hide (fun w => l1reg_any a w)
  have k3 := hide (fun w => l1reg_any b w)
  have k4 := hide (fun w => l1uses_any o w)
  rw [hr1] at k1
  rw [hr2] at k2
  rw [hr3] at k3
  clear hr1 hr2 hr3 hk
  generalize hres : insB o r a b x n i cells m = res at *
  clear hres
  rcases ho with rfl | rfl | rfl
  all_goals
    go_enter Try.func112, Try.ntmps112
    go_wp2_with fail
    refine (k1.out _).mono ?_; rintro e w1 ⟨rfl, rfl⟩
    go_wp2_with fail
    refine (k2.out _).mono ?_; rintro e w1 ⟨rfl, rfl⟩
    go_wp2_with fail
    refine (k3.out _).mono ?_; rintro e w1 ⟨rfl, rfl⟩
    go_wp2_with fail
    refine (k4.out _).mono ?_; rintro e w1 ⟨rfl, hb1⟩
    obtain ⟨hcl1, hfz1⟩ := bcell hb1; have hz1 := size_step hb1
    go_wp2_with fail
  all_goals
    have H := HF.out
    go_ret
    refine ⟨ret_bool ?_, below_then (below_step hb1) (below1 _ _)⟩
    rw [Bool.eq_iff_iff, H]
    simp [uR, uA, uB, uX, uN, touchN, countN]
    try simp only [bne_iff_ne, bne_eq_false_iff_eq, ne_eq] at *
    try omega

set_option maxHeartbeats 3200000 in
theorem sins_d (o r a b x n i cells m : Int) (w : World) (ho : o = 9 ∨ o = 10) (hr1 : regB r = true) (hr2 : regB a = true) (hr3 : regB b = true) (hc1 : -9223372036854775808 ≤ cells) (hc2 : cells ≤ 9223372036854775807) :
    Calls Try.prog 112 #[.agg #[.int .i64 o, .int .i64 r, .int .i64 a, .int .i64 b, .int .i64 x, .int .i64 n], .int .i64 i, .int .i64 cells, .int .i64 m] w fun e w' => e = .returned (.bool (insB o r a b x n i cells m)) ∧ Below w.heap.size w w' := by
  have hk : 1 ≤ o ∧ o ≤ 14 := by omega
  have HF := hide (insB_iff (o := o) (r := r) (a := a) (b := b) (x := x) (n := n) (i := i) (cells := cells) (m := m) hk hr1 hr2 hr3)
  have k1 := hide (fun w => l1reg_any r w)
  have k2 := hide (fun w => l1reg_any a w)
  have k3 := hide (fun w => l1reg_any b w)
  have k4 := hide (fun w => l1uses_any o w)
  rw [hr1] at k1
  rw [hr2] at k2
  rw [hr3] at k3
  clear hr1 hr2 hr3 hk
  generalize hres : insB o r a b x n i cells m = res at *
  clear hres
  rcases ho with rfl | rfl
  all_goals
    go_enter Try.func112, Try.ntmps112
    go_wp2_with fail
    refine (k1.out _).mono ?_; rintro e w1 ⟨rfl, rfl⟩
    go_wp2_with fail
    refine (k2.out _).mono ?_; rintro e w1 ⟨rfl, rfl⟩
    go_wp2_with fail
    refine (k3.out _).mono ?_; rintro e w1 ⟨rfl, rfl⟩
    go_wp2_with fail
    refine (k4.out _).mono ?_; rintro e w1 ⟨rfl, hb1⟩
    obtain ⟨hcl1, hfz1⟩ := bcell hb1; have hz1 := size_step hb1
    go_wp2_with fail
  all_goals
    have H := HF.out
    go_ret
    refine ⟨ret_bool ?_, below_then (below_step hb1) (below1 _ _)⟩
    rw [Bool.eq_iff_iff, H]
    simp [uR, uA, uB, uX, uN, touchN, countN]
    try simp only [bne_iff_ne, bne_eq_false_iff_eq, ne_eq] at *
    try omega

set_option maxHeartbeats 3200000 in
theorem sins_e (o r a b x n i cells m : Int) (w : World) (ho : o = 13 ∨ o = 14) (hr1 : regB r = true) (hr2 : regB a = true) (hr3 : regB b = true) :
    Calls Try.prog 112 #[.agg #[.int .i64 o, .int .i64 r, .int .i64 a, .int .i64 b, .int .i64 x, .int .i64 n], .int .i64 i, .int .i64 cells, .int .i64 m] w fun e w' => e = .returned (.bool (insB o r a b x n i cells m)) ∧ Below w.heap.size w w' := by
  have hk : 1 ≤ o ∧ o ≤ 14 := by omega
  have HF := hide (insB_iff (o := o) (r := r) (a := a) (b := b) (x := x) (n := n) (i := i) (cells := cells) (m := m) hk hr1 hr2 hr3)
  have k1 := hide (fun w => l1reg_any r w)
  have k2 := hide (fun w => l1reg_any a w)
  have k3 := hide (fun w => l1reg_any b w)
  have k4 := hide (fun w => l1uses_any o w)
  rw [hr1] at k1
  rw [hr2] at k2
  rw [hr3] at k3
  clear hr1 hr2 hr3 hk
  generalize hres : insB o r a b x n i cells m = res at *
  clear hres
  rcases ho with rfl | rfl
  all_goals
    go_enter Try.func112, Try.ntmps112
    go_wp2_with fail
    refine (k1.out _).mono ?_; rintro e w1 ⟨rfl, rfl⟩
    go_wp2_with fail
    refine (k2.out _).mono ?_; rintro e w1 ⟨rfl, rfl⟩
    go_wp2_with fail
    refine (k3.out _).mono ?_; rintro e w1 ⟨rfl, rfl⟩
    go_wp2_with fail
    refine (k4.out _).mono ?_; rintro e w1 ⟨rfl, hb1⟩
    obtain ⟨hcl1, hfz1⟩ := bcell hb1; have hz1 := size_step hb1
    go_wp2_with fail
  all_goals
    have H := HF.out
    go_ret
    refine ⟨ret_bool ?_, below_then (below_step hb1) (below1 _ _)⟩
    rw [Bool.eq_iff_iff, H]
    simp [uR, uA, uB, uX, uN, touchN, countN]
    try simp only [bne_iff_ne, bne_eq_false_iff_eq, ne_eq] at *
    try omega

end Go.Proofs.Ytfkaacfeikmabaa
