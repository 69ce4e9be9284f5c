/- impl.Touches and spec.Touches, of small numbers. -/
import Derived.Test.YtaiklooffkmjjaaLeaf2
namespace Go.Proofs.Ytaiklooffkmjjaa
open Go.RowKit

/-- What an instruction may do to a cell, where no sum wraps. -/
def touchD (o x n cell : Int) : Int := if x ≤ cell ∧ cell < x + countN o n then touchN o else 0

theorem touchD_in {o x n cell : Int} (h : 0 ≤ cell - x) (k : ¬ countN o n ≤ cell - x) : touchD o x n cell = touchN o := by unfold touchD; rw [if_pos (by omega)]
theorem touchD_out {o x n cell : Int} (h : cell - x < 0 ∨ countN o n ≤ cell - x) : touchD o x n cell = 0 := by unfold touchD; rw [if_neg (by omega)]

set_option maxHeartbeats 1600000 in
theorem touch_any (o r a b x n cell : Int) (w : World) (hx : -100 ≤ x ∧ x ≤ 100) (hc : -100 ≤ cell ∧ cell ≤ 100) :
    Calls Try.prog 8 #[.agg #[.int .i64 o, .int .i64 r, .int .i64 a, .int .i64 b, .int .i64 x, .int .i64 n], .int .i64 cell] w fun e w' => e = .returned (.int .i64 (touchD o x n cell)) ∧ Below w.heap.size w w' := by
  by_cases h1 : cell - x < 0
  · have e1 := hide (touchD_out (o := o) (n := n) (.inl h1))
    go_enter Try.func8, Try.ntmps8
    go_wp2_with fail
    go_ret
    exact ⟨ret_int e1.out.symm, below1 _ _⟩
  have kc := hide (fun w => count_any o r a b x n w)
  by_cases h2 : countN o n ≤ cell - x
  · have e1 := hide (touchD_out (.inr h2))
    generalize countN o n = cn at *
    go_enter Try.func8, Try.ntmps8
    go_wp2_with fail
    refine (kc.out _).mono ?_; rintro e w1 ⟨rfl, hb1⟩
    go_wp2_with fail
    go_ret
    exact ⟨ret_int e1.out.symm, below_step hb1⟩
  have e1 := hide (touchD_in (by omega) h2)
  generalize countN o n = cn at *
  go_enter Try.func8, Try.ntmps8
  go_wp2_with fail
  refine (kc.out _).mono ?_; rintro e w1 ⟨rfl, hb1⟩
  obtain ⟨hcl1, hfz1⟩ := bcell hb1; have hz1 := size_step hb1
  go_wp2_with fail
  refine (kind_any _ _ _ _ _ _ _).mono ?_; rintro e w2 ⟨rfl, hb2⟩
  go_wp2_with fail
  refine (touches_any _ _).mono ?_; rintro e w3 ⟨rfl, rfl⟩
  go_wp2_with fail
  go_ret
  exact ⟨ret_int e1.out.symm, below_then (below_step hb1) hb2⟩

theorem touchD_eq (o x n cell : Int) : touchD o x n cell = if o = 7 ∧ x = cell ∨ o = 9 ∧ x ≤ cell ∧ cell < x + n then 1 else if o = 8 ∧ x = cell ∨ o = 10 ∧ x ≤ cell ∧ cell < x + n then 2 else if o = 11 ∧ x = cell then 3 else 0 := by
  unfold touchD touchN countN
  repeat' split
  all_goals omega

set_option maxHeartbeats 3200000 in
theorem stouch_any (o r a b x n cell : Int) (w : World) (hx : -100 ≤ x ∧ x ≤ 100) (hn : -100 ≤ n ∧ n ≤ 100) :
    Calls Try.prog 9 #[.agg #[.int .i64 o, .int .i64 r, .int .i64 a, .int .i64 b, .int .i64 x, .int .i64 n], .int .i64 cell] w fun e w' => e = .returned (.int .i64 (touchD o x n cell)) ∧ Below w.heap.size w w' := by
  have hw : IntKind.i64.wrap (x + n) = x + n := by rw [IntKind.wrap_i64]; omega
  rw [touchD_eq]
  go_enter Try.func9, Try.ntmps9
  go_wp2
  all_goals
    go_ret
    refine ⟨ret_int ?_, below1 _ _⟩
    simp only [beq_iff_eq, beq_eq_false_iff_ne, ne_eq] at *
    repeat' split
    all_goals omega
end Go.Proofs.Ytaiklooffkmjjaa
