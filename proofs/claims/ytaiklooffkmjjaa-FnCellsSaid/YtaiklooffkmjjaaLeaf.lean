/- The leaves of impl.InsOk and spec.InsOk: what each small function returns, for every argument. -/
import Derived.Test.YtaiklooffkmjjaaRows
import Derived.Test.YtaiklooffkmjjaaCore
namespace Go.Proofs.Ytaiklooffkmjjaa
open Go.RowKit

set_option maxHeartbeats 400000 in
theorem known_any (o : Int) (w : World) :
    Calls Try.prog 66 #[.int .i64 o] w fun e w' => e = .returned (.bool (knownB o)) ∧ w = w' := by
  go_enter Try.func66, Try.ntmps66
  go_wp2
  all_goals
    go_ret
    exact ⟨ret_bool (by unfold knownB; simp; omega), rfl⟩

set_option maxHeartbeats 400000 in
theorem kind_any (o r a b x n : Int) (w : World) :
    Calls Try.prog 32 #[.agg #[.int .i64 o, .int .i64 r, .int .i64 a, .int .i64 b, .int .i64 x, .int .i64 n]] w fun e w' => e = .returned (.int .i64 o) ∧ Below w.heap.size w w' := by
  go_enter Try.func32, Try.ntmps32
  go_wp2
  go_ret
  exact ⟨rfl, below1 _ _⟩

set_option maxHeartbeats 400000 in
theorem touches_any (o : Int) (w : World) :
    Calls Try.prog 33 #[.int .i64 o] w fun e w' => e = .returned (.int .i64 (touchN o)) ∧ w = w' := by
  go_enter Try.func33, Try.ntmps33
  go_wp2
  all_goals
    go_ret
    exact ⟨ret_int (by simp only [beq_iff_eq, beq_eq_false_iff_ne, ne_eq] at *; unfold touchN; first | (subst_vars; rfl) | (repeat rw [if_neg (by omega)])), rfl⟩

set_option maxHeartbeats 800000 in
theorem uses_any (o : Int) (w : World) :
    Calls Try.prog 59 #[.int .i64 o] w fun e w' => e = .returned (.agg #[.bool (uR o), .bool (uA o), .bool (uB o), .bool (uX o), .bool (uN o)]) ∧ Below w.heap.size w w' := by
  go_enter Try.func59, Try.ntmps59
  go_wp2
  all_goals
    refine bodyPost_ret (v := .agg #[.bool (uR o), .bool (uA o), .bool (uB o), .bool (uX o), .bool (uN o)]) ?_ rfl ⟨rfl, below1 _ _⟩
    first | (obtain ⟨e1, e2, e3, e4, e5⟩ := u_other o ‹_› ‹_› ‹_› ‹_› ‹_› ‹_› ‹_› ‹_› ‹_› ‹_› ‹_› ‹_› ‹_›; simp [results, Try.results59, go_sem, e1, e2, e3, e4, e5]; done) | (simp only [beq_iff_eq] at *; subst_vars; simp [results, Try.results59, go_sem, uR, uA, uB, uX, uN])

set_option maxHeartbeats 800000 in
theorem l1uses_any (o : Int) (w : World) :
    Calls Try.prog 87 #[.int .i64 o] w fun e w' => e = .returned (.agg #[.bool (uR o), .bool (uA o), .bool (uB o), .bool (uX o), .bool (uN o)]) ∧ Below w.heap.size w w' := by
  go_enter Try.func87, Try.ntmps87
  go_wp2
  all_goals
    refine bodyPost_ret (v := .agg #[.bool (uR o), .bool (uA o), .bool (uB o), .bool (uX o), .bool (uN o)]) ?_ rfl ⟨rfl, below1 _ _⟩
    first | (obtain ⟨e1, e2, e3, e4, e5⟩ := u_other o ‹_› ‹_› ‹_› ‹_› ‹_› ‹_› ‹_› ‹_› ‹_› ‹_› ‹_› ‹_› ‹_›; simp [results, Try.results87, go_sem, e1, e2, e3, e4, e5]; done) | (simp only [beq_iff_eq] at *; subst_vars; simp [results, Try.results87, go_sem, uR, uA, uB, uX, uN])

set_option maxHeartbeats 400000 in
theorem l1reg_any (r : Int) (w : World) :
    Calls Try.prog 41 #[.int .i64 r] w fun e w' => e = .returned (.bool (regB r)) ∧ w = w' := by
  go_enter Try.func41, Try.ntmps41
  go_wp2
  all_goals
    go_ret
    exact ⟨ret_bool (by unfold regB; rw [Bool.eq_iff_iff]; simp; omega), rfl⟩

set_option maxHeartbeats 400000 in
theorem fields_any (o r a b x n : Int) (w : World) :
    Calls Try.prog 93 #[.agg #[.int .i64 o, .int .i64 r, .int .i64 a, .int .i64 b, .int .i64 x, .int .i64 n]] w fun e w' => e = .returned (.agg #[.int .i64 r, .int .i64 a, .int .i64 b, .int .i64 x, .int .i64 n]) ∧ Below w.heap.size w w' := by
  go_enter Try.func93, Try.ntmps93
  go_wp2
  exact bodyPost_ret (v := .agg #[.int .i64 r, .int .i64 a, .int .i64 b, .int .i64 x, .int .i64 n]) (by simp [results, Try.results93, go_sem]) rfl ⟨rfl, below2 _ _ _⟩

set_option maxHeartbeats 400000 in
theorem count_any (o r a b x n : Int) (w : World) :
    Calls Try.prog 31 #[.agg #[.int .i64 o, .int .i64 r, .int .i64 a, .int .i64 b, .int .i64 x, .int .i64 n]] w fun e w' => e = .returned (.int .i64 (countN o n)) ∧ Below w.heap.size w w' := by
  go_enter Try.func31, Try.ntmps31
  go_wp2
  all_goals
    go_ret
    exact ⟨ret_int (by simp only [beq_iff_eq, beq_eq_false_iff_ne, ne_eq] at *; unfold countN; first | (subst_vars; rfl) | (repeat rw [if_neg (by omega)])), below2 _ _ _⟩

end Go.Proofs.Ytaiklooffkmjjaa
