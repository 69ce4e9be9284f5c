/- The leaves of impl.InsOk and spec.InsOk: what each small function returns, for every argument. -/
import Derived.Test.YtmfjdmhcpgljbaaRows
import Derived.Test.YtmfjdmhcpgljbaaCore
namespace Go.Proofs.Ytmfjdmhcpgljbaa
open Go.RowKit

set_option maxHeartbeats 400000 in
theorem known_any (o : Int) (w : World) :
    Calls Try.prog 159 #[.int .i64 o] w fun e w' => e = .returned (.bool (knownB o)) ∧ w = w' := by
  go_enter Try.func159, Try.ntmps159
  go_wp2
  all_goals
    go_ret
    exact ⟨ret_bool (by unfold knownB; simp; omega), rfl⟩

set_option maxHeartbeats 400000 in
theorem kind_any (o r a b x n : Int) (w : World) :
    Calls Try.prog 79 #[.agg #[.int .i64 o, .int .i64 r, .int .i64 a, .int .i64 b, .int .i64 x, .int .i64 n]] w fun e w' => e = .returned (.int .i64 o) ∧ Below w.heap.size w w' := by
  go_enter Try.func79, Try.ntmps79
  go_wp2
  go_ret
  exact ⟨rfl, below1 _ _⟩

set_option maxHeartbeats 400000 in
theorem touches_any (o : Int) (w : World) :
    Calls Try.prog 160 #[.int .i64 o] w fun e w' => e = .returned (.int .i64 (touchN o)) ∧ w = w' := by
  go_enter Try.func160, Try.ntmps160
  go_wp2
  all_goals
    go_ret
    exact ⟨ret_int (by simp only [beq_iff_eq, beq_eq_false_iff_ne, ne_eq] at *; unfold touchN; first | (subst_vars; rfl) | (repeat rw [if_neg (by omega)])), rfl⟩

set_option maxHeartbeats 800000 in
theorem uses_any (o : Int) (w : World) :
    Calls Try.prog 130 #[.int .i64 o] w fun e w' => e = .returned (.agg #[.bool (uR o), .bool (uA o), .bool (uB o), .bool (uX o), .bool (uN o)]) ∧ Below w.heap.size w w' := by
  go_enter Try.func130, Try.ntmps130
  go_wp2
  all_goals
    refine bodyPost_ret (v := .agg #[.bool (uR o), .bool (uA o), .bool (uB o), .bool (uX o), .bool (uN o)]) ?_ rfl ⟨rfl, below1 _ _⟩
    first | (obtain ⟨e1, e2, e3, e4, e5⟩ := u_other o ‹_› ‹_› ‹_› ‹_› ‹_› ‹_› ‹_› ‹_› ‹_› ‹_› ‹_› ‹_› ‹_›; simp [results, Try.results130, go_sem, e1, e2, e3, e4, e5]; done) | (simp only [beq_iff_eq] at *; subst_vars; simp [results, Try.results130, go_sem, uR, uA, uB, uX, uN])

set_option maxHeartbeats 800000 in
theorem l1uses_any (o : Int) (w : World) :
    Calls Try.prog 158 #[.int .i64 o] w fun e w' => e = .returned (.agg #[.bool (uR o), .bool (uA o), .bool (uB o), .bool (uX o), .bool (uN o)]) ∧ Below w.heap.size w w' := by
  go_enter Try.func158, Try.ntmps158
  go_wp2
  all_goals
    refine bodyPost_ret (v := .agg #[.bool (uR o), .bool (uA o), .bool (uB o), .bool (uX o), .bool (uN o)]) ?_ rfl ⟨rfl, below1 _ _⟩
    first | (obtain ⟨e1, e2, e3, e4, e5⟩ := u_other o ‹_› ‹_› ‹_› ‹_› ‹_› ‹_› ‹_› ‹_› ‹_› ‹_› ‹_› ‹_› ‹_›; simp [results, Try.results158, go_sem, e1, e2, e3, e4, e5]; done) | (simp only [beq_iff_eq] at *; subst_vars; simp [results, Try.results158, go_sem, uR, uA, uB, uX, uN])

set_option maxHeartbeats 400000 in
theorem l1reg_any (r : Int) (w : World) :
    Calls Try.prog 81 #[.int .i64 r] w fun e w' => e = .returned (.bool (regB r)) ∧ w = w' := by
  go_enter Try.func81, Try.ntmps81
  go_wp2
  all_goals
    go_ret
    exact ⟨ret_bool (by unfold regB; rw [Bool.eq_iff_iff]; simp; omega), rfl⟩

set_option maxHeartbeats 400000 in
theorem fields_any (o r a b x n : Int) (w : World) :
    Calls Try.prog 179 #[.agg #[.int .i64 o, .int .i64 r, .int .i64 a, .int .i64 b, .int .i64 x, .int .i64 n]] w fun e w' => e = .returned (.agg #[.int .i64 r, .int .i64 a, .int .i64 b, .int .i64 x, .int .i64 n]) ∧ Below w.heap.size w w' := by
  go_enter Try.func179, Try.ntmps179
  go_wp2
  exact bodyPost_ret (v := .agg #[.int .i64 r, .int .i64 a, .int .i64 b, .int .i64 x, .int .i64 n]) (by simp [results, Try.results179, go_sem]) rfl ⟨rfl, below2 _ _ _⟩

set_option maxHeartbeats 400000 in
theorem count_any (o r a b x n : Int) (w : World) :
    Calls Try.prog 180 #[.agg #[.int .i64 o, .int .i64 r, .int .i64 a, .int .i64 b, .int .i64 x, .int .i64 n]] w fun e w' => e = .returned (.int .i64 (countN o n)) ∧ Below w.heap.size w w' := by
  go_enter Try.func180, Try.ntmps180
  go_wp2
  all_goals
    go_ret
    exact ⟨ret_int (by simp only [beq_iff_eq, beq_eq_false_iff_ne, ne_eq] at *; unfold countN; first | (subst_vars; rfl) | (repeat rw [if_neg (by omega)])), below2 _ _ _⟩

end Go.Proofs.Ytmfjdmhcpgljbaa
