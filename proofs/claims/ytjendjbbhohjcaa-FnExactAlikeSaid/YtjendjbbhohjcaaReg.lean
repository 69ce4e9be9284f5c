/- The model's l1reg. -/
import Derived.Test.YtjendjbbhohjcaaRvT
namespace Go.Proofs.Ytjendjbbhohjcaa
open Go.RowKit

set_option maxHeartbeats 400000 in
theorem l1reg_any (r : Int) (w : World) :
    Calls Try.prog 73 #[.int .i64 r] w fun e w' => e = .returned (.bool (regB r)) ∧ w = w' := by
  go_enter Try.func73, Try.ntmps73
  go_wp2
  all_goals
    go_ret
    exact ⟨ret_bool (by unfold regB; rw [Bool.eq_iff_iff]; simp; omega), rfl⟩
end Go.Proofs.Ytjendjbbhohjcaa
