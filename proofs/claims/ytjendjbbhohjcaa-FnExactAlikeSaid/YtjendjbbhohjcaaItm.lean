/- The program's isItemReg. -/
import Derived.Test.YtjendjbbhohjcaaDqD
namespace Go.Proofs.Ytjendjbbhohjcaa
open Go.RowKit

set_option maxHeartbeats 800000 in
theorem itemReg_any (r : Int) (w : World) : Calls Try.prog 78 #[.int .i64 r] w fun e w' => e = .returned (.bool (decide (0 ≤ r ∧ r < 2))) ∧ w = w' := by
  go_enter Try.func78, Try.ntmps78
  go_wp2
  all_goals
    go_ret
    exact ⟨ret_bool (by first | (simp; done) | (simp; omega) | simp_all), rfl⟩
end Go.Proofs.Ytjendjbbhohjcaa
