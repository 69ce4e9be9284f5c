/- Does a kind of instruction lead on? -/
import Derived.Test.YtjendjbbhohjcaaPrD
namespace Go.Proofs.Ytjendjbbhohjcaa
open Go.RowKit

set_option maxHeartbeats 800000 in
theorem leads_any (o : Int) (w : World) : Calls Try.prog 100 #[.int .i64 o] w fun e w' => e = .returned (.bool (leapB o)) ∧ w = w' := by
  unfold leapB
  cases h : (o == 13)
  all_goals
    go_enter Try.func100, Try.ntmps100
    go_wp2
    go_ret
    exact ⟨rfl, rfl⟩
end Go.Proofs.Ytjendjbbhohjcaa
