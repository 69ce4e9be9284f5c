/- The model's small questions about a kind: l5store, l5load. -/
import Derived.Test.YtfkaacfeikmabaaToP
namespace Go.Proofs.Ytfkaacfeikmabaa
open Go.RowKit

def storeB (o : Int) : Bool := o == 8 || o == 10
def loadB (o : Int) : Bool := o == 7 || o == 9
set_option maxHeartbeats 800000 in
theorem l5store_any (o : Int) (w : World) : Calls Try.prog 76 #[.int .i64 o] w fun e w' => e = .returned (.bool (storeB o)) ∧ w = w' := by
  unfold storeB
  cases h : (o == 8)
  all_goals
    go_enter Try.func76, Try.ntmps76
    go_wp2
    go_ret
    exact ⟨rfl, rfl⟩
set_option maxHeartbeats 800000 in
theorem l5load_any (o : Int) (w : World) : Calls Try.prog 78 #[.int .i64 o] w fun e w' => e = .returned (.bool (loadB o)) ∧ w = w' := by
  unfold loadB
  cases h : (o == 7)
  all_goals
    go_enter Try.func78, Try.ntmps78
    go_wp2
    go_ret
    exact ⟨rfl, rfl⟩
end Go.Proofs.Ytfkaacfeikmabaa
