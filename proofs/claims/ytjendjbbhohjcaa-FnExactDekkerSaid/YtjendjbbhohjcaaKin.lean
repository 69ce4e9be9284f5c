/- An instruction's kind. -/
import Derived.Test.YtjendjbbhohjcaaCore
import Derived.Test.YtjendjbbhohjcaaRows
namespace Go.Proofs.Ytjendjbbhohjcaa
open Go.RowKit

set_option maxHeartbeats 400000 in
theorem kind_any (o r a b x n : Int) (w : World) :
    Calls Try.prog 99 #[.agg #[.int .i64 o, .int .i64 r, .int .i64 a, .int .i64 b, .int .i64 x, .int .i64 n]] w fun e w' => e = .returned (.int .i64 o) ∧ Below w.heap.size w w' := by
  go_enter Try.func99, Try.ntmps99
  go_wp2
  go_ret
  exact ⟨rfl, below1 _ _⟩
end Go.Proofs.Ytjendjbbhohjcaa
