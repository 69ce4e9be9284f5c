/- Dekker of both sides. -/
import Derived.Test.YtjendjbbhohjcaaLkCs
import Derived.Test.YtjendjbbhohjcaaLkCp
namespace Go.Proofs.Ytjendjbbhohjcaa
open Go.RowKit

theorem dekP_size (f : Bool) : progSize (dekP f) ≤ 1048576 := by cases f <;> decide
end Go.Proofs.Ytjendjbbhohjcaa
