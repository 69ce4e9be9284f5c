/- toIns: the same six numbers. -/
import Derived.Test.YtbchiiggfhdnkaaBase
import Derived.Test.YtbchiiggfhdnkaaRows
namespace Go.Proofs.Ytbchiiggfhdnkaa
open Go.RowKit

set_option maxHeartbeats 800000 in
theorem toIns_any (o r a b x n : Int) (w : World) :
    Calls Try.prog 40 #[.agg #[.int .i64 o, .int .i64 r, .int .i64 a, .int .i64 b, .int .i64 x, .int .i64 n]] w fun e w' => e = .returned (.agg #[.int .i64 o, .int .i64 r, .int .i64 a, .int .i64 b, .int .i64 x, .int .i64 n]) ∧ Below w.heap.size w w' := by
  go_enter Try.func40, Try.ntmps40
  go_wp2
  refine bodyPost_ret (v := .agg #[.int .i64 o, .int .i64 r, .int .i64 a, .int .i64 b, .int .i64 x, .int .i64 n]) (by simp [results, Try.results40, go_sem]) rfl ⟨rfl, ?_⟩
  exact ((below1 _ _).alloc (by simp) _).alloc (by simp; omega) _

end Go.Proofs.Ytbchiiggfhdnkaa
