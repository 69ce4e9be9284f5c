/- The answer of a pool. -/
import Derived.Test.YtmhldlpjiepmpaaCrl
namespace Go.Proofs.Ytmhldlpjiepmpaa
open Go.RowKit

/-- The answer of a pool. -/
def ansI (p : PoolD) : Int × Bool := if poolB p then (if getb p.dn 0 then (geti p.vl 0, true) else (0, false)) else (0, false)
end Go.Proofs.Ytmhldlpjiepmpaa
