/- A program as an argument of a call. -/
import Derived.Test.YtfkaacfeikmabaaCore
namespace Go.Proofs.Ytfkaacfeikmabaa
open Go.RowKit

/-- A program, as the calls take it. -/
structure PArg (w : World) (A1 A2 : Option Addr) (c1 c2 : Nat) (p : ProgD) : Prop where
  cc : p.init.length ≤ c1 ∧ p.ts.length ≤ c2
  ini : IntsAt w (Old w.heap.size) A1 p.init
  ts : ThreadsAt w (Old w.heap.size) A2 p.ts

end Go.Proofs.Ytfkaacfeikmabaa
