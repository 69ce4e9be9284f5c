/- Outcomes among outcomes: plain; a row of them as it is read. -/
import Derived.Test.YtbeaijmilpefmaaDoorRowsA
namespace Go.Proofs.YtbeaijmilpefmaaDoor
open Go.RowKit

/-- Numbers that an int holds. -/
def Int64s (zs : List Int) : Prop := ∀ k, k < zs.length → -9223372036854775808 ≤ geti zs k ∧ geti zs k ≤ 9223372036854775807
def inB (b : List RowD) (zs : List Int) : Bool := b.any (fun r => r.zs == zs)
def withinB (a b : List RowD) : Bool := allB (fun i => inB b (getr a i).zs) a.length
/-- A row of rows of numbers, each an outcome: what is known of it. -/
structure OutsAt (w : World) (n : Nat) (A : Option Addr) (src : List RowD) : Prop where
  row : RowsAt w (Old n) A src
  len : ∀ k, k < src.length → (getr src k).zs.length = (getr src k).n ∧ (getr src k).n ≤ 1048576
  wf : ∀ k, k < src.length → Int64s (getr src k).zs
theorem OutsAt.below {w w' : World} {n : Nat} {A : Option Addr} {src : List RowD} (h : OutsAt w n A src) (hb : Below n w w') : OutsAt w' n A src := ⟨h.row.below hb (fun _ h => h), h.len, h.wf⟩

end Go.Proofs.YtbeaijmilpefmaaDoor
