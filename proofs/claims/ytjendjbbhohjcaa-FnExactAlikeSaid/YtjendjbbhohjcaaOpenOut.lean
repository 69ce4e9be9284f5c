/- laws.Outcome, opened: a struct of one field. -/
import Derived.Test.YtjendjbbhohjcaaOpen
import Derived.Test.YtjendjbbhohjcaaRows
namespace Go.Proofs.Ytjendjbbhohjcaa
open Go.RowKit Go.Joins Go.ChangeShapes Go.WideShapes Go.Deep

theorem cellsOfOutcome : Try.prog.cellsOf 47 = 1 := by kernel_rfl
theorem cellsOfIntO : Try.prog.cellsOf 3 = 1 := by kernel_rfl

set_option maxRecDepth 100000 in
theorem open_outcome {H : Type} {enc : TypeId × Value → H} {W : World} {r : Reach} {b0 : Nat} {spare : Nat → Bool} {held : Bool} {v : Value} {d : DataW H} {p : List MemPlace} (hv : Value.okWide Try.prog W r b0 47 v) (h : DataW.Trod enc Try.prog W 0 spare held 47 v d p) :
    ∃ A zs c, v = .agg #[.slice A (zs : List Int).length c] ∧ IntsAt W (Old W.heap.size) A zs := by
  obtain ⟨v0, y0, n, rfl, h0⟩ := open_agg1 Try.underlying47 (by kernel_rfl) cellsOfOutcome hv h
  obtain ⟨A, zs, c, rfl, -, hi⟩ := trod_ints Try.underlying23 Try.underlying3 cellsOfIntO h0
  exact ⟨A, zs, c, rfl, hi⟩
end Go.Proofs.Ytjendjbbhohjcaa
