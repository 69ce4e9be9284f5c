/- laws.Prog, opened. -/
import Derived.Test.YtjendjbbhohjcaaMc0
import Derived.Test.YtjendjbbhohjcaaRows
namespace Go.Proofs.Ytjendjbbhohjcaa
open Go.RowKit Go.Joins Go.ChangeShapes Go.WideShapes Go.Deep

theorem cellsOfInt : Try.prog.cellsOf 3 = 1 := by kernel_rfl
theorem cellsOfIns : Try.prog.cellsOf 160 = 6 := by kernel_rfl
theorem cellsOfThread : Try.prog.cellsOf 128 = 1 := by kernel_rfl
theorem cellsOfProg : Try.prog.cellsOf 58 = 2 := by kernel_rfl

set_option maxRecDepth 100000 in
theorem open_prog {H : Type} {enc : TypeId × Value → H} {W : World} {r : Reach} {b0 : Nat} {spare : Nat → Bool} {held : Bool} {v : Value} {d : DataW H} {p : List MemPlace} (hv : Value.okWide Try.prog W r b0 58 v) (h : DataW.Trod enc Try.prog W 0 spare held 58 v d p) :
    ∃ q, ProgAt W (Old W.heap.size) v q := by
  obtain ⟨v0, v1, y0, y1, n, rfl, _, _, h0, h1⟩ := open_agg2 Try.underlying58 (by kernel_rfl) cellsOfProg hv h
  obtain ⟨A, zs, c, rfl, hc1, hi⟩ := trod_ints Try.underlying23 Try.underlying3 cellsOfInt h0
  obtain ⟨A', l, c', rfl, hc2, ht⟩ := trod_threads Try.underlying56 Try.underlying128 (by kernel_rfl) cellsOfThread rfl Try.underlying126 Try.underlying160 (by kernel_rfl) cellsOfIns ⟨rfl, rfl, rfl, rfl, rfl, rfl⟩ Try.underlying3 h1
  exact ⟨⟨zs, l⟩, A, c, A', c', rfl, ⟨hc1, hc2⟩, hi, ht⟩
end Go.Proofs.Ytjendjbbhohjcaa
