/- A row of numbers, opened. -/
import Derived.Test.YtjendjbbhohjcaaMc0
namespace Go.Proofs.Ytjendjbbhohjcaa
open Go.RowKit Go.Joins Go.ChangeShapes Go.WideShapes Go.Deep

theorem cellsOfIntL : Try.prog.cellsOf 3 = 1 := by kernel_rfl
set_option maxRecDepth 100000 in
theorem open_ints_arg {H : Type} {enc : TypeId × Value → H} {W : World} {r : Reach} {b0 : Nat} {spare : Nat → Bool} {held : Bool} {v : Value} {d : DataW H} {p : List MemPlace} (hv : Value.okWide Try.prog W r b0 23 v) (h : DataW.Trod enc Try.prog W 0 spare held 23 v d p) :
    ∃ A c, ∃ zs : List Int, v = .slice A zs.length c ∧ zs.length ≤ c ∧ IntsAt W (Old W.heap.size) A zs := by
  obtain ⟨a1, len, cap, rfl⟩ := okWide_slice Try.underlying23 hv
  obtain ⟨fuel, hf⟩ := h
  obtain ⟨A, zs, c, e, hc, hi⟩ := trod_ints Try.underlying23 Try.underlying3 cellsOfIntL (by simpa [Value.cells] using hf)
  exact ⟨A, c, zs, e, hc, hi⟩
end Go.Proofs.Ytjendjbbhohjcaa
