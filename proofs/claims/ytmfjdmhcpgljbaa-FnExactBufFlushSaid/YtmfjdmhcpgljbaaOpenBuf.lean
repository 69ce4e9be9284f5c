/- laws.Buf, opened: a row of Waits; a row of numbers. -/
import Derived.Test.YtmfjdmhcpgljbaaOpen
namespace Go.Proofs.Ytmfjdmhcpgljbaa
open Go.RowKit Go.Joins Go.ChangeShapes Go.WideShapes Go.Deep

theorem cellsOfWaitL : Try.prog.cellsOf 202 = 2 := by kernel_rfl
theorem cellsOfBufL : Try.prog.cellsOf 88 = 1 := by kernel_rfl
theorem cellsOfIntL : Try.prog.cellsOf 3 = 1 := by kernel_rfl

set_option maxRecDepth 100000 in
theorem open_buf {H : Type} {enc : TypeId × Value → H} {W : World} {r : Reach} {b0 : Nat} {spare : Nat → Bool} {held : Bool} {v : Value} {d : DataW H} {p : List MemPlace} (hv : Value.okWide Try.prog W r b0 88 v) (h : DataW.Trod enc Try.prog W 0 spare held 88 v d p) :
    ∃ A n c, v = .agg #[.slice A n c] ∧ n ≤ c ∧ n ≤ 9223372036854775807 ∧ (n ≤ 1048576 → ∃ zs : List Int, zs.length = n * 2 ∧ IntsAt W (Old W.heap.size) A zs) := by
  obtain ⟨v0, y0, n, rfl, h0⟩ := open_agg1 Try.underlying88 (by kernel_rfl) cellsOfBufL hv h
  obtain ⟨A, n, c, rfl, hc, hn, hz⟩ := trod_flat Try.underlying86 Try.underlying202 (by kernel_rfl) cellsOfWaitL (by omega) rfl (ti := 3) (fun i f hf => by
    rcases i with _ | _ | i
    · cases hf; rfl
    · cases hf; rfl
    · simp at hf) Try.underlying3 h0
  exact ⟨A, n, c, rfl, hc, hn, fun h => hz (by omega)⟩

set_option maxRecDepth 100000 in
theorem open_ints_arg {H : Type} {enc : TypeId × Value → H} {W : World} {r : Reach} {b0 : Nat} {spare : Nat → Bool} {held : Bool} {v : Value} {d : DataW H} {p : List MemPlace} (hv : Value.okWide Try.prog W r b0 23 v) (h : DataW.Trod enc Try.prog W 0 spare held 23 v d p) :
    ∃ A c, ∃ zs : List Int, v = .slice A zs.length c ∧ zs.length ≤ c ∧ IntsAt W (Old W.heap.size) A zs := by
  obtain ⟨a1, len, cap, rfl⟩ := okWide_slice Try.underlying23 hv
  obtain ⟨fuel, hf⟩ := h
  obtain ⟨A, zs, c, e, hc, hi⟩ := trod_ints Try.underlying23 Try.underlying3 cellsOfIntL (by simpa [Value.cells] using hf)
  exact ⟨A, c, zs, e, hc, hi⟩
end Go.Proofs.Ytmfjdmhcpgljbaa
