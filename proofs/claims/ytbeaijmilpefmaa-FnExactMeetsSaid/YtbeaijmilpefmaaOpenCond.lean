/- A row of laws.Cond, opened. -/
import Derived.Test.YtbeaijmilpefmaaOpen
namespace Go.Proofs.Ytbeaijmilpefmaa
open Go.RowKit Go.Joins Go.ChangeShapes Go.WideShapes Go.Deep

theorem cellsOfCondL : Try.prog.cellsOf 102 = 3 := by kernel_rfl
set_option maxRecDepth 100000 in
theorem open_conds {H : Type} {enc : TypeId × Value → H} {W : World} {r : Reach} {b0 : Nat} {spare : Nat → Bool} {held : Bool} {v : Value} {d : DataW H} {p : List MemPlace} (hv : Value.okWide Try.prog W r b0 25 v) (h : DataW.Trod enc Try.prog W 0 spare held 25 v d p) :
    ∃ A n c, v = .slice A n c ∧ n ≤ c ∧ n ≤ 9223372036854775807 ∧ (n ≤ 1048576 → ∃ zs : List Int, zs.length = n * 3 ∧ IntsAt W (Old W.heap.size) A zs) := by
  obtain ⟨a1, len, cap, rfl⟩ := okWide_slice Try.underlying25 hv
  obtain ⟨fuel, hf⟩ := h
  obtain ⟨A, n, c, e, hc, hn, hz⟩ := trod_flat Try.underlying25 Try.underlying102 (by kernel_rfl) cellsOfCondL (by omega) rfl (ti := 3) (fun i f hf => by
    rcases i with _ | _ | _ | i
    · cases hf; rfl
    · cases hf; rfl
    · cases hf; rfl
    · simp at hf) Try.underlying3 (by simpa [Value.cells] using hf)
  exact ⟨A, n, c, e, hc, hn, fun h => hz (by omega)⟩
end Go.Proofs.Ytbeaijmilpefmaa
