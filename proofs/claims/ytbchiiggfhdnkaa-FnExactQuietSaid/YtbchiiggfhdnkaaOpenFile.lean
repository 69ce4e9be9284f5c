/- laws.File, opened: a struct of one field. -/
import Derived.Test.YtbchiiggfhdnkaaOpen
import Derived.Test.YtbchiiggfhdnkaaRows
namespace Go.Proofs.Ytbchiiggfhdnkaa
open Go.RowKit Go.Joins Go.ChangeShapes Go.WideShapes Go.Deep

section
variable {H : Type} {enc : TypeId × Value → H} {P : Program} {w : World} {base : Nat} {spare : Nat → Bool} {held : Bool}
theorem open_agg1 {r : Reach} {b0 : Nat} {t : TypeId} {f0 : Field} {v : Value} {d : DataW H} {p : List MemPlace} (hs : P.underlying t = some (.struct #[f0])) (hone : oneCellFields P #[f0] = true) (hC : P.cellsOf t = 1)
    (hv : Value.okWide P w r b0 t v) (h : DataW.Trod enc P w base spare held t v d p) :
    ∃ (v0 : Value) (y0 : DataW H × List MemPlace) (n : Nat), v = .agg #[v0] ∧ DataW.trod enc P w base spare held n f0.type [v0] = some y0 := by
  obtain ⟨cs, rfl, hsz⟩ := okWide_struct hs hv
  obtain ⟨l⟩ := cs
  match l, hsz.trans hC with
  | [c0], _ =>
    obtain ⟨fuel, hf⟩ := h
    obtain ⟨xs, n, _, hx, _, hlen, hg⟩ := DataW.trod_struct hs hf
    obtain ⟨o0, k0⟩ := hone_of hone 0 f0 rfl
    match xs, hlen with
    | [y0], _ =>
      exact ⟨c0, y0, n, rfl, by simpa [Value.cells, o0, k0] using hg 0 f0 rfl⟩
end
theorem cellsOfFile : Try.prog.cellsOf 88 = 1 := by kernel_rfl
theorem cellsOfIntF : Try.prog.cellsOf 3 = 1 := by kernel_rfl

set_option maxRecDepth 100000 in
theorem open_file {H : Type} {enc : TypeId × Value → H} {W : World} {r : Reach} {b0 : Nat} {spare : Nat → Bool} {held : Bool} {v : Value} {d : DataW H} {p : List MemPlace} (hv : Value.okWide Try.prog W r b0 88 v) (h : DataW.Trod enc Try.prog W 0 spare held 88 v d p) :
    ∃ A zs c, v = .agg #[.slice A (zs : List Int).length c] ∧ IntsAt W (Old W.heap.size) A zs := by
  obtain ⟨v0, y0, n, rfl, h0⟩ := open_agg1 Try.underlying88 (by kernel_rfl) cellsOfFile hv h
  obtain ⟨A, zs, c, rfl, -, hi⟩ := trod_ints Try.underlying33 Try.underlying3 cellsOfIntF h0
  exact ⟨A, zs, c, rfl, hi⟩
end Go.Proofs.Ytbchiiggfhdnkaa
