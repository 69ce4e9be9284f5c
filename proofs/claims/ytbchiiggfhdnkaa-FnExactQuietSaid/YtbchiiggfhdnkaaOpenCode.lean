/- An argument of type []byte, opened: a row of bytes in memory. -/
import Derived.Test.YtbchiiggfhdnkaaOpen
import Derived.Test.YtbchiiggfhdnkaaPa
import Derived.Test.YtbchiiggfhdnkaaRows
import Derived.Test.YtbchiiggfhdnkaaLift
namespace Go.Proofs.Ytbchiiggfhdnkaa
open Go.RowKit Go.Joins Go.ChangeShapes Go.WideShapes Go.Deep Go.ChangeAt

theorem cellsOfByte : Try.prog.cellsOf 5 = 1 := by kernel_rfl

set_option maxRecDepth 100000 in
theorem open_code {H : Type} {enc : TypeId × Value → H} {W : World} {r : Reach} {b0 : Nat} {spare : Nat → Bool} {held : Bool} {v : Value} {d : DataW H} {p : List MemPlace} (hv : Value.okWide Try.prog W r b0 22 v) (h : DataW.Trod enc Try.prog W 0 spare held 22 v d p) :
    ∃ A n c, v = .slice A n c ∧ n ≤ c ∧ BytesAt W (Old W.heap.size) A n := by
  obtain ⟨a1, len, cap, rfl⟩ := okWide_slice Try.underlying22 hv
  obtain ⟨fuel, hf⟩ := h
  rcases open_ints Try.underlying22 Try.underlying5 cellsOfByte hf with ⟨hcs, _⟩ | ⟨a, len', cap', zs, hcs, _, hl, hm, hz, _, hcell, hwz⟩
  · simp [Value.cells] at hcs
    obtain ⟨rfl, rfl, rfl⟩ := hcs
    exact ⟨none, 0, 0, rfl, Nat.le_refl _, by omega, fun hn => by omega⟩
  · simp [Value.cells] at hcs
    obtain ⟨rfl, rfl, rfl⟩ := hcs
    unfold maxLen at hm
    refine ⟨some a, len, cap, rfl, hl, by omega, fun hp => ?_⟩
    have hlen : len ≤ zs.length := by rw [hz]; split <;> omega
    obtain ⟨b, off, rfl, hat⟩ := ints_at hcell (by omega)
    refine ⟨b, off, rfl, cell_lt (hat 0 (by omega)), fun k hk => ?_⟩
    have hw := hwz (zs.getD k 0) (by rw [List.getD_eq_getElem?_getD, List.getElem?_eq_getElem (by omega)]; exact List.getElem_mem _)
    simp [Lit.wf, IntKind.min, IntKind.max, IntKind.bits, IntKind.signed] at hw
    exact ⟨zs.getD k 0, by rw [List.getD_eq_getElem?_getD]; omega, by rw [List.getD_eq_getElem?_getD]; omega, hat k (by omega)⟩

/-- Whether an instruction's block holds it. -/
theorem ins6 {w : World} {g : Nat} {a b c d e f : Value} (h : Blk w g 24 #[a, b, c, d, e, f]) : (w.cell? ⟨g, 0, none⟩ = some a ∧ w.cell? ⟨g, 1, none⟩ = some b ∧ w.cell? ⟨g, 2, none⟩ = some c ∧ w.cell? ⟨g, 3, none⟩ = some d ∧ w.cell? ⟨g, 4, none⟩ = some e ∧ w.cell? ⟨g, 5, none⟩ = some f) ∧ g < w.heap.size :=
  ⟨⟨h.cell 0, h.cell 1, h.cell 2, h.cell 3, h.cell 4, h.cell 5⟩, h.lt⟩
end Go.Proofs.Ytbchiiggfhdnkaa
