/- small facts for l1ins. -/
import Derived.Test.YtbhfkfapdpedpaaCur
import Derived.Test.YtbhfkfapdpedpaaLeaf
namespace Go.Proofs.Ytbhfkfapdpedpaa
open Go.RowKit

/-- All six numbers are small. -/
def Small (d : InsD) : Prop := (-1 ≤ d.o ∧ d.o ≤ 30) ∧ (-1 ≤ d.r ∧ d.r ≤ 30) ∧ (0 ≤ d.a ∧ d.a ≤ 5) ∧ (-1 ≤ d.b ∧ d.b ≤ 30) ∧ (-1 ≤ d.x ∧ d.x ≤ 30) ∧ (-1 ≤ d.n ∧ d.n ≤ 30)

theorem ints_of_blk {w : World} {b : Nat} {t : TypeId} {zs : List Int} {S : Nat → Prop} (h : Blk w b t (zs.map (Value.int .i64)).toArray) (hl : zs.length ≤ 9223372036854775807) (hS : S b) : IntsAt w S (some ⟨b, 0, none⟩) zs :=
  ⟨hl, fun _ => ⟨b, 0, rfl, hS, fun k hk => by
    rw [Nat.zero_add, h.cell]
    simp [geti, List.getElem?_eq_getElem hk, List.getD]⟩⟩
theorem blk6 {w : World} {b : Nat} {t : TypeId} {v0 v1 v2 v3 v4 v5 : Value} (h : Blk w b t #[v0, v1, v2, v3, v4, v5]) :
    (w.cell? ⟨b, 0, none⟩ = some v0 ∧ w.cell? ⟨b, 1, none⟩ = some v1 ∧ w.cell? ⟨b, 2, none⟩ = some v2 ∧ w.cell? ⟨b, 3, none⟩ = some v3 ∧ w.cell? ⟨b, 4, none⟩ = some v4 ∧ w.cell? ⟨b, 5, none⟩ = some v5) ∧
    (w.frozen? ⟨b, 0, none⟩ = false ∧ w.frozen? ⟨b, 1, none⟩ = false ∧ w.frozen? ⟨b, 2, none⟩ = false ∧ w.frozen? ⟨b, 3, none⟩ = false ∧ w.frozen? ⟨b, 4, none⟩ = false ∧ w.frozen? ⟨b, 5, none⟩ = false) :=
  ⟨⟨h.cell 0, h.cell 1, h.cell 2, h.cell 3, h.cell 4, h.cell 5⟩, h.frozen 0, h.frozen 1, h.frozen 2, h.frozen 3, h.frozen 4, h.frozen 5⟩
theorem blk5 {w : World} {b : Nat} {t : TypeId} {v0 v1 v2 v3 v4 : Value} (h : Blk w b t #[v0, v1, v2, v3, v4]) :
    w.cell? ⟨b, 0, none⟩ = some v0 ∧ w.cell? ⟨b, 1, none⟩ = some v1 ∧ w.cell? ⟨b, 2, none⟩ = some v2 ∧ w.cell? ⟨b, 3, none⟩ = some v3 ∧ w.cell? ⟨b, 4, none⟩ = some v4 :=
  ⟨h.cell 0, h.cell 1, h.cell 2, h.cell 3, h.cell 4⟩
theorem below3 {x : Int} (h : BelowR 3 x) : 0 ≤ x ∧ x ≤ 2 := by have := h.2 (by omega); omega
theorem below2' {x : Int} (h : BelowR 2 x) : 0 ≤ x ∧ x ≤ 1 := by have := h.2 (by omega); omega
theorem belowP {n x : Int} (h : BelowR n x) (hn : 0 < n) : 0 ≤ x ∧ x < n := h.2 hn
theorem picked (k : Nat) (hk : k < 14) : geti [7, 7, 7, 8, 8, 8, 8, 11, 12, 1, 3, 13, 9, 10] k = 7 ∨ geti [7, 7, 7, 8, 8, 8, 8, 11, 12, 1, 3, 13, 9, 10] k = 8 ∨ geti [7, 7, 7, 8, 8, 8, 8, 11, 12, 1, 3, 13, 9, 10] k = 11 ∨ geti [7, 7, 7, 8, 8, 8, 8, 11, 12, 1, 3, 13, 9, 10] k = 12 ∨ geti [7, 7, 7, 8, 8, 8, 8, 11, 12, 1, 3, 13, 9, 10] k = 1 ∨ geti [7, 7, 7, 8, 8, 8, 8, 11, 12, 1, 3, 13, 9, 10] k = 3 ∨ geti [7, 7, 7, 8, 8, 8, 8, 11, 12, 1, 3, 13, 9, 10] k = 13 ∨ geti [7, 7, 7, 8, 8, 8, 8, 11, 12, 1, 3, 13, 9, 10] k = 9 ∨ geti [7, 7, 7, 8, 8, 8, 8, 11, 12, 1, 3, 13, 9, 10] k = 10 := by
  have : ∀ k : Fin 14, geti [7, 7, 7, 8, 8, 8, 8, 11, 12, 1, 3, 13, 9, 10] k = 7 ∨ geti [7, 7, 7, 8, 8, 8, 8, 11, 12, 1, 3, 13, 9, 10] k = 8 ∨ geti [7, 7, 7, 8, 8, 8, 8, 11, 12, 1, 3, 13, 9, 10] k = 11 ∨ geti [7, 7, 7, 8, 8, 8, 8, 11, 12, 1, 3, 13, 9, 10] k = 12 ∨ geti [7, 7, 7, 8, 8, 8, 8, 11, 12, 1, 3, 13, 9, 10] k = 1 ∨ geti [7, 7, 7, 8, 8, 8, 8, 11, 12, 1, 3, 13, 9, 10] k = 3 ∨ geti [7, 7, 7, 8, 8, 8, 8, 11, 12, 1, 3, 13, 9, 10] k = 13 ∨ geti [7, 7, 7, 8, 8, 8, 8, 11, 12, 1, 3, 13, 9, 10] k = 9 ∨ geti [7, 7, 7, 8, 8, 8, 8, 11, 12, 1, 3, 13, 9, 10] k = 10 := by decide
  exact this ⟨k, hk⟩

end Go.Proofs.Ytbhfkfapdpedpaa
