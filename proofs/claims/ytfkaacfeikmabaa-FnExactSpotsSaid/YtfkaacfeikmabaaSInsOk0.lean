/- plain facts on insB. -/
import Derived.Test.YtfkaacfeikmabaaLeaf
namespace Go.Proofs.Ytfkaacfeikmabaa
open Go.RowKit

theorem insB_no {o r a b x n i cells m : Int} (h : ¬ (1 ≤ o ∧ o ≤ 14) ∨ regB r = false ∨ regB a = false ∨ regB b = false) : insB o r a b x n i cells m = false := by
  unfold insB regsB
  rcases h with h | h | h | h
  · have : knownB o = false := by unfold knownB; simpa using h
    rw [this]; simp
  · rw [h]; simp
  · rw [h]; simp
  · rw [h]; simp
theorem insB_iff {o r a b x n i cells m : Int} (hk : 1 ≤ o ∧ o ≤ 14) (h1 : regB r = true) (h2 : regB a = true) (h3 : regB b = true) :
    (insB o r a b x n i cells m = true) ↔ ((r = 0 ∨ uR o = true) ∧ (a = 0 ∨ uA o = true) ∧ (b = 0 ∨ uB o = true) ∧ (x = 0 ∨ uX o = true) ∧ (n = 0 ∨ uN o = true)) ∧ (touchN o = 0 ∨ (1 ≤ countN o n ∧ countN o n ≤ cells ∧ 0 ≤ x ∧ x ≤ cells - countN o n)) ∧ ((o = 13 ∨ o = 14) → (i < n ∧ n ≤ m)) := by
  unfold insB regsB zeroB cellsB jumpB
  have : knownB o = true := by unfold knownB; simpa using hk
  rw [this, h1, h2, h3]
  have e : (¬o = 13 ∧ ¬o = 14 ∨ i < n ∧ n ≤ m) ↔ ((o = 13 ∨ o = 14) → i < n ∧ n ≤ m) := by omega
  simp [and_assoc, e]

end Go.Proofs.Ytfkaacfeikmabaa
