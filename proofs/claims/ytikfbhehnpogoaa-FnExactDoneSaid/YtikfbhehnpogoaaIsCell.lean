/- isCell. -/
import Derived.Test.YtikfbhehnpogoaaRvT
namespace Go.Proofs.Ytikfbhehnpogoaa
open Go.RowKit

/-- Is x the number of one of m cells? -/
def cellB (x : Int) (m : Nat) : Bool := decide (0 ≤ x ∧ x < m)
theorem cellB_yes {x : Int} {m : Nat} (h : 0 ≤ x ∧ x < m) : cellB x m = true := decide_eq_true h
theorem cellB_no {x : Int} {m : Nat} (h : ¬ (0 ≤ x ∧ x < m)) : cellB x m = false := decide_eq_false h

set_option maxHeartbeats 800000 in
theorem isCell_any (x : Int) (m : Nat) (w : World) : Calls Try.prog 120 #[.int .i64 x, .int .i64 m] w fun e w' => e = .returned (.bool (cellB x m)) ∧ w = w' := by
  by_cases h0 : 0 ≤ x
  · by_cases h1 : x < m
    · rw [cellB_yes ⟨h0, h1⟩]
      go_enter Try.func120, Try.ntmps120
      go_wp2
      go_ret
      exact ⟨rfl, rfl⟩
    · rw [cellB_no (by omega)]
      have h2 : decide (x < (m : Int)) = false := by simpa using h1
      go_enter Try.func120, Try.ntmps120
      go_wp2
      go_ret
      exact ⟨rfl, rfl⟩
  · rw [cellB_no (by omega)]
    have h2 : decide (0 ≤ x) = false := by simpa using h0
    go_enter Try.func120, Try.ntmps120
    go_wp2
    go_ret
    exact ⟨rfl, rfl⟩
end Go.Proofs.Ytikfbhehnpogoaa
