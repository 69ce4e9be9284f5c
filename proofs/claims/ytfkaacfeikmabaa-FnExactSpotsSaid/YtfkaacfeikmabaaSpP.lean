/- Spots of a program, as a plain function, and its bounds. -/
import Derived.Test.YtfkaacfeikmabaaIPok
import Derived.Test.YtfkaacfeikmabaaSpD
namespace Go.Proofs.Ytfkaacfeikmabaa
open Go.RowKit

def spotsL (p : ProgD) : List Int := if progB p then spotsT p.ts p.ts.length else []
def spotsK (p : ProgD) : Nat := if progB p then spotsN p.ts p.ts.length else 0
theorem prog_thr {p : ProgD} (h : progB p = true) : p.init.length ≤ 6 ∧ p.ts.length ≤ 3 ∧ ∀ j, j < p.ts.length → (gett p.ts j).length ≤ 24 := by
  unfold progB sizesB at h
  simp only [Bool.and_eq_true, decide_eq_true_eq] at h
  obtain ⟨h1, h2⟩ := h
  refine ⟨by omega, by omega, fun j hj => ?_⟩
  have h3 := allB_at h2 hj
  unfold thrB at h3
  simp only [Bool.and_eq_true, decide_eq_true_eq] at h3
  exact h3.1
theorem spotsN_72 {p : ProgD} (h : progB p = true) {k : Nat} (hk : k ≤ p.ts.length) : spotsN p.ts k ≤ 72 := by
  obtain ⟨_, h1, h2⟩ := prog_thr h
  have := spotsN_le p.ts k (fun j hj => h2 j (by omega))
  omega
theorem spotsL_len (p : ProgD) : (spotsL p).length = spotsK p * 2 := by
  unfold spotsL spotsK
  cases progB p
  · rfl
  · simp only [if_true]
    exact spotsT_len _ _
theorem spotsK_le (p : ProgD) : spotsK p ≤ 72 := by
  unfold spotsK
  cases h : progB p
  · simp
  · simp only [if_true]
    exact spotsN_72 h (Nat.le_refl _)
end Go.Proofs.Ytfkaacfeikmabaa
