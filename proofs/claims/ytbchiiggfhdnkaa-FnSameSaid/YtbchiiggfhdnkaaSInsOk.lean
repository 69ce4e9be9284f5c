/- spec.InsOk returns insB, for every argument. -/
import Derived.Test.YtbchiiggfhdnkaaSInsOk1
import Derived.Test.YtbchiiggfhdnkaaSInsOk2
namespace Go.Proofs.Ytbchiiggfhdnkaa
open Go.RowKit

theorem sins_any (o r a b x n i cells m : Int) (w : World) (hc1 : -9223372036854775808 ≤ cells) (hc2 : cells ≤ 9223372036854775807) :
    Calls Try.prog 18 #[.agg #[.int .i64 o, .int .i64 r, .int .i64 a, .int .i64 b, .int .i64 x, .int .i64 n], .int .i64 i, .int .i64 cells, .int .i64 m] w fun e w' => e = .returned (.bool (insB o r a b x n i cells m)) ∧ Below w.heap.size w w' := by
  by_cases hk : 1 ≤ o ∧ o ≤ 14
  · by_cases hr : regB r = false ∨ regB a = false ∨ regB b = false
    · exact sins_regs o r a b x n i cells m w hk.1 hk.2 hr
    · have h1 : regB r = true := by cases h : regB r <;> simp_all
      have h2 : regB a = true := by cases h : regB a <;> simp_all
      have h3 : regB b = true := by cases h : regB b <;> simp_all
      by_cases g1 : o = 1 ∨ o = 2 ∨ o = 3 ∨ o = 4
      · exact sins_a o r a b x n i cells m w g1 h1 h2 h3
      by_cases g2 : o = 5 ∨ o = 6 ∨ o = 12
      · exact sins_b o r a b x n i cells m w g2 h1 h2 h3
      by_cases g3 : o = 7 ∨ o = 8 ∨ o = 11
      · exact sins_c o r a b x n i cells m w g3 h1 h2 h3 hc1 hc2
      by_cases g4 : o = 9 ∨ o = 10
      · exact sins_d o r a b x n i cells m w g4 h1 h2 h3 hc1 hc2
      · exact sins_e o r a b x n i cells m w (by omega) h1 h2 h3
  · exact sins_low o r a b x n i cells m w hk
end Go.Proofs.Ytbchiiggfhdnkaa
