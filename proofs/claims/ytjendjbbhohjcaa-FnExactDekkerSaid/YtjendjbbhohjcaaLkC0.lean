/- What answers a program of its own. -/
import Derived.Test.YtjendjbbhohjcaaLkA
import Derived.Test.YtjendjbbhohjcaaPartG
import Derived.Deep.RegionHeld3
namespace Go.Proofs.Ytjendjbbhohjcaa
open Go.RowKit

/-- What answers a program of its own. -/
def PrgR (w w' : World) (e : Ending) (q : ProgD) : Prop := ∃ v tv vs, e = .returned (.agg #[v, tv]) ∧ ProgOwn w' w.heap.size q.init v q.ts vs tv ∧ Below w.heap.size w w'
theorem PrgR.form {w w' : World} {e : Ending} {q : ProgD} (h : PrgR w w' e q) : ∃ A c A' c' vs, e = .returned (.agg #[.slice A q.init.length c, .slice A' q.ts.length c']) ∧ PrI w' w.heap.size w'.heap.size q (.slice A q.init.length c) (.slice A' q.ts.length c') vs ∧ Below w.heap.size w w' := by
  obtain ⟨v, tv, vs, rfl, h1, h2⟩ := h
  obtain ⟨A, c, rfl, -⟩ := own_form h1.ints
  obtain ⟨A', c', rfl, -⟩ := own_form h1.rows
  exact ⟨A, c, A', c', vs, rfl, .of h1, h2⟩
theorem dekC_small (k : Nat) (h : k < 2) : SmallN (dekC (k : Int)) := by unfold SmallN dekC; simp
theorem dekL_small (k : Nat) (h : k < 2) : SmallN (dekL (k : Int)) := by unfold SmallN dekL; simp
end Go.Proofs.Ytjendjbbhohjcaa
