/- DequeProg of both sides, at every argument. -/
import Derived.Test.YthgpifeljeldjaaDqPi
import Derived.Test.YthgpifeljeldjaaDqPs
namespace Go.Proofs.Ythgpifeljeldjaa
open Go.RowKit

theorem sdeque_any (A : Option Addr) (z f : Int) (zs : List Int) (c : Nat) (w : World) (ha : IntsAt w (Old w.heap.size) A zs) :
    Calls Try.prog 11 #[.int .i64 z, .slice A zs.length c, .int .i64 f] w fun e w' => FenR w w' e (dqP z zs f) (okQ z zs f) := by
  by_cases h : (1 ≤ z ∧ z ≤ 4) ∧ zs.length ≤ 2 ∧ 0 ≤ f ∧ f ≤ 3
  · exact sdeque_main A z f zs c _ w (fun _ h => h) ha h.1.1 h.1.2 h.2.1 h.2.2.1 h.2.2.2
  · have h1 : okQ z zs f = false := by
      unfold okQ
      rw [decide_eq_false (fun k => h ⟨⟨k.1, k.2.1⟩, k.2.2.1, k.2.2.2.1, k.2.2.2.2⟩), Bool.false_and]
    have h2 : dqP z zs f = ⟨[], []⟩ := by unfold dqP; rw [h1]; rfl
    rw [h1, h2]
    exact sdeque_no A z f zs c w ha.1 h
theorem pdeque_any (A : Option Addr) (z f : Int) (zs : List Int) (c : Nat) (w : World) (ha : IntsAt w (Old w.heap.size) A zs) :
    Calls Try.prog 10 #[.int .i64 z, .slice A zs.length c, .int .i64 f] w fun e w' => FenR w w' e (dqP z zs f) (okQ z zs f) := by
  cases h : okQ z zs f
  · rw [show dqP z zs f = ⟨[], []⟩ from by unfold dqP; rw [h]; rfl]
    exact pdeque_no A z f zs c _ w (fun _ h => h) ha h
  · rw [show dqP z zs f = dqQ z zs f from by unfold dqP; rw [h]; rfl]
    exact pdeque_yes A z f zs c _ w (fun _ h => h) ha h
end Go.Proofs.Ythgpifeljeldjaa
