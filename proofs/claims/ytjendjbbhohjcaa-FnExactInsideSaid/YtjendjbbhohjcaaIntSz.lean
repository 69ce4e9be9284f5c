/- laws.szIntS. -/
import Derived.Test.YtjendjbbhohjcaaIntD
namespace Go.Proofs.Ytjendjbbhohjcaa
open Go.RowKit
set_option maxHeartbeats 400000 in
theorem szIntS_any (A : Option Addr) (n c : Nat) (left : Int) (w : World) (h0 : 0 ≤ left) (h1 : left ≤ 1048576) (hn : n ≤ 9223372036854775807) :
    Calls Try.prog 74 #[.slice A n c, .int .i64 left] w fun e w' => e = .returned (.int .i64 (szR left n)) ∧ w = w' := by
  by_cases h : left < n
  · have HF := hide (show szR left n = -1 by unfold szR; rw [if_pos h])
    go_enter Try.func74, Try.ntmps74
    go_wp2
    go_ret
    exact ⟨ret_int HF.out.symm, rfl⟩
  · have HF := hide (show szR left n = left - n by unfold szR; rw [if_neg h])
    go_enter Try.func74, Try.ntmps74
    go_wp2
    go_ret
    exact ⟨ret_int HF.out.symm, rfl⟩

end Go.Proofs.Ytjendjbbhohjcaa
