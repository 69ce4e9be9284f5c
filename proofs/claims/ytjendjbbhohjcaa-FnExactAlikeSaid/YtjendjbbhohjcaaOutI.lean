/- laws' helpers on an outcome, between block numbers: toOutcome, eqOutcome, szOutcome. -/
import Derived.Test.YtjendjbbhohjcaaOutE
namespace Go.Proofs.Ytjendjbbhohjcaa
open Go.RowKit

theorem toOutI {A : Option Addr} {zs : List Int} {n c : Nat} {S : Nat → Prop} {w : World} (hz : zs.length = n) (hn : n ≤ 1048576) (hS : ∀ b, S b → b < w.heap.size) (ha : IntsAt w S A zs) :
    Calls Try.prog 30 #[.agg #[.slice A n c]] w fun e w' => ∃ q, e = .returned (.agg #[.slice (some ⟨q, 0, none⟩) n n]) ∧ RvI 3 w' w.heap.size w'.heap.size (.slice (some ⟨q, 0, none⟩) n n) n zs ∧ Below w.heap.size w w' := by
  subst hz
  refine (toOutcome_any A zs c S w hn hS ha).mono ?_
  rintro e w' ⟨q, rfl, hq, hr, hb⟩
  exact ⟨q, rfl, RvI.of (.inr ⟨q, zs.length, rfl, hr, hq⟩), hb⟩
theorem eqOutI {w : World} {lo hi lo' hi' n c c' : Nat} {A A' : Option Addr} {zs : List Int} (hz : zs.length = n) (hn : n ≤ 1048577) (h : RvI 3 w lo hi (.slice A n c) n zs) (k : RvI 3 w lo' hi' (.slice A' n c') n zs) :
    Calls Try.prog 33 #[.agg #[.slice A n c], .agg #[.slice A' n c']] w fun e w' => e = .returned (.bool true) ∧ Below w.heap.size w w' := by
  subst hz
  exact eqOutcome_any A A' zs c c' _ w (fun _ h => h) (h.src (by omega) rfl) (k.src (by omega) rfl)
theorem szOut_big {A : Option Addr} {n c : Nat} (hn : n ≤ 9223372036854775807) (hbig : 1048576 < n) : ∀ w, Calls Try.prog 28 #[.agg #[.slice A n c], .int .i64 1048576] w fun e w' => e = .returned (.int .i64 (-1)) ∧ Below w.heap.size w w' := fun w => by
  have h := szOutcome_any A n c w hn
  rw [szR_neg (by omega)] at h
  exact h
theorem szOut_small {A : Option Addr} {n c : Nat} (hs : n ≤ 1048576) : ∃ s : Int, s = 1048576 - n ∧ ¬ s < 0 ∧ ∀ w, Calls Try.prog 28 #[.agg #[.slice A n c], .int .i64 1048576] w fun e w' => e = .returned (.int .i64 s) ∧ Below w.heap.size w w' := by
  refine ⟨(1048576 : Int) - n, rfl, by omega, fun w => ?_⟩
  have h := szOutcome_any A n c w (by omega)
  rw [szR_pos (by omega)] at h
  exact h
end Go.Proofs.Ytjendjbbhohjcaa
