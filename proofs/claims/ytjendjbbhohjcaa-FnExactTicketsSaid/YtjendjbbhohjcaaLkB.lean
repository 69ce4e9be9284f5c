/- Tickets of both sides, at every argument. -/
import Derived.Test.YtjendjbbhohjcaaLkBs
import Derived.Test.YtjendjbbhohjcaaLkBp
namespace Go.Proofs.Ytjendjbbhohjcaa
open Go.RowKit

theorem ticTs_bound (m k : Nat) : insTo (ticTs m k) k ≤ k * (7 * m) := by
  have h := insTo_bound (ticTs m k) (7 * m) (ticTs m k).length (fun j hj => by
    rw [ticTs_len] at hj
    unfold ticTs gett
    rw [List.getD_eq_getElem?_getD, List.getElem?_replicate, if_pos hj]
    exact Nat.le_of_eq (ticL_len m m)) (Nat.le_refl _)
  rwa [ticTs_len] at h
theorem ticP_size (z m : Int) : progSize (ticP z m) ≤ 1048576 := by
  unfold ticP
  cases h : ticB z m
  · show progSize ⟨[], []⟩ ≤ 1048576
    decide
  · have h2 : 1 ≤ z ∧ z ≤ 3 ∧ 1 ≤ m ∧ m ≤ 3 := of_decide_eq_true h
    rw [if_pos rfl]
    have h3 := ticTs_bound m.toNat z.toNat
    have h4 := insTo_all (ticTs m.toNat z.toNat)
    rw [ticTs_len] at h4
    have h5 : z.toNat * (7 * m.toNat) ≤ 3 * 21 := Nat.mul_le_mul (by omega) (by omega)
    show ([1] : List Int).length + tsSize (ticTs m.toNat z.toNat) ≤ 1048576
    rw [show ([1] : List Int).length = 1 from rfl]
    omega
end Go.Proofs.Ytjendjbbhohjcaa
