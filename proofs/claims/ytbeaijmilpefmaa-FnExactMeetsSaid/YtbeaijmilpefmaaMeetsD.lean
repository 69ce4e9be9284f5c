/- What an outcome meets, as plain functions on numbers. -/
import Derived.Test.YtbeaijmilpefmaaCond
import Derived.Test.YtbeaijmilpefmaaOutE
namespace Go.Proofs.Ytbeaijmilpefmaa
open Go.RowKit

/-- Has register r of thread t the number v? -/
def metB (rs : List Int) (t r v : Int) : Bool := decide (0 ≤ t ∧ t < rs.length ∧ 0 ≤ r ∧ r ≤ 5 ∧ t * 6 + r < rs.length) && (geti rs (t * 6 + r).toNat == v)
def meetsB (rs zs : List Int) (n : Nat) : Bool := allB (fun k => metB rs (geti zs (k * 3)) (geti zs (k * 3 + 1)) (geti zs (k * 3 + 2))) n
theorem IntsAt.at_ {w : World} {S : Nat → Prop} {A : Option Addr} {zs : List Int} (h : IntsAt w S A zs) {i : Int} (h0 : 0 ≤ i) (hk : i < zs.length) : ∃ b off, A = some ⟨b, off, none⟩ ∧ S b ∧ w.cell? ⟨b, off + i.toNat, none⟩ = some (.int .i64 (geti zs i.toNat)) := by
  obtain ⟨b, off, e, hb, hc⟩ := h.2 (by omega)
  exact ⟨b, off, e, hb, hc _ (by omega)⟩
end Go.Proofs.Ytbeaijmilpefmaa
