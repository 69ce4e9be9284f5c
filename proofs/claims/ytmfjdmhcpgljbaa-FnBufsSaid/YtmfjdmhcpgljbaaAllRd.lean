/- What one reads of a cell is what stands there when all has been let go. No program. -/
import Derived.Test.YtmfjdmhcpgljbaaBufAl
import Derived.Test.YtmfjdmhcpgljbaaBufRd
namespace Go.Proofs.Ytmfjdmhcpgljbaa
open Go.RowKit

theorem allTo_read (zs ms : List Int) (x : Int) (k : Nat) (hx : 0 ≤ x ∧ x < ms.length) : geti (allTo zs ms k) x.toNat = readTo zs ms x k := by
  induction k with
  | zero =>
    rw [readTo, allTo, if_pos (cellB_yes hx)]
  | succ k ih =>
    rw [readTo, allTo]
    have hl := allTo_len zs ms k
    by_cases hc : cellB (geti zs (k * 2)) ms.length = true
    · rw [if_pos hc, geti_set]
      have hc' : 0 ≤ geti zs (k * 2) ∧ geti zs (k * 2) < ms.length := by simpa [cellB] using hc
      by_cases e : geti zs (k * 2) = x
      · rw [if_pos e, if_pos ⟨by rw [e], by omega⟩]
      · rw [if_neg e, if_neg (fun h => e (by omega)), ih]
    · rw [if_neg hc]
      have e : geti zs (k * 2) ≠ x := fun e => hc (by rw [e]; exact cellB_yes hx)
      rw [if_neg e, ih]
theorem geti_drop (zs : List Int) (j k : Nat) : geti (zs.drop j) k = geti zs (j + k) := by
  unfold geti
  rw [List.getD_eq_getElem?_getD, List.getD_eq_getElem?_getD, List.getElem?_drop]
/-- How long the row is that lies in a box. -/
def boxLen (w : World) (T : Nat) : Nat := match w.cell? ⟨T, 0, none⟩ with
  | some (.slice _ n _) => n
  | _ => 0
theorem boxLen_of {w : World} {T n c : Nat} {A : Option Addr} (h : w.cell? ⟨T, 0, none⟩ = some (.slice A n c)) : boxLen w T = n := by
  unfold boxLen; rw [h]
end Go.Proofs.Ytmfjdmhcpgljbaa
