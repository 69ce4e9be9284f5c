/- Jumps moved on, of plain lists. -/
import Derived.Test.YtjendjbbhohjcaaDqD
import Derived.Deep.AppendLies
import Derived.Deep.RegionLaw
import Derived.Deep.DrawnRows
import Derived.Deep.DeepCutAuto
namespace Go.Proofs.Ytjendjbbhohjcaa
open Go.RowKit

theorem movL_len (k : Int) (l : List InsD) : (movL k l).length = l.length := by simp [movL]
theorem take_getd (l : List InsD) (j : Nat) (h : j < l.length) : l.take (j + 1) = l.take j ++ [getd l j] := by
  rw [List.take_succ_eq_append_getElem h]
  simp [getd, List.getD_eq_getElem?_getD, List.getElem?_eq_getElem h]
theorem movL_step (k : Int) (l : List InsD) (j : Nat) (h : j < l.length) : movL k (l.take (j + 1)) = movL k (l.take j) ++ [movI k (getd l j)] := by
  rw [take_getd l j h]
  simp [movL]
theorem getd_mem (l : List InsD) (j : Nat) (h : j < l.length) : getd l j ∈ l := by
  unfold getd
  rw [List.getD_eq_getElem?_getD, List.getElem?_eq_getElem h]
  exact List.getElem_mem h
/-- A store into a box that is new since W, and no block of the row. -/
theorem GrowI.setFar {W w : World} {A : Option Addr} {c n i q : Nat} {l : List InsD} (h : GrowI W A c n l w) (hq : W.heap.size ≤ q) (ha : some q ≠ (Value.slice A n c).ownBlock) (u : Value) : GrowI W A c n l (w.setCell ⟨q, i, none⟩ u) :=
  ⟨own_setFar h.own (fun e => ha e.symm) u, h.low.setCell hq u⟩
end Go.Proofs.Ytjendjbbhohjcaa
