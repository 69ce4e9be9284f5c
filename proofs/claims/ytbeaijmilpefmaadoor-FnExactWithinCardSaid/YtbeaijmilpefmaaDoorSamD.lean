/- Two rows of numbers that are the same. -/
import Derived.Test.YtbeaijmilpefmaaDoorCore
namespace Go.Proofs.YtbeaijmilpefmaaDoor

def sameI (zs ys : List Int) : Bool := decide (zs.length = ys.length) && allB (fun j => geti zs j == geti ys j) zs.length
theorem sameI_eq (zs ys : List Int) : sameI zs ys = (zs == ys) := by
  by_cases e : zs = ys
  · subst e
    rw [beq_self_eq_true]
    unfold sameI
    rw [decide_eq_true rfl, allB_yes (fun k _ => by simp)]
    rfl
  · rw [beq_eq_false_iff_ne.2 e]
    cases h : sameI zs ys
    · rfl
    · exfalso
      unfold sameI at h
      rw [Bool.and_eq_true, decide_eq_true_eq] at h
      refine e (List.ext_getElem h.1 (fun k h1 h2 => ?_))
      have := allB_at h.2 h1
      simpa [geti, List.getD_eq_getElem?_getD, List.getElem?_eq_getElem h1, List.getElem?_eq_getElem h2] using this
end Go.Proofs.YtbeaijmilpefmaaDoor
