/- What holds of places, of what one may read and write, and of two views joined: plain lists. -/
import Derived.Test.YtbhfkfapdpedpaaPlD
namespace Go.Proofs.Ytbhfkfapdpedpaa
open Go.RowKit

theorem putTo_ge (l : List PostD) (a n : Nat) : ∀ x ∈ putTo l a n, (a : Int) ≤ x := by
  intro x hx
  unfold putTo at hx
  rw [List.mem_map] at hx
  obtain ⟨j, -, rfl⟩ := hx
  omega
/-- Where one may write who knows of a post: behind it, the end last. -/
theorem writeI_end {l : List PostD} {i : Int} {p : Nat} (hp : placeI l i = p) (hpl : p < l.length) : writeI l i = putTo l (p + 1) l.length ++ [(l.length : Int)] := by
  unfold writeI
  rw [if_neg (by omega), hp, Int.toNat_natCast]
  exact putTo_yes (by omega) (by simp [putB])
theorem writeI_last {l : List PostD} {i : Int} {p : Nat} (hp : placeI l i = p) (hpl : p < l.length) : 0 < (writeI l i).length ∧ geti (writeI l i) ((writeI l i).length - 1) = l.length ∧ (p : Int) < geti (writeI l i) 0 ∧ (writeI l i).length ≤ l.length - p := by
  have e := writeI_end hp hpl
  have hlen : (writeI l i).length = (putTo l (p + 1) l.length).length + 1 := by rw [e]; simp
  refine ⟨by omega, ?_, ?_, ?_⟩
  · rw [hlen, e]
    unfold geti
    rw [List.getD_eq_getElem?_getD, List.getElem?_append_right (by omega)]
    simp
  · have hm : geti (writeI l i) 0 ∈ writeI l i := by
      unfold geti
      rw [List.getD_eq_getElem?_getD, List.getElem?_eq_getElem (by omega)]
      exact List.getElem_mem _
    generalize geti (writeI l i) 0 = x at hm ⊢
    rw [e, List.mem_append] at hm
    rcases hm with hm | hm
    · have := putTo_ge _ _ _ _ hm; omega
    · simp at hm; omega
  · rw [hlen]
    have := putTo_len l (p + 1) l.length
    omega
theorem readI_yes {l : List PostD} {i : Int} {p : Nat} (hp : placeI l i = p) (hpl : p < l.length) : (readI l i).length = l.length - p ∧ geti (readI l i) 0 = p := by
  have e : readI l i = fromTo p l.length := by
    unfold readI
    rw [if_neg (by omega), hp, Int.toNat_natCast]
  rw [e, fromTo_len]
  exact ⟨rfl, by rw [fromTo_get (by omega), Nat.add_zero]⟩
theorem readI_no {l : List PostD} {i : Int} (hp : placeI l i = -1) : readI l i = [] := by unfold readI; rw [if_pos hp]
theorem writeI_no {l : List PostD} {i : Int} (hp : placeI l i = -1) : writeI l i = [] := by unfold writeI; rw [if_pos hp]

theorem laterI_or (l : List PostD) (a b : Int) : laterI l a b = a ∨ laterI l a b = b := by
  unfold laterI
  split
  · exact .inr rfl
  · exact .inl rfl
theorem laterI_ge (l : List PostD) (a b : Int) : placeI l a ≤ placeI l (laterI l a b) ∧ placeI l b ≤ placeI l (laterI l a b) := by
  unfold laterI
  split <;> omega
theorem laterI_self (l : List PostD) (v : Int) : laterI l v v = v := by
  unfold laterI
  split <;> rfl
theorem joinTo_self (hs : List (List PostD)) (vs : List Int) (n : Nat) (h : vs.length = n) : joinTo hs vs vs n = vs := by
  refine List.ext_getElem (by rw [joinTo_len, h]) fun k hk hk' => ?_
  have h1 := joinTo_get hs vs vs (k := k) (n := n) (by omega)
  rw [laterI_self] at h1
  have e1 : geti (joinTo hs vs vs n) k = (joinTo hs vs vs n)[k] := by unfold geti; rw [List.getD_eq_getElem?_getD, List.getElem?_eq_getElem hk]; rfl
  have e2 : geti vs k = vs[k] := by unfold geti; rw [List.getD_eq_getElem?_getD, List.getElem?_eq_getElem hk']; rfl
  rw [← e1, ← e2, h1]
end Go.Proofs.Ytbhfkfapdpedpaa
