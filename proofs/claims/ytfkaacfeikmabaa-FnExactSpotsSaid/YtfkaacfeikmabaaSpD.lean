/- Spots, as plain functions: how far the jumps ahead lead, whether a store may wait, the loads behind it. -/
import Derived.Test.YtfkaacfeikmabaaL5q
namespace Go.Proofs.Ytfkaacfeikmabaa
open Go.RowKit

def leapB (o : Int) : Bool := o == 13 || o == 14
def fenB (o : Int) : Bool := o == 12 || o == 11
/-- The furthest that a jump ahead of instruction k leads. -/
def farI (l : List InsD) : Nat → Int
  | 0 => 0
  | k + 1 => if leapB (getd l k).o then max (farI l k) (getd l k).n else farI l k
/-- May a store wait behind the first k instructions? -/
def openI (l : List InsD) : Nat → Bool
  | 0 => false
  | k + 1 => if storeB (getd l k).o then true else if fenB (getd l k).o then (openI l k && decide ((k : Int) < farI l k)) else openI l k
/-- The spots among the first k instructions. -/
def atsI (l : List InsD) : Nat → List Int
  | 0 => []
  | k + 1 => if loadB (getd l k).o && openI l k then atsI l k ++ [(k : Int)] else atsI l k
def pairsT (t : Int) (zs : List Int) : List Int := zs.flatMap fun a => [t, a]
/-- The spots of the first k threads, their numbers one behind the other. -/
def spotsT (ts : List (List InsD)) : Nat → List Int
  | 0 => []
  | k + 1 => spotsT ts k ++ pairsT (k : Int) (atsI (gett ts k) (gett ts k).length)
theorem load_of_fen {o : Int} (h : fenB o = true) : loadB o = false := by
  unfold fenB at h
  unfold loadB
  simp only [Bool.or_eq_true, beq_iff_eq] at h
  rcases h with rfl | rfl <;> rfl
theorem load_of_store {o : Int} (h : storeB o = true) : loadB o = false := by
  unfold storeB at h
  unfold loadB
  simp only [Bool.or_eq_true, beq_iff_eq] at h
  rcases h with rfl | rfl <;> rfl
theorem fen_no {o : Int} (h : fenB o = false) : (o == 12) = false ∧ (o == 11) = false := by
  unfold fenB at h
  simpa only [Bool.or_eq_false_iff] using h
theorem farI_mono (l : List InsD) {i k : Nat} (h : i ≤ k) : farI l i ≤ farI l k := by
  induction k with
  | zero => obtain rfl : i = 0 := by omega
            exact Int.le_refl _
  | succ k ih =>
    rcases Nat.lt_or_ge k i with h1 | h1
    · obtain rfl : i = k + 1 := by omega
      exact Int.le_refl _
    · have h2 := ih h1
      show farI l i ≤ if leapB (getd l k).o then max (farI l k) (getd l k).n else farI l k
      split
      · omega
      · exact h2
theorem farI_jump {l : List InsD} {k : Nat} (h : leapB (getd l k).o = true) : farI l (k + 1) = max (farI l k) (getd l k).n := by
  show (if leapB (getd l k).o then max (farI l k) (getd l k).n else farI l k) = _
  rw [if_pos h]
theorem farI_stay {l : List InsD} {k : Nat} (h : leapB (getd l k).o = false) : farI l (k + 1) = farI l k := by
  show (if leapB (getd l k).o then max (farI l k) (getd l k).n else farI l k) = _
  rw [if_neg (by rw [h]; decide)]
theorem openI_store {l : List InsD} {k : Nat} (h : storeB (getd l k).o = true) : openI l (k + 1) = true := by
  show (if storeB (getd l k).o then true else _) = _
  rw [if_pos h]
theorem openI_fen {l : List InsD} {k : Nat} (h : storeB (getd l k).o = false) (h1 : fenB (getd l k).o = true) : openI l (k + 1) = (openI l k && decide ((k : Int) < farI l k)) := by
  show (if storeB (getd l k).o then true else if fenB (getd l k).o then (openI l k && decide ((k : Int) < farI l k)) else openI l k) = _
  rw [if_neg (by rw [h]; decide), if_pos h1]
theorem openI_stay {l : List InsD} {k : Nat} (h : storeB (getd l k).o = false) (h1 : fenB (getd l k).o = false) : openI l (k + 1) = openI l k := by
  show (if storeB (getd l k).o then true else if fenB (getd l k).o then (openI l k && decide ((k : Int) < farI l k)) else openI l k) = _
  rw [if_neg (by rw [h]; decide), if_neg (by rw [h1]; decide)]
theorem atsI_load {l : List InsD} {k : Nat} (h : loadB (getd l k).o = true) (h1 : openI l k = true) : atsI l (k + 1) = atsI l k ++ [(k : Int)] := by
  show (if loadB (getd l k).o && openI l k then atsI l k ++ [(k : Int)] else atsI l k) = _
  rw [if_pos (by rw [h, h1]; rfl)]
theorem atsI_stay {l : List InsD} {k : Nat} (h : (loadB (getd l k).o && openI l k) = false) : atsI l (k + 1) = atsI l k := by
  show (if loadB (getd l k).o && openI l k then atsI l k ++ [(k : Int)] else atsI l k) = _
  rw [if_neg (by rw [h]; decide)]
theorem atsI_len (l : List InsD) (k : Nat) : (atsI l k).length ≤ k := by
  induction k with
  | zero => simp [atsI]
  | succ k ih =>
    cases h : (loadB (getd l k).o && openI l k)
    · rw [atsI_stay h]; omega
    · simp only [Bool.and_eq_true] at h
      rw [atsI_load h.1 h.2, List.length_append, List.length_singleton]; omega
theorem atsI_mono (l : List InsD) {i k : Nat} (h : i ≤ k) : (atsI l i).length ≤ (atsI l k).length := by
  induction k with
  | zero => obtain rfl : i = 0 := by omega
            exact Nat.le_refl _
  | succ k ih =>
    rcases Nat.lt_or_ge k i with h1 | h1
    · obtain rfl : i = k + 1 := by omega
      exact Nat.le_refl _
    · have h2 := ih h1
      cases h3 : (loadB (getd l k).o && openI l k)
      · rw [atsI_stay h3]; exact h2
      · simp only [Bool.and_eq_true] at h3
        rw [atsI_load h3.1 h3.2, List.length_append]; omega
theorem pairsT_len (t : Int) (zs : List Int) : (pairsT t zs).length = zs.length * 2 := by
  induction zs with
  | nil => rfl
  | cons z zs ih =>
    unfold pairsT at ih ⊢
    rw [List.flatMap_cons, List.length_append, ih, List.length_cons]
    simp
    omega
theorem pairsT_more (t : Int) (zs : List Int) (z : Int) : pairsT t (zs ++ [z]) = pairsT t zs ++ [t, z] := by
  unfold pairsT
  rw [List.flatMap_append]
  simp
theorem spotsT_succ (ts : List (List InsD)) (k : Nat) : spotsT ts (k + 1) = spotsT ts k ++ pairsT (k : Int) (atsI (gett ts k) (gett ts k).length) := rfl
/-- How many there are. -/
def spotsN (ts : List (List InsD)) : Nat → Nat
  | 0 => 0
  | k + 1 => spotsN ts k + (atsI (gett ts k) (gett ts k).length).length
theorem spotsT_len (ts : List (List InsD)) (k : Nat) : (spotsT ts k).length = spotsN ts k * 2 := by
  induction k with
  | zero => rfl
  | succ k ih =>
    rw [spotsT_succ, List.length_append, ih, pairsT_len]
    show _ = (spotsN ts k + (atsI (gett ts k) (gett ts k).length).length) * 2
    omega
theorem spotsN_le (ts : List (List InsD)) (k : Nat) (h : ∀ j, j < k → (gett ts j).length ≤ 24) : spotsN ts k ≤ k * 24 := by
  induction k with
  | zero => simp [spotsN]
  | succ k ih =>
    have h1 := ih (fun j hj => h j (by omega))
    have h2 := h k (by omega)
    have h3 := atsI_len (gett ts k) (gett ts k).length
    show spotsN ts k + (atsI (gett ts k) (gett ts k).length).length ≤ _
    omega
end Go.Proofs.Ytfkaacfeikmabaa
