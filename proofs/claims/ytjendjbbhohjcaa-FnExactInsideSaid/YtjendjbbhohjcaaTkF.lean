/- What threads have in registers that count, as plain lists; whether one stands twice. -/
import Derived.Test.YtjendjbbhohjcaaTkD
namespace Go.Proofs.Ytjendjbbhohjcaa
open Go.RowKit

/-- Does place k count? -/
def cntB (f : Nat → Bool) (rs : List Int) (k : Nat) : Bool := f (k % 6) && (geti rs k != 0)
/-- What counts, of the first k places. -/
def gotF (f : Nat → Bool) (rs : List Int) : Nat → List Int
  | 0 => []
  | k + 1 => if cntB f rs k then gotF f rs k ++ [geti rs k] else gotF f rs k
theorem gotF_len (f : Nat → Bool) (rs : List Int) (k : Nat) : (gotF f rs k).length ≤ k := by
  induction k with
  | zero => exact Nat.le_refl _
  | succ k ih =>
    show (if cntB f rs k then gotF f rs k ++ [geti rs k] else gotF f rs k).length ≤ k + 1
    split
    · rw [List.length_append, List.length_singleton]; omega
    · omega
theorem gotF_item (rs : List Int) (k : Nat) : gotF (fun m => decide (m < 2)) rs k = gotTo rs k := by
  induction k with
  | zero => rfl
  | succ k ih =>
    show (if cntB _ rs k then gotF _ rs k ++ [geti rs k] else gotF _ rs k) = (if getsB rs k then gotTo rs k ++ [geti rs k] else gotTo rs k)
    rw [ih]
    rfl
theorem gotF_mem (f : Nat → Bool) (rs : List Int) (n : Nat) (x : Int) : x ∈ gotF f rs n ↔ ∃ k, k < n ∧ cntB f rs k = true ∧ geti rs k = x := by
  induction n with
  | zero => simp [gotF]
  | succ n ih =>
    show x ∈ (if cntB f rs n then gotF f rs n ++ [geti rs n] else gotF f rs n) ↔ _
    by_cases h : cntB f rs n = true
    · rw [if_pos h, List.mem_append, ih, List.mem_singleton]
      constructor
      · rintro (⟨k, h1, h2, h3⟩ | h1)
        · exact ⟨k, by omega, h2, h3⟩
        · exact ⟨n, by omega, h, h1.symm⟩
      · rintro ⟨k, h1, h2, h3⟩
        rcases Nat.lt_or_ge k n with h4 | h4
        · exact .inl ⟨k, h4, h2, h3⟩
        · have : k = n := by omega
          subst this; exact .inr h3.symm
    · rw [if_neg h, ih]
      constructor
      · rintro ⟨k, h1, h2, h3⟩
        exact ⟨k, by omega, h2, h3⟩
      · rintro ⟨k, h1, h2, h3⟩
        rcases Nat.lt_or_ge k n with h4 | h4
        · exact ⟨k, h4, h2, h3⟩
        · have : k = n := by omega
          subst this; exact absurd h2 h
/-- Has something been got twice? -/
def oftenB (rs : List Int) (n : Nat) : Bool := decide ((uniqI (gotTo rs n)).length < (gotTo rs n).length)
/-- Stands one twice? -/
def twiceB (l : List Int) : Bool := decide ((uniqI l).length < l.length)
theorem insU_length (x : Int) (l : List Int) (h : l.Pairwise (· < ·)) : (insU x l).length = if x ∈ l then l.length else l.length + 1 := by
  induction l with
  | nil => simp [insU]
  | cons y ys ih =>
    rw [List.pairwise_cons] at h
    unfold insU
    by_cases h1 : y < x
    · rw [if_pos h1, List.length_cons, ih h.2]
      have e : x ∈ y :: ys ↔ x ∈ ys := by
        rw [List.mem_cons]
        exact ⟨fun k => k.elim (fun k => by omega) id, .inr⟩
      by_cases h2 : x ∈ ys
      · rw [if_pos h2, if_pos (e.2 h2), List.length_cons]
      · rw [if_neg h2, if_neg (fun k => h2 (e.1 k)), List.length_cons]
    · rw [if_neg h1]
      by_cases h2 : y = x
      · rw [if_pos h2, if_pos (by subst h2; simp)]
      · rw [if_neg h2, if_neg (fun k => by
          rw [List.mem_cons] at k
          rcases k with k | k
          · exact h2 k.symm
          · have := h.1 x k; omega)]
        rfl
theorem takenTo_append (l : List Int) (x : Int) (i : Nat) (hi : i ≤ l.length) : takenTo (l ++ [x]) i = takenTo l i := by
  induction i with
  | zero => rfl
  | succ i ih =>
    show insU (geti (l ++ [x]) i) (takenTo (l ++ [x]) i) = insU (geti l i) (takenTo l i)
    rw [ih (by omega)]
    congr 1
    simp [geti, List.getD_eq_getElem?_getD, List.getElem?_append, show i < l.length by omega]
theorem uniq_snoc (l : List Int) (x : Int) : uniqI (l ++ [x]) = insU x (uniqI l) := by
  rw [← takenTo_all, ← takenTo_all, List.length_append, List.length_singleton]
  show insU (geti (l ++ [x]) l.length) (takenTo (l ++ [x]) l.length) = _
  rw [takenTo_append l x _ (Nat.le_refl _)]
  congr 1
  simp [geti, List.getD_eq_getElem?_getD]
theorem uniq_up (l : List Int) : (uniqI l).Pairwise (· < ·) := by
  rw [← takenTo_all]
  exact takenTo_up _ _
theorem uniq_mem (l : List Int) (x : Int) : x ∈ uniqI l ↔ x ∈ l := by
  rw [← takenTo_all, takenTo_mem _ _ (Nat.le_refl _), List.take_length]
theorem uniq_len (l : List Int) : (uniqI l).length ≤ l.length := by
  rw [← takenTo_all]
  exact takenTo_len _ _
theorem twice_snoc (l : List Int) (x : Int) : twiceB (l ++ [x]) = (twiceB l || decide (x ∈ l)) := by
  have h1 := uniq_len l
  unfold twiceB
  rw [uniq_snoc, insU_length x _ (uniq_up l), List.length_append, List.length_singleton, ← Bool.decide_or]
  apply decide_eq_decide.2
  by_cases h : x ∈ l
  · rw [if_pos ((uniq_mem l x).2 h)]
    exact ⟨fun _ => .inr h, fun _ => by omega⟩
  · rw [if_neg (fun k => h ((uniq_mem l x).1 k))]
    exact ⟨fun k => .inl (by omega), fun k => k.elim (fun k => by omega) (fun k => absurd k h)⟩
theorem twice_nil : twiceB [] = false := by
  unfold twiceB
  exact decide_eq_false (by simp)
/-- Of what counts one stands twice, if two places that count have the same. -/
theorem twice_got (f : Nat → Bool) (rs : List Int) (n : Nat) : twiceB (gotF f rs n) = true ↔ ∃ i k, k < i ∧ i < n ∧ cntB f rs i = true ∧ cntB f rs k = true ∧ geti rs i = geti rs k := by
  induction n with
  | zero =>
    show twiceB [] = true ↔ _
    rw [twice_nil]
    exact ⟨fun h => by simp at h, fun ⟨_, _, _, h, _⟩ => by omega⟩
  | succ n ih =>
    show twiceB (if cntB f rs n then gotF f rs n ++ [geti rs n] else gotF f rs n) = true ↔ _
    by_cases h : cntB f rs n = true
    · rw [if_pos h, twice_snoc, Bool.or_eq_true, ih, decide_eq_true_eq, gotF_mem]
      constructor
      · rintro (⟨i, k, h1, h2, h3⟩ | ⟨k, h1, h2, h3⟩)
        · exact ⟨i, k, h1, by omega, h3⟩
        · exact ⟨n, k, h1, by omega, h, h2, h3.symm⟩
      · rintro ⟨i, k, h1, h2, h3, h4, h5⟩
        rcases Nat.lt_or_ge i n with h6 | h6
        · exact .inl ⟨i, k, h1, h6, h3, h4, h5⟩
        · have : i = n := by omega
          subst this; exact .inr ⟨k, h1, h4, h5.symm⟩
    · rw [if_neg h, ih]
      constructor
      · rintro ⟨i, k, h1, h2, h3⟩
        exact ⟨i, k, h1, by omega, h3⟩
      · rintro ⟨i, k, h1, h2, h3, h4⟩
        rcases Nat.lt_or_ge i n with h6 | h6
        · exact ⟨i, k, h1, h6, h3, h4⟩
        · have : i = n := by omega
          subst this; exact absurd h3 h
/-- Behind the row's end nothing counts. -/
theorem gotF_out (f : Nat → Bool) (rs : List Int) (j : Nat) : gotF f rs (rs.length + j) = gotF f rs rs.length := by
  induction j with
  | zero => rfl
  | succ j ih =>
    show (if cntB f rs (rs.length + j) then _ else gotF f rs (rs.length + j)) = _
    have : cntB f rs (rs.length + j) = false := by
      unfold cntB
      rw [show geti rs (rs.length + j) = 0 from by simp [geti, List.getD_eq_getElem?_getD]]
      simp
    rw [this, ih]
    rfl
/-- One register's number, thread by thread. -/
theorem gotF_six (rs : List Int) (j : Nat) : (gotF (fun m => m == 0) rs (6 * (j + 1))).length = (gotF (fun m => m == 0) rs (6 * j)).length + (if geti rs (6 * j) != 0 then 1 else 0) := by
  have no : ∀ d, d = 1 ∨ d = 2 ∨ d = 3 ∨ d = 4 ∨ d = 5 → cntB (fun m => m == 0) rs (6 * j + d) = false := by
    intro d hd
    unfold cntB
    have : (6 * j + d) % 6 = d := by omega
    rw [this]
    rcases hd with rfl | rfl | rfl | rfl | rfl <;> rfl
  have st : ∀ k, cntB (fun m => m == 0) rs k = false → gotF (fun m => m == 0) rs (k + 1) = gotF (fun m => m == 0) rs k := by
    intro k h
    show (if cntB _ rs k then _ else gotF _ rs k) = _
    rw [h]
    rfl
  rw [show 6 * (j + 1) = 6 * j + 5 + 1 from by omega, st _ (no 5 (by omega)), show 6 * j + 5 = 6 * j + 4 + 1 from rfl, st _ (no 4 (by omega)), show 6 * j + 4 = 6 * j + 3 + 1 from rfl, st _ (no 3 (by omega)), show 6 * j + 3 = 6 * j + 2 + 1 from rfl, st _ (no 2 (by omega)), show 6 * j + 2 = 6 * j + 1 + 1 from rfl, st _ (no 1 (by omega))]
  show (if cntB _ rs (6 * j) then gotF _ rs (6 * j) ++ [geti rs (6 * j)] else gotF _ rs (6 * j)).length = _
  have e : cntB (fun m => m == 0) rs (6 * j) = (geti rs (6 * j) != 0) := by
    unfold cntB
    rw [show (6 * j) % 6 = 0 from by omega]
    rfl
  rw [e]
  cases (geti rs (6 * j) != 0)
  · rfl
  · rw [if_pos rfl, if_pos rfl, List.length_append, List.length_singleton]
end Go.Proofs.Ytjendjbbhohjcaa
