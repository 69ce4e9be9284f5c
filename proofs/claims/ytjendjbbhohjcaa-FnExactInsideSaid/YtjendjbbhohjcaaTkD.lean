/- What has been taken, as plain lists: what is got, sorted, each once; put in one by one. -/
import Derived.Test.YtjendjbbhohjcaaRvT
import Derived.Lib.SlicesCompact
namespace Go.Proofs.Ytjendjbbhohjcaa
open Go.RowKit

/-- Does place k count? -/
def getsB (rs : List Int) (k : Nat) : Bool := decide (k % 6 < 2) && (geti rs k != 0)
/-- What is got, of the first k places. -/
def gotTo (rs : List Int) : Nat → List Int
  | 0 => []
  | k + 1 => if getsB rs k then gotTo rs k ++ [geti rs k] else gotTo rs k
theorem gotTo_len (rs : List Int) (k : Nat) : (gotTo rs k).length ≤ k := by
  induction k with
  | zero => exact Nat.le_refl _
  | succ k ih =>
    show (if getsB rs k then gotTo rs k ++ [geti rs k] else gotTo rs k).length ≤ k + 1
    split
    · rw [List.length_append, List.length_singleton]; omega
    · omega
def sortI (zs : List Int) : List Int := zs.mergeSort fun x y => decide (x ≤ y)
theorem sortI_len (zs : List Int) : (sortI zs).length = zs.length := List.length_mergeSort zs
theorem sortI_mem (zs : List Int) (x : Int) : x ∈ sortI zs ↔ x ∈ zs := (List.mergeSort_perm zs _).mem_iff
theorem sortI_asc (zs : List Int) : (sortI zs).Pairwise (· ≤ ·) := by
  have h := List.pairwise_mergeSort (le := fun x y : Int => decide (x ≤ y)) (fun a b c h1 h2 => by simp at h1 h2 ⊢; omega) (fun a b => by simp; omega) zs
  exact h.imp (fun h => by simpa using h)
def uniqI (zs : List Int) : List Int := Lib.compact (sortI zs)

theorem get_arr (zs : List Int) (j : Nat) : zs.toArray[j]! = geti zs j := by
  simp [geti, List.getD_eq_getElem?_getD, getElem!_def]
  cases zs[j]? <;> rfl
theorem geti_asc {zs : List Int} (h : zs.Pairwise (· ≤ ·)) {i j : Nat} (hij : i ≤ j) (hj : j < zs.length) : geti zs i ≤ geti zs j := by
  have e1 : geti zs i = zs[i] := by simp [geti, List.getD_eq_getElem?_getD, List.getElem?_eq_getElem (show i < zs.length by omega)]
  have e2 : geti zs j = zs[j] := by simp [geti, List.getD_eq_getElem?_getD, List.getElem?_eq_getElem hj]
  rw [e1, e2]
  rcases Nat.lt_or_ge i j with h1 | h1
  · exact List.pairwise_iff_getElem.1 h i j (by omega) hj h1
  · have : i = j := by omega
    subst this; exact Int.le_refl _
/-- Of a row that goes up, each once: strictly up. -/
theorem compact_up {zs : List Int} (h : zs.Pairwise (· ≤ ·)) : (Lib.compact zs).Pairwise (· < ·) := by
  unfold Lib.compact Lib.compactUpTo
  rw [List.pairwise_map]
  have h0 : (List.range zs.length).Pairwise (· < ·) := List.pairwise_lt_range
  have h1 := h0.filter (Lib.keeps zs.toArray)
  refine h1.imp_of_mem ?_
  intro i j hi hj hij
  rw [List.mem_filter, List.mem_range] at hi hj
  have hk := hj.2
  unfold Lib.keeps at hk
  rw [decide_eq_true_eq] at hk
  rw [get_arr, get_arr] at hk
  rw [get_arr, get_arr]
  have h2 := geti_asc h (show i ≤ j - 1 by omega) (by omega)
  have h3 := geti_asc h (show j - 1 ≤ j by omega) hj.1
  rcases hk with hk | hk
  · omega
  · omega
theorem compact_mem {zs : List Int} (x : Int) : x ∈ Lib.compact zs ↔ x ∈ zs := by
  unfold Lib.compact
  constructor
  · intro h
    unfold Lib.compactUpTo at h
    rw [List.mem_map] at h
    obtain ⟨j, hj, rfl⟩ := h
    rw [List.mem_filter, List.mem_range] at hj
    rw [get_arr]
    simp [geti, List.getD_eq_getElem?_getD, List.getElem?_eq_getElem hj.1]
  · intro h
    have key : ∀ m, m ≤ zs.length → ∀ j, j < m → geti zs j ∈ Lib.compactUpTo zs.toArray m := by
      intro m
      induction m with
      | zero => intro _ j hj; omega
      | succ m ih =>
        intro hm j hj
        rw [Lib.compactUpTo_succ, get_arr, List.mem_append]
        rcases Nat.lt_or_ge j m with h1 | h1
        · exact .inl (ih (by omega) j h1)
        · have e : j = m := by omega
          subst e
          by_cases hk : Lib.keeps zs.toArray j = true
          · rw [if_pos hk]; exact .inr (by simp)
          · unfold Lib.keeps at hk
            rw [decide_eq_true_eq, get_arr, get_arr] at hk
            have h2 : j ≠ 0 ∧ geti zs j = geti zs (j - 1) := by
              refine ⟨fun e => hk (.inl e), ?_⟩
              exact Classical.byContradiction fun e => hk (.inr e)
            rw [h2.2]
            exact .inl (ih (by omega) (j - 1) (by omega))
    obtain ⟨j, hj, rfl⟩ := List.getElem_of_mem h
    have := key zs.length (Nat.le_refl _) j hj
    rwa [show geti zs j = zs[j] from by simp [geti, List.getD_eq_getElem?_getD, List.getElem?_eq_getElem hj]] at this

/-- Put in where it belongs, unless it is there. -/
def insU (x : Int) : List Int → List Int
  | [] => [x]
  | y :: ys => if y < x then y :: insU x ys else if y = x then y :: ys else x :: y :: ys
theorem insU_mem (x z : Int) (l : List Int) : z ∈ insU x l ↔ z = x ∨ z ∈ l := by
  induction l with
  | nil => simp [insU]
  | cons y ys ih =>
    unfold insU
    split
    · rw [List.mem_cons, ih, List.mem_cons]
      constructor
      · rintro (h | h | h)
        · exact .inr (.inl h)
        · exact .inl h
        · exact .inr (.inr h)
      · rintro (h | h | h)
        · exact .inr (.inl h)
        · exact .inl h
        · exact .inr (.inr h)
    · split
      · next h => subst h; simp
      · simp
theorem insU_up (x : Int) (l : List Int) (h : l.Pairwise (· < ·)) : (insU x l).Pairwise (· < ·) := by
  induction l with
  | nil => simp [insU]
  | cons y ys ih =>
    rw [List.pairwise_cons] at h
    unfold insU
    split
    · next hy =>
      rw [List.pairwise_cons]
      refine ⟨fun z hz => ?_, ih h.2⟩
      rw [insU_mem] at hz
      rcases hz with rfl | hz
      · exact hy
      · exact h.1 z hz
    · split
      · rw [List.pairwise_cons]; exact h
      · next h1 h2 =>
        rw [List.pairwise_cons]
        refine ⟨fun z hz => ?_, by rw [List.pairwise_cons]; exact h⟩
        rw [List.mem_cons] at hz
        rcases hz with rfl | hz
        · omega
        · have := h.1 z hz; omega
/-- Two rows that go up strictly and hold the same are the same. -/
theorem up_ext : ∀ (l k : List Int), l.Pairwise (· < ·) → k.Pairwise (· < ·) → (∀ x, x ∈ l ↔ x ∈ k) → l = k := by
  intro l
  induction l with
  | nil =>
    intro k _ _ h
    cases k with
    | nil => rfl
    | cons b k => exact absurd ((h b).2 (by simp)) (by simp)
  | cons a l ih =>
    intro k hl hk h
    cases k with
    | nil => exact absurd ((h a).1 (by simp)) (by simp)
    | cons b k =>
      rw [List.pairwise_cons] at hl hk
      have e : a = b := by
        have h1 := (h a).1 (by simp)
        have h2 := (h b).2 (by simp)
        rw [List.mem_cons] at h1 h2
        rcases h1 with h1 | h1
        · exact h1
        · rcases h2 with h2 | h2
          · exact h2.symm
          · have := hk.1 a h1
            have := hl.1 b h2
            omega
      subst e
      rw [ih k hl.2 hk.2 fun x => ?_]
      have hx := h x
      rw [List.mem_cons, List.mem_cons] at hx
      constructor
      · intro h1
        rcases hx.1 (.inr h1) with h2 | h2
        · have := hl.1 x h1; omega
        · exact h2
      · intro h1
        rcases hx.2 (.inr h1) with h2 | h2
        · have := hk.1 x h1; omega
        · exact h2
/-- The first i put in. -/
def takenTo (l : List Int) : Nat → List Int
  | 0 => []
  | i + 1 => insU (geti l i) (takenTo l i)
theorem takenTo_up (l : List Int) (i : Nat) : (takenTo l i).Pairwise (· < ·) := by
  induction i with
  | zero => exact List.Pairwise.nil
  | succ i ih => exact insU_up _ _ ih
theorem takenTo_mem (l : List Int) (i : Nat) (hi : i ≤ l.length) (x : Int) : x ∈ takenTo l i ↔ x ∈ l.take i := by
  induction i with
  | zero => simp [takenTo]
  | succ i ih =>
    show x ∈ insU (geti l i) (takenTo l i) ↔ _
    rw [insU_mem, ih (by omega), List.take_succ_eq_append_getElem (by omega), List.mem_append, List.mem_singleton, show geti l i = l[i] from by simp [geti, List.getD_eq_getElem?_getD, List.getElem?_eq_getElem (show i < l.length by omega)]]
    exact Or.comm
theorem takenTo_all (l : List Int) : takenTo l l.length = uniqI l :=
  up_ext _ _ (takenTo_up l _) (compact_up (sortI_asc l)) fun x => by
    unfold uniqI
    rw [takenTo_mem l _ (Nat.le_refl _), List.take_length, compact_mem, sortI_mem]
theorem insU_len (x : Int) (l : List Int) : (insU x l).length ≤ l.length + 1 := by
  induction l with
  | nil => simp [insU]
  | cons y ys ih =>
    unfold insU
    split
    · simp; omega
    · split
      · simp
      · simp
theorem takenTo_len (l : List Int) (i : Nat) : (takenTo l i).length ≤ i := by
  induction i with
  | zero => exact Nat.le_refl _
  | succ i ih => exact Nat.le_trans (insU_len _ _) (by omega)
/-- .. told by the place. -/
theorem insU_new (x : Int) : ∀ (l : List Int) (a : Nat), a ≤ l.length → (∀ j, j < a → geti l j < x) → (a = l.length ∨ (a < l.length ∧ ¬ geti l a < x ∧ geti l a ≠ x)) → insU x l = l.take a ++ [x] ++ l.drop a := by
  intro l
  induction l with
  | nil => intro a ha _ _; have : a = 0 := by simpa using ha
           subst this; rfl
  | cons y ys ih =>
    intro a ha hlow hat
    cases a with
    | zero =>
      rcases hat with h | ⟨_, h1, h2⟩
      · simp at h
      · have e : geti (y :: ys) 0 = y := rfl
        rw [e] at h1 h2
        unfold insU
        rw [if_neg h1, if_neg h2]
        rfl
    | succ a =>
      have h0 : y < x := hlow 0 (by omega)
      unfold insU
      rw [if_pos h0, ih a (by simpa using ha) (fun j hj => hlow (j + 1) (by omega)) (by
        rcases hat with h | ⟨h, h1, h2⟩
        · exact .inl (by simpa using h)
        · exact .inr ⟨by simpa using h, h1, h2⟩)]
      simp
theorem insU_old (x : Int) : ∀ (l : List Int) (a : Nat), a < l.length → (∀ j, j < a → geti l j < x) → geti l a = x → insU x l = l := by
  intro l
  induction l with
  | nil => intro a ha; simp at ha
  | cons y ys ih =>
    intro a ha hlow hat
    cases a with
    | zero =>
      have e : y = x := hat
      unfold insU
      rw [if_neg (by omega), if_pos e]
    | succ a =>
      have h0 : y < x := hlow 0 (by omega)
      unfold insU
      rw [if_pos h0, ih a (by simpa using ha) (fun j hj => hlow (j + 1) (by omega)) hat]
end Go.Proofs.Ytjendjbbhohjcaa
