/- A queue to steal from, as plain lists: taking, stealing, parts put one behind another. -/
import Derived.Test.YtjendjbbhohjcaaMc0
import Derived.Test.YtjendjbbhohjcaaMc3
import Derived.Test.YtjendjbbhohjcaaMc4
import Derived.Lib.SlicesCompact
namespace Go.Proofs.Ytjendjbbhohjcaa
open Go.RowKit

def getsB (rs : List Int) (k : Nat) : Bool := decide (k % 6 < 2) && (geti rs k != 0)
def gotTo (rs : List Int) : Nat → List Int
  | 0 => []
  | k + 1 => if getsB rs k then gotTo rs k ++ [geti rs k] else gotTo rs k
theorem gotTo_len (rs : List Int) (k : Nat) : (gotTo rs k).length ≤ k := by
  induction k with
  | zero => exact Nat.le_refl _
  | succ k ih =>
    show (if getsB rs k then gotTo rs k ++ [geti rs k] else gotTo rs k).length ≤ k + 1
    split
    · rw [List.length_append, List.length_singleton]; omega
    · omega
def sortI (zs : List Int) : List Int := zs.mergeSort fun x y => decide (x ≤ y)
theorem sortI_len (zs : List Int) : (sortI zs).length = zs.length := List.length_mergeSort zs
theorem sortI_mem (zs : List Int) (x : Int) : x ∈ sortI zs ↔ x ∈ zs := (List.mergeSort_perm zs _).mem_iff
theorem sortI_asc (zs : List Int) : (sortI zs).Pairwise (· ≤ ·) := by
  have h := List.pairwise_mergeSort (le := fun x y : Int => decide (x ≤ y)) (fun a b c h1 h2 => by simp at h1 h2 ⊢; omega) (fun a b => by simp; omega) zs
  exact h.imp (fun h => by simpa using h)
def uniqI (zs : List Int) : List Int := Lib.compact (sortI zs)

theorem get_arr (zs : List Int) (j : Nat) : zs.toArray[j]! = geti zs j := by
  simp [geti, List.getD_eq_getElem?_getD, getElem!_def]
  cases zs[j]? <;> rfl
theorem geti_asc {zs : List Int} (h : zs.Pairwise (· ≤ ·)) {i j : Nat} (hij : i ≤ j) (hj : j < zs.length) : geti zs i ≤ geti zs j := by
  have e1 : geti zs i = zs[i] := by simp [geti, List.getD_eq_getElem?_getD, List.getElem?_eq_getElem (show i < zs.length by omega)]
  have e2 : geti zs j = zs[j] := by simp [geti, List.getD_eq_getElem?_getD, List.getElem?_eq_getElem hj]
  rw [e1, e2]
  rcases Nat.lt_or_ge i j with h1 | h1
  · exact List.pairwise_iff_getElem.1 h i j (by omega) hj h1
  · have : i = j := by omega
    subst this; exact Int.le_refl _
theorem compact_up {zs : List Int} (h : zs.Pairwise (· ≤ ·)) : (Lib.compact zs).Pairwise (· < ·) := by
  unfold Lib.compact Lib.compactUpTo
  rw [List.pairwise_map]
  have h0 : (List.range zs.length).Pairwise (· < ·) := List.pairwise_lt_range
  have h1 := h0.filter (Lib.keeps zs.toArray)
  refine h1.imp_of_mem ?_
  intro i j hi hj hij
  rw [List.mem_filter, List.mem_range] at hi hj
  have hk := hj.2
  unfold Lib.keeps at hk
  rw [decide_eq_true_eq] at hk
  rw [get_arr, get_arr] at hk
  rw [get_arr, get_arr]
  have h2 := geti_asc h (show i ≤ j - 1 by omega) (by omega)
  have h3 := geti_asc h (show j - 1 ≤ j by omega) hj.1
  rcases hk with hk | hk
  · omega
  · omega
theorem compact_mem {zs : List Int} (x : Int) : x ∈ Lib.compact zs ↔ x ∈ zs := by
  unfold Lib.compact
  constructor
  · intro h
    unfold Lib.compactUpTo at h
    rw [List.mem_map] at h
    obtain ⟨j, hj, rfl⟩ := h
    rw [List.mem_filter, List.mem_range] at hj
    rw [get_arr]
    simp [geti, List.getD_eq_getElem?_getD, List.getElem?_eq_getElem hj.1]
  · intro h
    have key : ∀ m, m ≤ zs.length → ∀ j, j < m → geti zs j ∈ Lib.compactUpTo zs.toArray m := by
      intro m
      induction m with
      | zero => intro _ j hj; omega
      | succ m ih =>
        intro hm j hj
        rw [Lib.compactUpTo_succ, get_arr, List.mem_append]
        rcases Nat.lt_or_ge j m with h1 | h1
        · exact .inl (ih (by omega) j h1)
        · have e : j = m := by omega
          subst e
          by_cases hk : Lib.keeps zs.toArray j = true
          · rw [if_pos hk]; exact .inr (by simp)
          · unfold Lib.keeps at hk
            rw [decide_eq_true_eq, get_arr, get_arr] at hk
            have h2 : j ≠ 0 ∧ geti zs j = geti zs (j - 1) := by
              refine ⟨fun e => hk (.inl e), ?_⟩
              exact Classical.byContradiction fun e => hk (.inr e)
            rw [h2.2]
            exact .inl (ih (by omega) (j - 1) (by omega))
    obtain ⟨j, hj, rfl⟩ := List.getElem_of_mem h
    have := key zs.length (Nat.le_refl _) j hj
    rwa [show geti zs j = zs[j] from by simp [geti, List.getD_eq_getElem?_getD, List.getElem?_eq_getElem hj]] at this

def insU (x : Int) : List Int → List Int
  | [] => [x]
  | y :: ys => if y < x then y :: insU x ys else if y = x then y :: ys else x :: y :: ys
theorem insU_mem (x z : Int) (l : List Int) : z ∈ insU x l ↔ z = x ∨ z ∈ l := by
  induction l with
  | nil => simp [insU]
  | cons y ys ih =>
    unfold insU
    split
    · rw [List.mem_cons, ih, List.mem_cons]
      constructor
      · rintro (h | h | h)
        · exact .inr (.inl h)
        · exact .inl h
        · exact .inr (.inr h)
      · rintro (h | h | h)
        · exact .inr (.inl h)
        · exact .inl h
        · exact .inr (.inr h)
    · split
      · next h => subst h; simp
      · simp
theorem insU_up (x : Int) (l : List Int) (h : l.Pairwise (· < ·)) : (insU x l).Pairwise (· < ·) := by
  induction l with
  | nil => simp [insU]
  | cons y ys ih =>
    rw [List.pairwise_cons] at h
    unfold insU
    split
    · next hy =>
      rw [List.pairwise_cons]
      refine ⟨fun z hz => ?_, ih h.2⟩
      rw [insU_mem] at hz
      rcases hz with rfl | hz
      · exact hy
      · exact h.1 z hz
    · split
      · rw [List.pairwise_cons]; exact h
      · next h1 h2 =>
        rw [List.pairwise_cons]
        refine ⟨fun z hz => ?_, by rw [List.pairwise_cons]; exact h⟩
        rw [List.mem_cons] at hz
        rcases hz with rfl | hz
        · omega
        · have := h.1 z hz; omega
theorem up_ext : ∀ (l k : List Int), l.Pairwise (· < ·) → k.Pairwise (· < ·) → (∀ x, x ∈ l ↔ x ∈ k) → l = k := by
  intro l
  induction l with
  | nil =>
    intro k _ _ h
    cases k with
    | nil => rfl
    | cons b k => exact absurd ((h b).2 (by simp)) (by simp)
  | cons a l ih =>
    intro k hl hk h
    cases k with
    | nil => exact absurd ((h a).1 (by simp)) (by simp)
    | cons b k =>
      rw [List.pairwise_cons] at hl hk
      have e : a = b := by
        have h1 := (h a).1 (by simp)
        have h2 := (h b).2 (by simp)
        rw [List.mem_cons] at h1 h2
        rcases h1 with h1 | h1
        · exact h1
        · rcases h2 with h2 | h2
          · exact h2.symm
          · have := hk.1 a h1
            have := hl.1 b h2
            omega
      subst e
      rw [ih k hl.2 hk.2 fun x => ?_]
      have hx := h x
      rw [List.mem_cons, List.mem_cons] at hx
      constructor
      · intro h1
        rcases hx.1 (.inr h1) with h2 | h2
        · have := hl.1 x h1; omega
        · exact h2
      · intro h1
        rcases hx.2 (.inr h1) with h2 | h2
        · have := hk.1 x h1; omega
        · exact h2
def takenTo (l : List Int) : Nat → List Int
  | 0 => []
  | i + 1 => insU (geti l i) (takenTo l i)
theorem takenTo_up (l : List Int) (i : Nat) : (takenTo l i).Pairwise (· < ·) := by
  induction i with
  | zero => exact List.Pairwise.nil
  | succ i ih => exact insU_up _ _ ih
theorem takenTo_mem (l : List Int) (i : Nat) (hi : i ≤ l.length) (x : Int) : x ∈ takenTo l i ↔ x ∈ l.take i := by
  induction i with
  | zero => simp [takenTo]
  | succ i ih =>
    show x ∈ insU (geti l i) (takenTo l i) ↔ _
    rw [insU_mem, ih (by omega), List.take_succ_eq_append_getElem (by omega), List.mem_append, List.mem_singleton, show geti l i = l[i] from by simp [geti, List.getD_eq_getElem?_getD, List.getElem?_eq_getElem (show i < l.length by omega)]]
    exact Or.comm
theorem takenTo_all (l : List Int) : takenTo l l.length = uniqI l :=
  up_ext _ _ (takenTo_up l _) (compact_up (sortI_asc l)) fun x => by
    unfold uniqI
    rw [takenTo_mem l _ (Nat.le_refl _), List.take_length, compact_mem, sortI_mem]
theorem insU_len (x : Int) (l : List Int) : (insU x l).length ≤ l.length + 1 := by
  induction l with
  | nil => simp [insU]
  | cons y ys ih =>
    unfold insU
    split
    · simp; omega
    · split
      · simp
      · simp
theorem takenTo_len (l : List Int) (i : Nat) : (takenTo l i).length ≤ i := by
  induction i with
  | zero => exact Nat.le_refl _
  | succ i ih => exact Nat.le_trans (insU_len _ _) (by omega)
theorem insU_new (x : Int) : ∀ (l : List Int) (a : Nat), a ≤ l.length → (∀ j, j < a → geti l j < x) → (a = l.length ∨ (a < l.length ∧ ¬ geti l a < x ∧ geti l a ≠ x)) → insU x l = l.take a ++ [x] ++ l.drop a := by
  intro l
  induction l with
  | nil => intro a ha _ _; have : a = 0 := by simpa using ha
           subst this; rfl
  | cons y ys ih =>
    intro a ha hlow hat
    cases a with
    | zero =>
      rcases hat with h | ⟨_, h1, h2⟩
      · simp at h
      · have e : geti (y :: ys) 0 = y := rfl
        rw [e] at h1 h2
        unfold insU
        rw [if_neg h1, if_neg h2]
        rfl
    | succ a =>
      have h0 : y < x := hlow 0 (by omega)
      unfold insU
      rw [if_pos h0, ih a (by simpa using ha) (fun j hj => hlow (j + 1) (by omega)) (by
        rcases hat with h | ⟨h, h1, h2⟩
        · exact .inl (by simpa using h)
        · exact .inr ⟨by simpa using h, h1, h2⟩)]
      simp
theorem insU_old (x : Int) : ∀ (l : List Int) (a : Nat), a < l.length → (∀ j, j < a → geti l j < x) → geti l a = x → insU x l = l := by
  intro l
  induction l with
  | nil => intro a ha; simp at ha
  | cons y ys ih =>
    intro a ha hlow hat
    cases a with
    | zero =>
      have e : y = x := hat
      unfold insU
      rw [if_neg (by omega), if_pos e]
    | succ a =>
      have h0 : y < x := hlow 0 (by omega)
      unfold insU
      rw [if_pos h0, ih a (by simpa using ha) (fun j hj => hlow (j + 1) (by omega)) hat]
end Go.Proofs.Ytjendjbbhohjcaa

namespace Go.Proofs.Ytjendjbbhohjcaa
open Go.RowKit

def cntB (f : Nat → Bool) (rs : List Int) (k : Nat) : Bool := f (k % 6) && (geti rs k != 0)
def gotF (f : Nat → Bool) (rs : List Int) : Nat → List Int
  | 0 => []
  | k + 1 => if cntB f rs k then gotF f rs k ++ [geti rs k] else gotF f rs k
theorem gotF_len (f : Nat → Bool) (rs : List Int) (k : Nat) : (gotF f rs k).length ≤ k := by
  induction k with
  | zero => exact Nat.le_refl _
  | succ k ih =>
    show (if cntB f rs k then gotF f rs k ++ [geti rs k] else gotF f rs k).length ≤ k + 1
    split
    · rw [List.length_append, List.length_singleton]; omega
    · omega
theorem gotF_item (rs : List Int) (k : Nat) : gotF (fun m => decide (m < 2)) rs k = gotTo rs k := by
  induction k with
  | zero => rfl
  | succ k ih =>
    show (if cntB _ rs k then gotF _ rs k ++ [geti rs k] else gotF _ rs k) = (if getsB rs k then gotTo rs k ++ [geti rs k] else gotTo rs k)
    rw [ih]
    rfl
theorem gotF_mem (f : Nat → Bool) (rs : List Int) (n : Nat) (x : Int) : x ∈ gotF f rs n ↔ ∃ k, k < n ∧ cntB f rs k = true ∧ geti rs k = x := by
  induction n with
  | zero => simp [gotF]
  | succ n ih =>
    show x ∈ (if cntB f rs n then gotF f rs n ++ [geti rs n] else gotF f rs n) ↔ _
    by_cases h : cntB f rs n = true
    · rw [if_pos h, List.mem_append, ih, List.mem_singleton]
      constructor
      · rintro (⟨k, h1, h2, h3⟩ | h1)
        · exact ⟨k, by omega, h2, h3⟩
        · exact ⟨n, by omega, h, h1.symm⟩
      · rintro ⟨k, h1, h2, h3⟩
        rcases Nat.lt_or_ge k n with h4 | h4
        · exact .inl ⟨k, h4, h2, h3⟩
        · have : k = n := by omega
          subst this; exact .inr h3.symm
    · rw [if_neg h, ih]
      constructor
      · rintro ⟨k, h1, h2, h3⟩
        exact ⟨k, by omega, h2, h3⟩
      · rintro ⟨k, h1, h2, h3⟩
        rcases Nat.lt_or_ge k n with h4 | h4
        · exact ⟨k, h4, h2, h3⟩
        · have : k = n := by omega
          subst this; exact absurd h2 h
def oftenB (rs : List Int) (n : Nat) : Bool := decide ((uniqI (gotTo rs n)).length < (gotTo rs n).length)
def twiceB (l : List Int) : Bool := decide ((uniqI l).length < l.length)
theorem insU_length (x : Int) (l : List Int) (h : l.Pairwise (· < ·)) : (insU x l).length = if x ∈ l then l.length else l.length + 1 := by
  induction l with
  | nil => simp [insU]
  | cons y ys ih =>
    rw [List.pairwise_cons] at h
    unfold insU
    by_cases h1 : y < x
    · rw [if_pos h1, List.length_cons, ih h.2]
      have e : x ∈ y :: ys ↔ x ∈ ys := by
        rw [List.mem_cons]
        exact ⟨fun k => k.elim (fun k => by omega) id, .inr⟩
      by_cases h2 : x ∈ ys
      · rw [if_pos h2, if_pos (e.2 h2), List.length_cons]
      · rw [if_neg h2, if_neg (fun k => h2 (e.1 k)), List.length_cons]
    · rw [if_neg h1]
      by_cases h2 : y = x
      · rw [if_pos h2, if_pos (by subst h2; simp)]
      · rw [if_neg h2, if_neg (fun k => by
          rw [List.mem_cons] at k
          rcases k with k | k
          · exact h2 k.symm
          · have := h.1 x k; omega)]
        rfl
theorem takenTo_append (l : List Int) (x : Int) (i : Nat) (hi : i ≤ l.length) : takenTo (l ++ [x]) i = takenTo l i := by
  induction i with
  | zero => rfl
  | succ i ih =>
    show insU (geti (l ++ [x]) i) (takenTo (l ++ [x]) i) = insU (geti l i) (takenTo l i)
    rw [ih (by omega)]
    congr 1
    simp [geti, List.getD_eq_getElem?_getD, List.getElem?_append, show i < l.length by omega]
theorem uniq_snoc (l : List Int) (x : Int) : uniqI (l ++ [x]) = insU x (uniqI l) := by
  rw [← takenTo_all, ← takenTo_all, List.length_append, List.length_singleton]
  show insU (geti (l ++ [x]) l.length) (takenTo (l ++ [x]) l.length) = _
  rw [takenTo_append l x _ (Nat.le_refl _)]
  congr 1
  simp [geti, List.getD_eq_getElem?_getD]
theorem uniq_up (l : List Int) : (uniqI l).Pairwise (· < ·) := by
  rw [← takenTo_all]
  exact takenTo_up _ _
theorem uniq_mem (l : List Int) (x : Int) : x ∈ uniqI l ↔ x ∈ l := by
  rw [← takenTo_all, takenTo_mem _ _ (Nat.le_refl _), List.take_length]
theorem uniq_len (l : List Int) : (uniqI l).length ≤ l.length := by
  rw [← takenTo_all]
  exact takenTo_len _ _
theorem twice_snoc (l : List Int) (x : Int) : twiceB (l ++ [x]) = (twiceB l || decide (x ∈ l)) := by
  have h1 := uniq_len l
  unfold twiceB
  rw [uniq_snoc, insU_length x _ (uniq_up l), List.length_append, List.length_singleton, ← Bool.decide_or]
  apply decide_eq_decide.2
  by_cases h : x ∈ l
  · rw [if_pos ((uniq_mem l x).2 h)]
    exact ⟨fun _ => .inr h, fun _ => by omega⟩
  · rw [if_neg (fun k => h ((uniq_mem l x).1 k))]
    exact ⟨fun k => .inl (by omega), fun k => k.elim (fun k => by omega) (fun k => absurd k h)⟩
theorem twice_nil : twiceB [] = false := by
  unfold twiceB
  exact decide_eq_false (by simp)
theorem twice_got (f : Nat → Bool) (rs : List Int) (n : Nat) : twiceB (gotF f rs n) = true ↔ ∃ i k, k < i ∧ i < n ∧ cntB f rs i = true ∧ cntB f rs k = true ∧ geti rs i = geti rs k := by
  induction n with
  | zero =>
    show twiceB [] = true ↔ _
    rw [twice_nil]
    exact ⟨fun h => by simp at h, fun ⟨_, _, _, h, _⟩ => by omega⟩
  | succ n ih =>
    show twiceB (if cntB f rs n then gotF f rs n ++ [geti rs n] else gotF f rs n) = true ↔ _
    by_cases h : cntB f rs n = true
    · rw [if_pos h, twice_snoc, Bool.or_eq_true, ih, decide_eq_true_eq, gotF_mem]
      constructor
      · rintro (⟨i, k, h1, h2, h3⟩ | ⟨k, h1, h2, h3⟩)
        · exact ⟨i, k, h1, by omega, h3⟩
        · exact ⟨n, k, h1, by omega, h, h2, h3.symm⟩
      · rintro ⟨i, k, h1, h2, h3, h4, h5⟩
        rcases Nat.lt_or_ge i n with h6 | h6
        · exact .inl ⟨i, k, h1, h6, h3, h4, h5⟩
        · have : i = n := by omega
          subst this; exact .inr ⟨k, h1, h4, h5.symm⟩
    · rw [if_neg h, ih]
      constructor
      · rintro ⟨i, k, h1, h2, h3⟩
        exact ⟨i, k, h1, by omega, h3⟩
      · rintro ⟨i, k, h1, h2, h3, h4⟩
        rcases Nat.lt_or_ge i n with h6 | h6
        · exact ⟨i, k, h1, h6, h3, h4⟩
        · have : i = n := by omega
          subst this; exact absurd h3 h
theorem gotF_out (f : Nat → Bool) (rs : List Int) (j : Nat) : gotF f rs (rs.length + j) = gotF f rs rs.length := by
  induction j with
  | zero => rfl
  | succ j ih =>
    show (if cntB f rs (rs.length + j) then _ else gotF f rs (rs.length + j)) = _
    have : cntB f rs (rs.length + j) = false := by
      unfold cntB
      rw [show geti rs (rs.length + j) = 0 from by simp [geti, List.getD_eq_getElem?_getD]]
      simp
    rw [this, ih]
    rfl
theorem gotF_six (rs : List Int) (j : Nat) : (gotF (fun m => m == 0) rs (6 * (j + 1))).length = (gotF (fun m => m == 0) rs (6 * j)).length + (if geti rs (6 * j) != 0 then 1 else 0) := by
  have no : ∀ d, d = 1 ∨ d = 2 ∨ d = 3 ∨ d = 4 ∨ d = 5 → cntB (fun m => m == 0) rs (6 * j + d) = false := by
    intro d hd
    unfold cntB
    have : (6 * j + d) % 6 = d := by omega
    rw [this]
    rcases hd with rfl | rfl | rfl | rfl | rfl <;> rfl
  have st : ∀ k, cntB (fun m => m == 0) rs k = false → gotF (fun m => m == 0) rs (k + 1) = gotF (fun m => m == 0) rs k := by
    intro k h
    show (if cntB _ rs k then _ else gotF _ rs k) = _
    rw [h]
    rfl
  rw [show 6 * (j + 1) = 6 * j + 5 + 1 from by omega, st _ (no 5 (by omega)), show 6 * j + 5 = 6 * j + 4 + 1 from rfl, st _ (no 4 (by omega)), show 6 * j + 4 = 6 * j + 3 + 1 from rfl, st _ (no 3 (by omega)), show 6 * j + 3 = 6 * j + 2 + 1 from rfl, st _ (no 2 (by omega)), show 6 * j + 2 = 6 * j + 1 + 1 from rfl, st _ (no 1 (by omega))]
  show (if cntB _ rs (6 * j) then gotF _ rs (6 * j) ++ [geti rs (6 * j)] else gotF _ rs (6 * j)).length = _
  have e : cntB (fun m => m == 0) rs (6 * j) = (geti rs (6 * j) != 0) := by
    unfold cntB
    rw [show (6 * j) % 6 = 0 from by omega]
    rfl
  rw [e]
  cases (geti rs (6 * j) != 0)
  · rfl
  · rw [if_pos rfl, if_pos rfl, List.length_append, List.length_singleton]
end Go.Proofs.Ytjendjbbhohjcaa

namespace Go.Proofs.Ytjendjbbhohjcaa
open Go.RowKit

def inB (l : List Int) (n : Nat) : Bool := l.all fun x => decide (0 ≤ x ∧ x < n)
def orderB (l : List Int) (n : Nat) : Bool := decide (l.length = n) && (inB l n && !twiceB l)
theorem inB_iff (l : List Int) (n : Nat) : inB l n = true ↔ ∀ x ∈ l, 0 ≤ x ∧ x < n := by
  unfold inB
  rw [List.all_eq_true]
  exact ⟨fun h x hx => of_decide_eq_true (h x hx), fun h x hx => decide_eq_true (h x hx)⟩
theorem take_geti (l : List Int) (j : Nat) (h : j < l.length) : l.take (j + 1) = l.take j ++ [geti l j] := by
  rw [List.take_succ_eq_append_getElem h]
  simp [geti, List.getD_eq_getElem?_getD, List.getElem?_eq_getElem h]
theorem geti_mem (l : List Int) (j : Nat) (h : j < l.length) : geti l j ∈ l := by
  simp [geti, List.getD_eq_getElem?_getD, List.getElem?_eq_getElem h]
theorem mem_geti {l : List Int} {x : Int} (h : x ∈ l) : ∃ j, j < l.length ∧ geti l j = x := by
  obtain ⟨j, hj, rfl⟩ := List.getElem_of_mem h
  exact ⟨j, hj, by simp [geti, List.getD_eq_getElem?_getD, List.getElem?_eq_getElem hj]⟩
theorem twice_more (l k : List Int) (h : twiceB l = true) : twiceB (l ++ k) = true := by
  induction k generalizing l with
  | nil => rwa [List.append_nil]
  | cons x k ih =>
    rw [show l ++ x :: k = (l ++ [x]) ++ k from by simp]
    exact ih _ (by rw [twice_snoc, h, Bool.true_or])
theorem twice_take {l : List Int} {j : Nat} (h : twiceB (l.take j) = true) : twiceB l = true := by
  have := twice_more _ (l.drop j) h
  rwa [List.take_append_drop] at this
def upTo (n : Nat) : List Int := (List.range n).map fun (i : Nat) => (i : Int)
theorem upTo_len (n : Nat) : (upTo n).length = n := by simp [upTo]
theorem upTo_mem (n : Nat) (x : Int) : x ∈ upTo n ↔ 0 ≤ x ∧ x < n := by
  unfold upTo
  rw [List.mem_map]
  constructor
  · rintro ⟨i, hi, rfl⟩
    rw [List.mem_range] at hi
    omega
  · rintro ⟨h1, h2⟩
    exact ⟨x.toNat, by rw [List.mem_range]; omega, by omega⟩
theorem upTo_up (n : Nat) : (upTo n).Pairwise (· < ·) := by
  unfold upTo
  rw [List.pairwise_map]
  exact List.pairwise_lt_range.imp (fun h => by omega)
theorem cover_iff (l : List Int) (n : Nat) (hl : l.length = n) : (∀ i : Nat, i < n → (i : Int) ∈ l) ↔ inB l n = true ∧ twiceB l = false := by
  have hu := uniq_up l
  have hle := uniq_len l
  rw [hl] at hle
  have ht : twiceB l = false ↔ (uniqI l).length = n := by
    unfold twiceB
    rw [decide_eq_false_iff_not, hl]
    omega
  rw [ht, inB_iff]
  constructor
  · intro h
    have e : (uniqI l).filter (fun x => decide (0 ≤ x ∧ x < (n : Int))) = upTo n := by
      refine up_ext _ _ (hu.filter _) (upTo_up n) fun x => ?_
      rw [List.mem_filter, uniq_mem, upTo_mem, decide_eq_true_eq]
      exact ⟨fun k => k.2, fun k => ⟨by have := h x.toNat (by omega); rwa [show ((x.toNat : Nat) : Int) = x from by omega] at this, k⟩⟩
    have e2 := congrArg List.length e
    rw [upTo_len] at e2
    have h3 := List.length_filter_le (fun x => decide (0 ≤ x ∧ x < (n : Int))) (uniqI l)
    have h4 : (uniqI l).length = n := by omega
    refine ⟨?_, h4⟩
    have h5 : ((uniqI l).filter (fun x => decide (0 ≤ x ∧ x < (n : Int)))).length = (uniqI l).length := by omega
    rw [List.length_filter_eq_length_iff] at h5
    intro x hx
    exact of_decide_eq_true (h5 x ((uniq_mem l x).2 hx))
  · rintro ⟨h1, h2⟩ i hi
    have e : (upTo n).filter (fun x => decide (x ∈ uniqI l)) = uniqI l := by
      refine up_ext _ _ ((upTo_up n).filter _) hu fun x => ?_
      rw [List.mem_filter, upTo_mem, decide_eq_true_eq]
      exact ⟨fun k => k.2, fun k => ⟨h1 x ((uniq_mem l x).1 k), k⟩⟩
    have h5 : ((upTo n).filter (fun x => decide (x ∈ uniqI l))).length = (upTo n).length := by rw [e, upTo_len, h2]
    rw [List.length_filter_eq_length_iff] at h5
    have h6 := h5 (i : Int) ((upTo_mem n _).2 ⟨by omega, by omega⟩)
    exact (uniq_mem l _).1 (of_decide_eq_true h6)
theorem order_cover (l : List Int) (n : Nat) (hl : l.length = n) (h : ∀ i : Nat, i < n → (i : Int) ∈ l) : orderB l n = true := by
  obtain ⟨h1, h2⟩ := (cover_iff l n hl).1 h
  unfold orderB
  rw [decide_eq_true hl, h1, h2]
  rfl
theorem order_hole (l : List Int) (n i : Nat) (hi : i < n) (h : (i : Int) ∉ l) : orderB l n = false := by
  cases hb : orderB l n
  · rfl
  · unfold orderB at hb
    rw [Bool.and_eq_true, decide_eq_true_eq, Bool.and_eq_true, Bool.not_eq_true'] at hb
    exact absurd ((cover_iff l n hb.1).2 hb.2 i hi) h
theorem order_len {l : List Int} {n : Nat} (h : l.length ≠ n) : orderB l n = false := by
  unfold orderB
  rw [decide_eq_false h]
  rfl
theorem order_get {l : List Int} {n : Nat} (h : orderB l n = true) : l.length = n ∧ ∀ k, k < n → 0 ≤ geti l k ∧ geti l k < n := by
  unfold orderB at h
  rw [Bool.and_eq_true, decide_eq_true_eq, Bool.and_eq_true] at h
  exact ⟨h.1, fun k hk => (inB_iff l n).1 h.2.1 _ (geti_mem l k (by omega))⟩
def seenOk (l : List Int) (n k : Nat) : Prop := (∀ j, j < k → 0 ≤ geti l j ∧ geti l j < n) ∧ twiceB (l.take k) = false
theorem seenOk_zero (l : List Int) (n : Nat) : seenOk l n 0 := ⟨fun j hj => by omega, twice_nil⟩
theorem seenOk_succ {l : List Int} {n k : Nat} (h : seenOk l n k) (hk : k < l.length) (h0 : 0 ≤ geti l k ∧ geti l k < n) (h1 : geti l k ∉ l.take k) : seenOk l n (k + 1) := by
  refine ⟨fun j hj => ?_, ?_⟩
  · rcases Nat.lt_or_ge j k with h2 | h2
    · exact h.1 j h2
    · have : j = k := by omega
      subst this; exact h0
  · rw [take_geti l k hk, twice_snoc, h.2, decide_eq_false h1]
    rfl
theorem seenOk_all {l : List Int} {n : Nat} (hl : l.length = n) (h : seenOk l n n) : orderB l n = true := by
  unfold orderB
  have h2 := h.2
  rw [← hl, List.take_length] at h2
  rw [decide_eq_true hl, h2, (inB_iff l n).2 (fun x hx => by
    obtain ⟨j, hj, rfl⟩ := mem_geti hx
    exact h.1 j (by omega))]
  rfl
theorem order_out {l : List Int} {n k : Nat} (hk : k < l.length) (h : ¬ (0 ≤ geti l k ∧ geti l k < n)) : orderB l n = false := by
  cases hb : orderB l n
  · rfl
  · exact absurd ((order_get hb).2 k (by have := (order_get hb).1; omega)) h
theorem order_again {l : List Int} {n k : Nat} (hk : k < l.length) (h : geti l k ∈ l.take k) : orderB l n = false := by
  have : twiceB l = true := twice_take (j := k + 1) (by rw [take_geti l k hk, twice_snoc, decide_eq_true h, Bool.or_true])
  unfold orderB
  rw [this]
  simp
def seenF (l : List Int) (n k : Nat) : List Bool := (List.range n).map fun (x : Nat) => decide ((x : Int) ∈ l.take k)
theorem seenF_len (l : List Int) (n k : Nat) : (seenF l n k).length = n := by simp [seenF]
theorem seenF_zero (l : List Int) (n : Nat) : seenF l n 0 = List.replicate n false := by
  unfold seenF
  simp [List.eq_replicate_iff]
theorem seenF_get (l : List Int) (n k x : Nat) (hx : x < n) : (seenF l n k)[x]? = some (decide ((x : Int) ∈ l.take k)) := by
  unfold seenF
  rw [List.getElem?_map, List.getElem?_range hx]
  rfl
theorem seenF_succ (l : List Int) (n k x : Nat) (hk : k < l.length) (hx : geti l k = x) : seenF l n (k + 1) = (seenF l n k).set x true := by
  apply List.ext_getElem?
  intro j
  rw [List.getElem?_set]
  rcases Nat.lt_or_ge j n with h | h
  · rw [seenF_get l n (k + 1) j h, seenF_get l n k j h, take_geti l k hk, seenF_len]
    by_cases hj : x = j
    · subst hj
      rw [if_pos rfl, if_pos h, decide_eq_true (by rw [hx]; simp)]
    · rw [if_neg hj]
      congr 1
      apply decide_eq_decide.2
      rw [List.mem_append, List.mem_singleton, hx]
      exact ⟨fun h => h.elim id (fun h => absurd (by omega) hj), .inl⟩
  · rw [List.getElem?_eq_none (by rw [seenF_len]; omega)]
    by_cases hj : x = j
    · rw [if_pos hj, seenF_len, if_neg (by omega)]
    · rw [if_neg hj, List.getElem?_eq_none (by rw [seenF_len]; omega)]
end Go.Proofs.Ytjendjbbhohjcaa

namespace Go.Proofs.Ytjendjbbhohjcaa
open Go.RowKit

def insZ (d : InsD) : List Int := [d.o, d.r, d.a, d.b, d.x, d.n]
def flatZ (l : List InsD) : List Int := l.flatMap insZ
theorem flatZ_map (l : List InsD) : (flatZ l).map (Value.int .i64) = flat l := by
  induction l with
  | nil => rfl
  | cons d l ih =>
    have e1 : flatZ (d :: l) = insZ d ++ flatZ l := by simp [flatZ]
    have e2 : flat (d :: l) = insVals d ++ flat l := by simp [flat]
    rw [e1, e2, List.map_append, ih]
    rfl
theorem flatZ_len (l : List InsD) : (flatZ l).length = l.length * 6 := by
  have := congrArg List.length (flatZ_map l)
  rw [List.length_map, flat_len] at this
  exact this
theorem InssAt.ints {w : World} {S : Nat → Prop} {A : Option Addr} {l : List InsD} (h : InssAt w S A l) (hl : l.length ≤ 1000) : IntsAt w S A (flatZ l) := by
  refine ⟨by rw [flatZ_len]; omega, fun hn => ?_⟩
  rw [flatZ_len] at hn
  obtain ⟨b, off, e, hb, hc⟩ := h.2 (by omega)
  refine ⟨b, off, e, hb, fun k hk => ?_⟩
  rw [flatZ_len] at hk
  obtain ⟨i, j, hj, rfl⟩ : ∃ i j, j < 6 ∧ k = i * 6 + j := ⟨k / 6, k % 6, by omega, by omega⟩
  have hi : i < l.length := by omega
  have h1 := flat_get l i j hi hj
  rw [← flatZ_map, List.getElem?_map] at h1
  have h2 : (insVals (getd l i))[j]? = some (Value.int .i64 (geti (flatZ l) (i * 6 + j))) := by
    rw [← h1, geti, List.getD_eq_getElem?_getD, List.getElem?_eq_getElem (show i * 6 + j < (flatZ l).length by rw [flatZ_len]; omega)]
    rfl
  obtain ⟨d0, d1, d2, d3, d4, d5⟩ := hc i hi
  rw [← Nat.add_assoc]
  have hj' : j = 0 ∨ j = 1 ∨ j = 2 ∨ j = 3 ∨ j = 4 ∨ j = 5 := by omega
  rcases hj' with rfl | rfl | rfl | rfl | rfl | rfl
  · exact d0.trans h2
  · exact d1.trans h2
  · exact d2.trans h2
  · exact d3.trans h2
  · exact d4.trans h2
  · exact d5.trans h2
end Go.Proofs.Ytjendjbbhohjcaa

namespace Go.Proofs.Ytjendjbbhohjcaa
open Go.RowKit

def InsR (w w' : World) (e : Ending) (l : List InsD) : Prop := ∃ A c, e = .returned (.slice A l.length c) ∧ w'.ownsRow w.heap.size 89 6 (.slice A l.length c) l.length (flat l) ∧ Below w.heap.size w w'
theorem InsR.nil (w : World) : InsR w w (.returned (.slice none 0 0)) [] := ⟨none, 0, rfl, ⟨rfl, .inl ⟨rfl, rfl⟩⟩, Below.refl _ _⟩

structure GrowI (W : World) (A : Option Addr) (c n : Nat) (l : List InsD) (w : World) : Prop where
  own : w.ownsRow W.heap.size 89 6 (.slice A n c) n (flat l)
  low : Below W.heap.size W w
theorem flat_append (l k : List InsD) : flat (l ++ k) = flat l ++ flat k := by simp [flat]
section
variable {W w w' w0 : World} {A A' : Option Addr} {c c' n m : Nat} {l k : List InsD}
theorem GrowI.nil (W : World) : GrowI W none 0 0 [] W := ⟨⟨rfl, .inl ⟨rfl, rfl⟩⟩, Below.refl _ _⟩
theorem GrowI.len (h : GrowI W A c n l w) : l.length = n := by
  have := h.own.1
  rw [flat_len] at this
  omega
theorem GrowI.next (h : GrowI W A c n l w) (hb : Below w.heap.size w w') : GrowI W A c n l w' :=
  ⟨own_keep h.own (fun b _ hlt => hb.block b hlt), h.low.trans (hb.mono h.low.size)⟩
theorem GrowI.drew (h : GrowI W A c n l w) : GrowI W A c n l w.drew := ⟨h.own, ⟨h.low.os, h.low.tape, h.low.output, h.low.size, h.low.block⟩⟩
theorem GrowI.alloc (h : GrowI W A c n l w) (o : Obj) : (w.alloc o).ownsRow W.heap.size 89 6 (.slice A n c) n (flat l) := (h.next (below1 w o)).own
theorem GrowI.lit (W : World) {cs : Array Value} (hn : n ≤ 1000) (hs : cs.size = n * 6) (hl : cs.toList = flat l) : GrowI W (some ⟨W.heap.size, 0, none⟩) n n l (W.alloc (.cells cs 89)) :=
  ⟨by rw [← hl]; exact own_lit W W.heap.size 89 6 n cs (Nat.le_refl _) hn hs, below1 _ _⟩
theorem GrowI.more {xs : List Value} {o : Obj} (h : GrowI W A c n l w) (hxs : xs = flat k) (hown : w'.ownsRow W.heap.size 89 6 (.slice A' (n + m) c') (n + m) (flat l ++ xs)) (hg : (w.alloc o).grownBy w' (Value.slice A n c).ownBlock) : GrowI W A' c' (n + m) (l ++ k) w' := by
  subst hxs
  refine ⟨by rw [flat_append]; exact hown, ?_⟩
  have h1 := h.low.alloc h.low.size o
  have hz := h.low.size
  exact ⟨hg.os.trans h1.os, hg.tape.trans h1.tape, hg.output.trans h1.output, Nat.le_trans h1.size hg.size, fun j hj => (hg.block j (by simp; omega) (fun e => by have := (own_lt h.own e.symm).1; omega)).trans (h1.block j hj)⟩
theorem GrowI.more0 {xs : List Value} (h : GrowI W A c n l w) (hxs : xs = flat k) (hown : w'.ownsRow W.heap.size 89 6 (.slice A' (n + m) c') (n + m) (flat l ++ xs)) (hg : w.grownBy w' (Value.slice A n c).ownBlock) : GrowI W A' c' (n + m) (l ++ k) w' := by
  subst hxs
  refine ⟨by rw [flat_append]; exact hown, ?_⟩
  have hz := h.low.size
  exact ⟨hg.os.trans h.low.os, hg.tape.trans h.low.tape, hg.output.trans h.low.output, Nat.le_trans h.low.size hg.size, fun j hj => (hg.block j (by omega) (fun e => by have := (own_lt h.own e.symm).1; omega)).trans (h.low.block j hj)⟩
theorem GrowI.ret (h : GrowI W A c n l w) (hb : Below w0.heap.size w0 W) : InsR w0 w (.returned (.slice A n c)) l := by
  have := h.len
  subst this
  exact ⟨A, c, rfl, own_base h.own hb.size, below_then hb h.low⟩
theorem InsR.mk0 {e : Ending} (h : InsR W w' e l) (hb : Below w.heap.size w W) : InsR w w' e l := by
  obtain ⟨A, c, he, ho, hl⟩ := h
  exact ⟨A, c, he, own_base ho hb.size, below_then hb hl⟩
theorem InsR.at_ {e : Ending} (h : InsR w w' e l) : ∃ A c, e = .returned (.slice A l.length c) ∧ l.length ≤ c ∧ w'.ownsRow w.heap.size 89 6 (.slice A l.length c) l.length (flat l) ∧ InssAt w' (New w.heap.size w'.heap.size) A l ∧ Below w.heap.size w w' := by
  obtain ⟨A, c, rfl, ho, hb⟩ := h
  obtain ⟨A', c', he, hc, hi⟩ := own_inss ho
  cases he
  exact ⟨A, c, rfl, hc, ho, hi.more (fun b hb => ⟨hb.2.1, hb.2.2⟩), hb⟩
end

def fenL (b : Bool) : List InsD := if b then [⟨12, 0, 0, 0, 0, 0⟩] else []
def claimL : List InsD := [⟨7, 2, 0, 0, 1, 0⟩, ⟨1, 3, 0, 0, 0, 1⟩, ⟨4, 2, 2, 3, 0, 0⟩, ⟨8, 0, 2, 0, 1, 0⟩]
def takeT (r k : Int) : List InsD := [⟨7, 4, 0, 0, 0, 0⟩, ⟨5, 5, 4, 2, 0, 0⟩, ⟨13, 0, 5, 0, 0, 5 + k⟩, ⟨9, r, 2, 0, 2, 4⟩, ⟨14, 0, 0, 0, 0, 16 + k⟩, ⟨6, 5, 4, 2, 0, 0⟩, ⟨13, 0, 5, 0, 0, 14 + k⟩, ⟨9, r, 2, 0, 2, 4⟩, ⟨1, 3, 0, 0, 0, 1⟩, ⟨3, 3, 4, 3, 0, 0⟩, ⟨11, 5, 4, 3, 0, 0⟩, ⟨8, 0, 3, 0, 1, 0⟩, ⟨13, 0, 5, 0, 0, 15 + k⟩, ⟨14, 0, 0, 0, 0, 16 + k⟩, ⟨8, 0, 4, 0, 1, 0⟩, ⟨1, r, 0, 0, 0, 0⟩]
def takeI (r : Int) (b : Bool) : List InsD := claimL ++ (fenL b ++ takeT r (if b then 5 else 4))
def lookL : List InsD := [⟨7, 2, 0, 0, 0, 0⟩]
def stealT (r k : Int) : List InsD := [⟨7, 3, 0, 0, 1, 0⟩, ⟨5, 5, 2, 3, 0, 0⟩, ⟨13, 0, 5, 0, 0, 9 + k⟩, ⟨9, r, 2, 0, 2, 4⟩, ⟨1, 4, 0, 0, 0, 1⟩, ⟨3, 4, 2, 4, 0, 0⟩, ⟨11, 5, 2, 4, 0, 0⟩, ⟨13, 0, 5, 0, 0, 9 + k⟩, ⟨14, 0, 0, 0, 0, 10 + k⟩, ⟨1, r, 0, 0, 0, 0⟩]
def stealI (r : Int) (b : Bool) : List InsD := lookL ++ (fenL b ++ stealT r (if b then 2 else 1))
def movI (k : Int) (d : InsD) : InsD := if leapB d.o then { d with n := d.n + k } else d
def movL (k : Int) (l : List InsD) : List InsD := l.map (movI k)
def joinTo (ps : List (List InsD)) : Nat → List InsD
  | 0 => []
  | k + 1 => joinTo ps k ++ movL ((joinTo ps k).length : Int) (gett ps k)
theorem join_take (r : Int) (b : Bool) : joinTo [claimL, fenL b, takeT r 0] 3 = takeI r b := by cases b <;> rfl
theorem join_steal (r : Int) (b : Bool) : joinTo [lookL, fenL b, stealT r 0] 3 = stealI r b := by cases b <;> rfl
theorem takeI_len (r : Int) (b : Bool) : (takeI r b).length = if b then 21 else 20 := by cases b <;> rfl
theorem stealI_len (r : Int) (b : Bool) : (stealI r b).length = if b then 12 else 11 := by cases b <;> rfl
def thiefI (z : Int) (b : Bool) : List InsD := if z = 2 then stealI 0 b ++ movL ((stealI 0 b).length : Int) (stealI 1 b) else stealI 0 b
def tkB (f : Int) : Bool := f == 1 || f == 3
def stB (f : Int) : Bool := f == 2 || f == 3
def rfB (r f : Int) : Bool := decide (0 ≤ r ∧ r ≤ 1 ∧ 0 ≤ f ∧ f ≤ 3)
theorem rf_yes {r f : Int} (h : rfB r f = true) : (r = 0 ∨ r = 1) ∧ (f = 0 ∨ f = 1 ∨ f = 2 ∨ f = 3) := by
  unfold rfB at h
  rw [decide_eq_true_eq] at h
  omega
theorem tkB_bits {f : Int} (h : f = 0 ∨ f = 1 ∨ f = 2 ∨ f = 3) : (bits BinOp.and IntKind.i64 f 1 != 0) = tkB f := by
  rcases h with rfl | rfl | rfl | rfl <;> decide
theorem stB_bits {f : Int} (h : f = 0 ∨ f = 1 ∨ f = 2 ∨ f = 3) : (bits BinOp.and IntKind.i64 f 2 != 0) = stB f := by
  rcases h with rfl | rfl | rfl | rfl <;> decide
end Go.Proofs.Ytjendjbbhohjcaa
