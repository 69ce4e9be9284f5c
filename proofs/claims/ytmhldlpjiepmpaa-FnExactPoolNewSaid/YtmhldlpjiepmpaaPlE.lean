/- Pools: what a pick does. Of no function of the program. -/
import Derived.Test.YtmhldlpjiepmpaaPlD
namespace Go.Proofs.Ytmhldlpjiepmpaa
open Go.RowKit

theorem once_len : ∀ (n : Nat) (r : List Int), (∀ x ∈ r, 0 ≤ x ∧ x < n) → (∀ x, r.count x ≤ 1) → r.length ≤ n
  | 0, r, h, _ => by
    rcases r with _ | ⟨a, r⟩
    · simp
    · have := h a (by simp); omega
  | n + 1, r, h, h1 => by
    have ih := once_len n (r.filter (fun x => x != (n : Int))) (fun x hx => by
      rw [List.mem_filter] at hx
      have h2 := h x hx.1
      have h3 : x ≠ n := by simpa using hx.2
      omega) (fun x => Nat.le_trans (List.Sublist.count_le x List.filter_sublist) (h1 x))
    have h4 : r.length = r.count (n : Int) + (r.filter (fun x => x != (n : Int))).length := by
      clear ih h h1
      induction r with
      | nil => rfl
      | cons a r ih =>
        by_cases e : a = n
        · subst e; simp; omega
        · have e' : (a != (n : Int)) = true := by simpa using e
          rw [List.length_cons, List.filter_cons, if_pos e', List.length_cons, List.count_cons, if_neg (by simpa using e)]
          omega
    have := h1 n
    omega
section
variable {p : PoolD} {w v j : Nat}
theorem PInv.row_len (h : PInv p (-1)) (hw : w < p.dq.length) : (getq p.dq w).length ≤ p.js.length := by
  refine once_len _ _ (h.inn w hw) (fun x => ?_)
  by_cases hx : x ∈ getq p.dq w
  · have h1 := h.inn w hw x hx
    have h2 := h.row x.toNat (by omega)
    rw [show ((x.toNat : Nat) : Int) = x by omega] at h2
    have := cntQ_ge hw x
    split at h2 <;> omega
  · rw [List.count_eq_zero.2 hx]; omega
theorem getq_last {r : List Int} (h : r ≠ []) : r = r.dropLast ++ [r.getLast h] := (List.dropLast_concat_getLast h).symm
/-- The job at the end of row w. -/
def lastJ (p : PoolD) (w : Nat) : Nat := (geti (getq p.dq w) ((getq p.dq w).length - 1)).toNat
/-- Worker w runs what was put last. -/
def takeP (p : PoolD) (w : Nat) : PoolD :=
  if (getj p.js (lastJ p w)).ks.length = 0 then finP (lastJ p w + 1) (ranP p w (lastJ p w) ((getq p.dq w).dropLast ++ (getj p.js (lastJ p w)).ks)) (lastJ p w)
  else ranP p w (lastJ p w) ((getq p.dq w).dropLast ++ (getj p.js (lastJ p w)).ks)
/-- Worker w takes what was put first in row v. -/
def stealP (p : PoolD) (w v : Nat) : PoolD := { p with dq := (p.dq.set v (getq p.dq v).tail).set w (getq p.dq w ++ [geti (getq p.dq v) 0]) }
theorem PInv.last (h : PInv p (-1)) (hw : w < p.dq.length) (hn : 0 < (getq p.dq w).length) : getq p.dq w = (getq p.dq w).dropLast ++ [(lastJ p w : Int)] ∧ lastJ p w < p.js.length ∧ geti (getq p.dq w) ((getq p.dq w).length - 1) = lastJ p w := by
  have h0 : getq p.dq w ≠ [] := fun e => by rw [e] at hn; simp at hn
  have h1 := getq_last h0
  have h2 : (getq p.dq w).getLast h0 = geti (getq p.dq w) ((getq p.dq w).length - 1) := by
    rw [List.getLast_eq_getElem, geti_eq (by omega)]
  have h3 := h.inn w hw _ (List.getLast_mem h0)
  rw [h2] at h1 h3
  have h4 : (lastJ p w : Int) = geti (getq p.dq w) ((getq p.dq w).length - 1) := by unfold lastJ; omega
  exact ⟨by rw [h4]; exact h1, by omega, h4.symm⟩
theorem PInv.take (h : PInv p (-1)) (hw : w < p.dq.length) (hn : 0 < (getq p.dq w).length) (hsz : ∀ k, (getj p.js k).ks.length ≤ 1048576) : PInv (takeP p w) (-1) ∧ (takeP p w).js = p.js ∧ (takeP p w).dq.length = p.dq.length := by
  obtain ⟨h1, h2, -⟩ := h.last hw hn
  have h3 := h.took hw h1
  unfold takeP
  by_cases e : (getj p.js (lastJ p w)).ks.length = 0
  · rw [if_pos e] at h3 ⊢
    obtain ⟨k1, k2, k3, -⟩ := finP_inv (lastJ p w + 1) _ (lastJ p w) (by omega) h3 hsz
    exact ⟨k1, k2, by rw [k3]; simp [ranP]⟩
  · rw [if_neg e] at h3 ⊢
    exact ⟨h3, rfl, by simp [ranP]⟩
theorem PInv.steal (h : PInv p (-1)) (hw : w < p.dq.length) (hv : v < p.dq.length) (hne : w ≠ v) (hn : 0 < (getq p.dq v).length) : PInv (stealP p w v) (-1) ∧ (stealP p w v).js = p.js ∧ (stealP p w v).dq.length = p.dq.length := by
  unfold stealP
  obtain ⟨x, rest, e⟩ : ∃ x rest, getq p.dq v = x :: rest := by
    cases hr : getq p.dq v with
    | nil => rw [hr] at hn; simp at hn
    | cons x rest => exact ⟨x, rest, rfl⟩
  have := h.stole hw hv hne e
  rw [e]
  exact ⟨this, rfl, by simp⟩
end
/-- May a pick be done? -/
def mayP (p : PoolD) (w v : Int) : Bool :=
  decide (0 ≤ w) && decide (w < (p.dq.length : Int)) && decide (0 ≤ v) && decide (v < (p.dq.length : Int)) && decide (0 < (getq p.dq v.toNat).length)
def pickP (p : PoolD) (w v : Int) : PoolD := if mayP p w v then (if w = v then takeP p w.toNat else stealP p w.toNat v.toNat) else p
theorem PInv.pick {p : PoolD} (h : PInv p (-1)) (w v : Int) (hsz : ∀ k, (getj p.js k).ks.length ≤ 1048576) : PInv (pickP p w v) (-1) ∧ (pickP p w v).js = p.js ∧ (pickP p w v).dq.length = p.dq.length := by
  unfold pickP
  by_cases hm : mayP p w v = true
  · rw [if_pos hm]
    unfold mayP at hm
    simp only [Bool.and_eq_true, decide_eq_true_eq] at hm
    obtain ⟨⟨⟨⟨h1, h2⟩, h3⟩, h4⟩, h5⟩ := hm
    by_cases e : w = v
    · subst e
      rw [if_pos rfl]
      exact h.take (by omega) h5 hsz
    · rw [if_neg e]
      exact h.steal (by omega) (by omega) (by omega) h5
  · rw [if_neg hm]
    exact ⟨h, rfl, rfl⟩
/-- Picks, one after another: what is left, how many were done. -/
def playP : PoolD → List (Int × Int) → PoolD × Nat
  | p, [] => (p, 0)
  | p, (w, v) :: l => ((playP (pickP p w v) l).1, (mayP p w v).toNat + (playP (pickP p w v) l).2)
theorem PInv.play : ∀ (l : List (Int × Int)) {p : PoolD}, PInv p (-1) → (∀ k, (getj p.js k).ks.length ≤ 1048576) → PInv (playP p l).1 (-1) ∧ (playP p l).1.js = p.js
  | [], p, h, _ => ⟨h, rfl⟩
  | (w, v) :: l, p, h, hsz => by
    obtain ⟨h1, h2, -⟩ := h.pick w v hsz
    obtain ⟨k1, k2⟩ := PInv.play l h1 (by rw [h2]; exact hsz)
    exact ⟨k1, k2.trans h2⟩
theorem playP_snoc : ∀ (l : List (Int × Int)) (p : PoolD) (w v : Int), playP p (l ++ [(w, v)]) = (pickP (playP p l).1 w v, (playP p l).2 + (mayP (playP p l).1 w v).toNat)
  | [], p, w, v => by simp [playP]
  | (a, b) :: l, p, w, v => by
    rw [List.cons_append]
    simp only [playP]
    rw [playP_snoc l]
    simp only [Nat.add_assoc]
end Go.Proofs.Ytmhldlpjiepmpaa
