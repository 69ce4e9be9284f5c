/- Two who let one in, a lock to swap, tickets: as plain lists. -/
import Derived.Test.YtjendjbbhohjcaaDqD
import Derived.Test.YtjendjbbhohjcaaFenR
namespace Go.Proofs.Ytjendjbbhohjcaa
open Go.RowKit

def dekC (t : Int) : List InsD := [⟨1, 1, 0, 0, 0, 1⟩, ⟨8, 0, 1, 0, t, 0⟩]
def dekL (t : Int) : List InsD := [⟨7, 2, 0, 0, 1 - t, 0⟩, ⟨6, 0, 2, 3, 0, 0⟩]
def dekT (f : Bool) (t : Int) : List InsD := dekC t ++ (fenL f ++ dekL t)
def dekTs (f : Bool) (k : Nat) : List (List InsD) := (List.range k).map fun (t : Nat) => dekT f (t : Int)
def dekP (f : Bool) : ProgD := ⟨[0, 0], dekTs f 2⟩
theorem dekTs_succ (f : Bool) (k : Nat) : dekTs f (k + 1) = dekTs f k ++ [dekT f (k : Int)] := by unfold dekTs; rw [List.range_succ, List.map_append]; rfl
theorem dekTs_len (f : Bool) (k : Nat) : (dekTs f k).length = k := by simp [dekTs]
theorem dekT_len (f : Bool) (t : Int) : (dekT f t).length = if f then 5 else 4 := by cases f <;> rfl
theorem join_dek (f : Bool) (t : Int) : joinTo [dekC t, fenL f, dekL t] 3 = dekT f t := by cases f <;> rfl

def swpT (t : Int) : List InsD := [⟨1, 1, 0, 0, 0, t + 1⟩, ⟨11, 0, 2, 1, 0, 0⟩]
def swpTs (k : Nat) : List (List InsD) := (List.range k).map fun (t : Nat) => swpT (t : Int)
theorem swpTs_succ (k : Nat) : swpTs (k + 1) = swpTs k ++ [swpT (k : Int)] := by unfold swpTs; rw [List.range_succ, List.map_append]; rfl
theorem swpTs_len (k : Nat) : (swpTs k).length = k := by simp [swpTs]
/-- As many threads as there may be. -/
def thrB (n : Int) : Bool := decide (1 ≤ n ∧ n ≤ 3)
def swpP (n : Int) : ProgD := if thrB n then ⟨[0], swpTs n.toNat⟩ else ⟨[], []⟩

/-- A try, its jumps moved on by k, that leads to e. -/
def tryL (k e : Int) : List InsD := [⟨7, 2, 0, 0, 0, 0⟩, ⟨1, 3, 0, 0, 0, 1⟩, ⟨3, 3, 2, 3, 0, 0⟩, ⟨11, 4, 2, 3, 0, 0⟩, ⟨13, 0, 4, 0, 0, 7 + k⟩, ⟨2, 0, 2, 0, 0, 0⟩, ⟨14, 0, 0, 0, 0, e⟩]
/-- The first k of them. -/
def ticL (m k : Nat) : List InsD := (List.range k).flatMap fun (j : Nat) => tryL ((7 * j : Nat) : Int) ((7 * m : Nat) : Int)
theorem ticL_succ (m k : Nat) : ticL m (k + 1) = ticL m k ++ tryL ((7 * k : Nat) : Int) ((7 * m : Nat) : Int) := by
  unfold ticL
  rw [List.range_succ, List.flatMap_append]
  simp
theorem ticL_len (m k : Nat) : (ticL m k).length = 7 * k := by
  induction k with
  | zero => rfl
  | succ k ih => rw [ticL_succ, List.length_append, ih]; show 7 * k + 7 = _; omega
def ticTs (m k : Nat) : List (List InsD) := List.replicate k (ticL m m)
theorem ticTs_succ (m k : Nat) : ticTs m (k + 1) = ticTs m k ++ [ticL m m] := by unfold ticTs; exact List.replicate_succ'
theorem ticTs_len (m k : Nat) : (ticTs m k).length = k := by simp [ticTs]
def ticB (n m : Int) : Bool := decide (1 ≤ n ∧ n ≤ 3 ∧ 1 ≤ m ∧ m ≤ 3)
def ticP (n m : Int) : ProgD := if ticB n m then ⟨[1], ticTs m.toNat n.toNat⟩ else ⟨[], []⟩
/-- The parts that the program puts one behind another. -/
def ticPs (m k : Nat) : List (List InsD) := (List.range k).map fun (j : Nat) => tryL 0 (((7 * m : Nat) : Int) - ((7 * j : Nat) : Int))
theorem ticPs_succ (m k : Nat) : ticPs m (k + 1) = ticPs m k ++ [tryL 0 (((7 * m : Nat) : Int) - ((7 * k : Nat) : Int))] := by unfold ticPs; rw [List.range_succ, List.map_append]; rfl
theorem ticPs_len (m k : Nat) : (ticPs m k).length = k := by simp [ticPs]
theorem ticPs_get (m k j : Nat) (hj : j < k) : gett (ticPs m k) j = tryL 0 (((7 * m : Nat) : Int) - ((7 * j : Nat) : Int)) := by
  unfold gett ticPs
  rw [List.getD_eq_getElem?_getD, List.getElem?_map, List.getElem?_range hj]
  rfl
theorem join_tic (m : Nat) (n : Nat) : ∀ k, k ≤ n → joinTo (ticPs m n) k = ticL m k := by
  intro k
  induction k with
  | zero => intro _; rfl
  | succ k ih =>
    intro hk
    show joinTo (ticPs m n) k ++ movL ((joinTo (ticPs m n) k).length : Int) (gett (ticPs m n) k) = _
    rw [ih (by omega), ticL_succ, ticL_len, ticPs_get m n k (by omega)]
    congr 1
    have e1 : (7 : Int) + 0 + ((7 * k : Nat) : Int) = 7 + ((7 * k : Nat) : Int) := by omega
    have e2 : ((7 * m : Nat) : Int) - ((7 * k : Nat) : Int) + ((7 * k : Nat) : Int) = ((7 * m : Nat) : Int) := by omega
    show [⟨7, 2, 0, 0, 0, 0⟩, ⟨1, 3, 0, 0, 0, 1⟩, ⟨3, 3, 2, 3, 0, 0⟩, ⟨11, 4, 2, 3, 0, 0⟩, ⟨13, 0, 4, 0, 0, (7 : Int) + 0 + ((7 * k : Nat) : Int)⟩, ⟨2, 0, 2, 0, 0, 0⟩, ⟨14, 0, 0, 0, 0, ((7 * m : Nat) : Int) - ((7 * k : Nat) : Int) + ((7 * k : Nat) : Int)⟩] = tryL _ _
    rw [e1, e2]
    rfl
end Go.Proofs.Ytjendjbbhohjcaa
