/- Plain functions on numbers: what chapter 1's small functions compute. No program. -/
namespace Go.Proofs.Ytbchiiggfhdnkaa
def uR (o : Int) : Bool := o == 1 || o == 2 || o == 3 || o == 4 || o == 5 || o == 6 || o == 7 || o == 9 || o == 11
def uA (o : Int) : Bool := o == 2 || o == 3 || o == 4 || o == 5 || o == 6 || o == 8 || o == 9 || o == 10 || o == 11 || o == 13
def uB (o : Int) : Bool := o == 3 || o == 4 || o == 5 || o == 6 || o == 10 || o == 11
def uX (o : Int) : Bool := o == 7 || o == 8 || o == 9 || o == 10 || o == 11
def uN (o : Int) : Bool := o == 1 || o == 9 || o == 10 || o == 13 || o == 14
/-- What a memory instruction does: 0, 1, 2, 3. -/
def touchN (o : Int) : Int := if o = 7 ∨ o = 9 then 1 else if o = 8 ∨ o = 10 then 2 else if o = 11 then 3 else 0
/-- How many cells. -/
def countN (o n : Int) : Int := if o = 7 ∨ o = 8 ∨ o = 11 then 1 else if o = 9 ∨ o = 10 then n else 0
def knownB (o : Int) : Bool := decide (1 ≤ o ∧ o ≤ 14)
def zeroB (o r a b x n : Int) : Bool := (r == 0 || uR o) && (a == 0 || uA o) && (b == 0 || uB o) && (x == 0 || uX o) && (n == 0 || uN o)
def regB (r : Int) : Bool := decide (0 ≤ r ∧ r ≤ 5)
def regsB (r a b : Int) : Bool := regB r && regB a && regB b
def cellsB (o x n cells : Int) : Bool := decide (touchN o = 0 ∨ (1 ≤ countN o n ∧ countN o n ≤ cells ∧ 0 ≤ x ∧ x ≤ cells - countN o n))
def jumpB (o n i m : Int) : Bool := decide ((o = 13 ∨ o = 14) → (i < n ∧ n ≤ m))
/-- An instruction that may stand. -/
def insB (o r a b x n i cells m : Int) : Bool := knownB o && zeroB o r a b x n && regsB r a b && cellsB o x n cells && jumpB o n i m
theorem u_other (o : Int) (h1 : (o == 1) = false) (h2 : (o == 2) = false) (h3 : (o == 3) = false) (h4 : (o == 4) = false) (h5 : (o == 5) = false) (h6 : (o == 6) = false) (h7 : (o == 7) = false) (h8 : (o == 8) = false) (h9 : (o == 9) = false) (h10 : (o == 10) = false) (h11 : (o == 11) = false) (h13 : (o == 13) = false) (h14 : (o == 14) = false) :
    uR o = false ∧ uA o = false ∧ uB o = false ∧ uX o = false ∧ uN o = false := by
  simp [uR, uA, uB, uX, uN, h1, h2, h3, h4, h5, h6, h7, h8, h9, h10, h11, h13, h14]
theorem touch_pos (o : Int) : 0 ≤ touchN o ∧ touchN o ≤ 3 := by unfold touchN; repeat' split <;> try omega
end Go.Proofs.Ytbchiiggfhdnkaa
