/- A queue to steal from, as plain lists: taking, stealing, parts put one behind another. -/
import Derived.Test.YtjendjbbhohjcaaPrD
namespace Go.Proofs.Ytjendjbbhohjcaa
open Go.RowKit

/-- Of its own: a row of instructions that is handed back. -/
def InsR (w w' : World) (e : Ending) (l : List InsD) : Prop := ∃ A c, e = .returned (.slice A l.length c) ∧ w'.ownsRow w.heap.size 89 6 (.slice A l.length c) l.length (flat l) ∧ Below w.heap.size w w'
theorem InsR.nil (w : World) : InsR w w (.returned (.slice none 0 0)) [] := ⟨none, 0, rfl, ⟨rfl, .inl ⟨rfl, rfl⟩⟩, Below.refl _ _⟩

/-- A row of instructions in the making since the world W. -/
structure GrowI (W : World) (A : Option Addr) (c n : Nat) (l : List InsD) (w : World) : Prop where
  own : w.ownsRow W.heap.size 89 6 (.slice A n c) n (flat l)
  low : Below W.heap.size W w
theorem flat_append (l k : List InsD) : flat (l ++ k) = flat l ++ flat k := by simp [flat]
section
variable {W w w' w0 : World} {A A' : Option Addr} {c c' n m : Nat} {l k : List InsD}
theorem GrowI.nil (W : World) : GrowI W none 0 0 [] W := ⟨⟨rfl, .inl ⟨rfl, rfl⟩⟩, Below.refl _ _⟩
theorem GrowI.len (h : GrowI W A c n l w) : l.length = n := by
  have := h.own.1
  rw [flat_len] at this
  omega
theorem GrowI.next (h : GrowI W A c n l w) (hb : Below w.heap.size w w') : GrowI W A c n l w' :=
  ⟨own_keep h.own (fun b _ hlt => hb.block b hlt), h.low.trans (hb.mono h.low.size)⟩
theorem GrowI.drew (h : GrowI W A c n l w) : GrowI W A c n l w.drew := ⟨h.own, ⟨h.low.os, h.low.tape, h.low.output, h.low.size, h.low.block⟩⟩
theorem GrowI.alloc (h : GrowI W A c n l w) (o : Obj) : (w.alloc o).ownsRow W.heap.size 89 6 (.slice A n c) n (flat l) := (h.next (below1 w o)).own
/-- A literal. -/
theorem GrowI.lit (W : World) {cs : Array Value} (hn : n ≤ 1000) (hs : cs.size = n * 6) (hl : cs.toList = flat l) : GrowI W (some ⟨W.heap.size, 0, none⟩) n n l (W.alloc (.cells cs 89)) :=
  ⟨by rw [← hl]; exact own_lit W W.heap.size 89 6 n cs (Nat.le_refl _) hn hs, below1 _ _⟩
/-- Some more, behind the box that they lie in. -/
theorem GrowI.more {xs : List Value} {o : Obj} (h : GrowI W A c n l w) (hxs : xs = flat k) (hown : w'.ownsRow W.heap.size 89 6 (.slice A' (n + m) c') (n + m) (flat l ++ xs)) (hg : (w.alloc o).grownBy w' (Value.slice A n c).ownBlock) : GrowI W A' c' (n + m) (l ++ k) w' := by
  subst hxs
  refine ⟨by rw [flat_append]; exact hown, ?_⟩
  have h1 := h.low.alloc h.low.size o
  have hz := h.low.size
  exact ⟨hg.os.trans h1.os, hg.tape.trans h1.tape, hg.output.trans h1.output, Nat.le_trans h1.size hg.size, fun j hj => (hg.block j (by simp; omega) (fun e => by have := (own_lt h.own e.symm).1; omega)).trans (h1.block j hj)⟩
/-- Some more, without a box. -/
theorem GrowI.more0 {xs : List Value} (h : GrowI W A c n l w) (hxs : xs = flat k) (hown : w'.ownsRow W.heap.size 89 6 (.slice A' (n + m) c') (n + m) (flat l ++ xs)) (hg : w.grownBy w' (Value.slice A n c).ownBlock) : GrowI W A' c' (n + m) (l ++ k) w' := by
  subst hxs
  refine ⟨by rw [flat_append]; exact hown, ?_⟩
  have hz := h.low.size
  exact ⟨hg.os.trans h.low.os, hg.tape.trans h.low.tape, hg.output.trans h.low.output, Nat.le_trans h.low.size hg.size, fun j hj => (hg.block j (by omega) (fun e => by have := (own_lt h.own e.symm).1; omega)).trans (h.low.block j hj)⟩
theorem GrowI.ret (h : GrowI W A c n l w) (hb : Below w0.heap.size w0 W) : InsR w0 w (.returned (.slice A n c)) l := by
  have := h.len
  subst this
  exact ⟨A, c, rfl, own_base h.own hb.size, below_then hb h.low⟩
theorem InsR.mk0 {e : Ending} (h : InsR W w' e l) (hb : Below w.heap.size w W) : InsR w w' e l := by
  obtain ⟨A, c, he, ho, hl⟩ := h
  exact ⟨A, c, he, own_base ho hb.size, below_then hb hl⟩
theorem InsR.at_ {e : Ending} (h : InsR w w' e l) : ∃ A c, e = .returned (.slice A l.length c) ∧ l.length ≤ c ∧ w'.ownsRow w.heap.size 89 6 (.slice A l.length c) l.length (flat l) ∧ InssAt w' (New w.heap.size w'.heap.size) A l ∧ Below w.heap.size w w' := by
  obtain ⟨A, c, rfl, ho, hb⟩ := h
  obtain ⟨A', c', he, hc, hi⟩ := own_inss ho
  cases he
  exact ⟨A, c, rfl, hc, ho, hi.more (fun b hb => ⟨hb.2.1, hb.2.2⟩), hb⟩
end

def fenL (b : Bool) : List InsD := if b then [⟨12, 0, 0, 0, 0, 0⟩] else []
def claimL : List InsD := [⟨7, 2, 0, 0, 1, 0⟩, ⟨1, 3, 0, 0, 0, 1⟩, ⟨4, 2, 2, 3, 0, 0⟩, ⟨8, 0, 2, 0, 1, 0⟩]
/-- The rest of taking, its jumps moved on by k. -/
def takeT (r k : Int) : List InsD := [⟨7, 4, 0, 0, 0, 0⟩, ⟨5, 5, 4, 2, 0, 0⟩, ⟨13, 0, 5, 0, 0, 5 + k⟩, ⟨9, r, 2, 0, 2, 4⟩, ⟨14, 0, 0, 0, 0, 16 + k⟩, ⟨6, 5, 4, 2, 0, 0⟩, ⟨13, 0, 5, 0, 0, 14 + k⟩, ⟨9, r, 2, 0, 2, 4⟩, ⟨1, 3, 0, 0, 0, 1⟩, ⟨3, 3, 4, 3, 0, 0⟩, ⟨11, 5, 4, 3, 0, 0⟩, ⟨8, 0, 3, 0, 1, 0⟩, ⟨13, 0, 5, 0, 0, 15 + k⟩, ⟨14, 0, 0, 0, 0, 16 + k⟩, ⟨8, 0, 4, 0, 1, 0⟩, ⟨1, r, 0, 0, 0, 0⟩]
def takeI (r : Int) (b : Bool) : List InsD := claimL ++ (fenL b ++ takeT r (if b then 5 else 4))
def lookL : List InsD := [⟨7, 2, 0, 0, 0, 0⟩]
/-- The rest of stealing, its jumps moved on by k. -/
def stealT (r k : Int) : List InsD := [⟨7, 3, 0, 0, 1, 0⟩, ⟨5, 5, 2, 3, 0, 0⟩, ⟨13, 0, 5, 0, 0, 9 + k⟩, ⟨9, r, 2, 0, 2, 4⟩, ⟨1, 4, 0, 0, 0, 1⟩, ⟨3, 4, 2, 4, 0, 0⟩, ⟨11, 5, 2, 4, 0, 0⟩, ⟨13, 0, 5, 0, 0, 9 + k⟩, ⟨14, 0, 0, 0, 0, 10 + k⟩, ⟨1, r, 0, 0, 0, 0⟩]
def stealI (r : Int) (b : Bool) : List InsD := lookL ++ (fenL b ++ stealT r (if b then 2 else 1))
/-- Moved on by k. -/
def movI (k : Int) (d : InsD) : InsD := if leapB d.o then { d with n := d.n + k } else d
def movL (k : Int) (l : List InsD) : List InsD := l.map (movI k)
/-- The first k parts, one behind another. -/
def joinTo (ps : List (List InsD)) : Nat → List InsD
  | 0 => []
  | k + 1 => joinTo ps k ++ movL ((joinTo ps k).length : Int) (gett ps k)
theorem join_take (r : Int) (b : Bool) : joinTo [claimL, fenL b, takeT r 0] 3 = takeI r b := by cases b <;> rfl
theorem join_steal (r : Int) (b : Bool) : joinTo [lookL, fenL b, stealT r 0] 3 = stealI r b := by cases b <;> rfl
theorem takeI_len (r : Int) (b : Bool) : (takeI r b).length = if b then 21 else 20 := by cases b <;> rfl
theorem stealI_len (r : Int) (b : Bool) : (stealI r b).length = if b then 12 else 11 := by cases b <;> rfl
/-- A thief's instructions. -/
def thiefI (z : Int) (b : Bool) : List InsD := if z = 2 then stealI 0 b ++ movL ((stealI 0 b).length : Int) (stealI 1 b) else stealI 0 b
/-- Is FcTake in fences, is FcSteal? -/
def tkB (f : Int) : Bool := f == 1 || f == 3
def stB (f : Int) : Bool := f == 2 || f == 3
/-- Is there such a register, are there such fences? -/
def rfB (r f : Int) : Bool := decide (0 ≤ r ∧ r ≤ 1 ∧ 0 ≤ f ∧ f ≤ 3)
theorem rf_yes {r f : Int} (h : rfB r f = true) : (r = 0 ∨ r = 1) ∧ (f = 0 ∨ f = 1 ∨ f = 2 ∨ f = 3) := by
  unfold rfB at h
  rw [decide_eq_true_eq] at h
  omega
theorem tkB_bits {f : Int} (h : f = 0 ∨ f = 1 ∨ f = 2 ∨ f = 3) : (bits BinOp.and IntKind.i64 f 1 != 0) = tkB f := by
  rcases h with rfl | rfl | rfl | rfl <;> decide
theorem stB_bits {f : Int} (h : f = 0 ∨ f = 1 ∨ f = 2 ∨ f = 3) : (bits BinOp.and IntKind.i64 f 2 != 0) = stB f := by
  rcases h with rfl | rfl | rfl | rfl <;> decide
end Go.Proofs.Ytjendjbbhohjcaa
