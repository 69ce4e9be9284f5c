/- A block that is known whole: what it holds, what keeps it. For any world. -/
import Derived.Test.YtbchiiggfhdnkaaRead
import Derived.ProofKit
namespace Go.Proofs.Ytbchiiggfhdnkaa
open Go.RowKit

/-- Block g holds the cells cs of element type t, none frozen. -/
def Blk (w : World) (g : Nat) (t : TypeId) (cs : Array Value) : Prop := w.heap[g]? = some (.cells cs t (0, 0))

section
variable {w w' : World} {g : Nat} {t : TypeId} {cs : Array Value}
theorem Blk.lt (h : Blk w g t cs) : g < w.heap.size := by
  rcases Nat.lt_or_ge g w.heap.size with hlt | hge
  · exact hlt
  · unfold Blk at h; rw [Array.getElem?_eq_none hge] at h; cases h
theorem Blk.cell (h : Blk w g t cs) (i : Nat) : w.cell? ⟨g, i, none⟩ = cs[i]? := cell_of_row w g i cs t (0, 0) h
theorem Blk.frozen (h : Blk w g t cs) (i : Nat) : w.frozen? ⟨g, i, none⟩ = false := by
  unfold Blk at h
  simp [World.frozen?, h]
theorem Blk.new (w : World) (t : TypeId) (cs : Array Value) : Blk (w.alloc (.cells cs t)) w.heap.size t cs := heap_alloc_new w _
theorem Blk.set_ (h : Blk w g t cs) (i : Nat) (u : Value) : Blk (w.setCell ⟨g, i, none⟩ u) g t (cs.setIfInBounds i u) := by
  unfold Blk at h ⊢
  simp [World.setCell, Array.getElem?_modify, h]
theorem Blk.alloc (h : Blk w g t cs) (o : Obj) : Blk (w.alloc o) g t cs := (Below.heap_alloc w o g h.lt).trans h
theorem Blk.far (h : Blk w g t cs) {p : Addr} (hp : g ≠ p.block) (u : Value) : Blk (w.setCell p u) g t cs := (Below.heap_setCell w p u g hp).trans h
theorem Blk.below {B : Nat} (h : Blk w g t cs) (hb : Below B w w') (hg : g < B) : Blk w' g t cs := (hb.block g hg).trans h
end

/-- n times the cells of a zero value. -/
def zrow (z : Array Value) (n : Nat) : Array Value := madeCells z n
theorem zrow_size (z : Array Value) (n : Nat) : (zrow z n).size = n := by simp [zrow, madeCells]
theorem zrow_size1 (z : Value) (n : Nat) : (zrow #[z] n).size = n := by simp [zrow, madeCells]
/-- The six cells of an instruction within a block. -/
def InsCells (cs : Array Value) (off : Nat) (d : InsD) : Prop :=
  cs[off]? = some (.int .i64 d.o) ∧ cs[off + 1]? = some (.int .i64 d.r) ∧ cs[off + 2]? = some (.int .i64 d.a) ∧ cs[off + 3]? = some (.int .i64 d.b) ∧ cs[off + 4]? = some (.int .i64 d.x) ∧ cs[off + 5]? = some (.int .i64 d.n)
theorem Blk.insIn {w : World} {g off : Nat} {t : TypeId} {cs : Array Value} {d : InsD} (h : Blk w g t cs) (hc : InsCells cs off d) : InsIn w g off d :=
  ⟨(h.cell _).trans hc.1, (h.cell _).trans hc.2.1, (h.cell _).trans hc.2.2.1, (h.cell _).trans hc.2.2.2.1, (h.cell _).trans hc.2.2.2.2.1, (h.cell _).trans hc.2.2.2.2.2⟩
/-- An instruction written at its place. -/
def set6 (cs : Array Value) (off : Nat) (d : InsD) : Array Value :=
  (((((cs.setIfInBounds off (.int .i64 d.o)).setIfInBounds (off + 1) (.int .i64 d.r)).setIfInBounds (off + 2) (.int .i64 d.a)).setIfInBounds (off + 3) (.int .i64 d.b)).setIfInBounds (off + 4) (.int .i64 d.x)).setIfInBounds (off + 5) (.int .i64 d.n)
theorem set6_size (cs : Array Value) (off : Nat) (d : InsD) : (set6 cs off d).size = cs.size := by simp [set6]
theorem set6_far (cs : Array Value) (off : Nat) (d : InsD) (j : Nat) (h : j < off ∨ off + 5 < j) : (set6 cs off d)[j]? = cs[j]? := by
  unfold set6
  simp only [Array.getElem?_setIfInBounds]
  rw [if_neg (by omega), if_neg (by omega), if_neg (by omega), if_neg (by omega), if_neg (by omega), if_neg (by omega)]
theorem InsCells.at_ (cs : Array Value) (off : Nat) (d : InsD) (h : off + 5 < cs.size) : InsCells (set6 cs off d) off d := by
  unfold InsCells set6
  simp only [Array.getElem?_setIfInBounds, Array.size_setIfInBounds]
  refine ⟨?_, ?_, ?_, ?_, ?_, ?_⟩
  · rw [if_neg (by omega), if_neg (by omega), if_neg (by omega), if_neg (by omega), if_neg (by omega), if_pos trivial, if_pos (by omega)]
  · rw [if_neg (by omega), if_neg (by omega), if_neg (by omega), if_neg (by omega), if_pos trivial, if_pos (by omega)]
  · rw [if_neg (by omega), if_neg (by omega), if_neg (by omega), if_pos trivial, if_pos (by omega)]
  · rw [if_neg (by omega), if_neg (by omega), if_pos trivial, if_pos (by omega)]
  · rw [if_neg (by omega), if_pos trivial, if_pos (by omega)]
  · rw [if_pos trivial, if_pos (by omega)]
theorem InsCells.far {cs : Array Value} {off off' : Nat} {d e : InsD} (hc : InsCells cs off' e) (h : off' + 5 < off ∨ off + 5 < off') : InsCells (set6 cs off d) off' e :=
  ⟨(set6_far _ _ _ _ (by omega)).trans hc.1, (set6_far _ _ _ _ (by omega)).trans hc.2.1, (set6_far _ _ _ _ (by omega)).trans hc.2.2.1, (set6_far _ _ _ _ (by omega)).trans hc.2.2.2.1, (set6_far _ _ _ _ (by omega)).trans hc.2.2.2.2.1, (set6_far _ _ _ _ (by omega)).trans hc.2.2.2.2.2⟩
/-- The world behind such a write. -/
def put6 (w : World) (g off : Nat) (d : InsD) : World :=
  (((((w.setCell ⟨g, off, none⟩ (.int .i64 d.o)).setCell ⟨g, off + 1, none⟩ (.int .i64 d.r)).setCell ⟨g, off + 2, none⟩ (.int .i64 d.a)).setCell ⟨g, off + 3, none⟩ (.int .i64 d.b)).setCell ⟨g, off + 4, none⟩ (.int .i64 d.x)).setCell ⟨g, off + 5, none⟩ (.int .i64 d.n)
theorem Blk.put6 {w : World} {g : Nat} {t : TypeId} {cs : Array Value} (h : Blk w g t cs) (off : Nat) (d : InsD) : Blk (put6 w g off d) g t (set6 cs off d) :=
  (((((h.set_ _ _).set_ _ _).set_ _ _).set_ _ _).set_ _ _).set_ _ _
theorem below_put6 {B : Nat} {a w : World} (h : Below B a w) {g : Nat} (hg : B ≤ g) (off : Nat) (d : InsD) : Below B a (put6 w g off d) :=
  (((((h.setCell hg _).setCell hg _).setCell hg _).setCell hg _).setCell hg _).setCell hg _
end Go.Proofs.Ytbchiiggfhdnkaa
