/- A row whose elements are rows of numbers, each in a block of its own: []File, []Buf. -/
import Derived.Test.YtbeaijmilpefmaaDoorExD
import Derived.Test.YtbeaijmilpefmaaDoorSum
namespace Go.Proofs.YtbeaijmilpefmaaDoor
open Go.RowKit

/-- A row of numbers: where it lies, its elements, its numbers. -/
structure RowD where
  lo : Nat
  hi : Nat
  A : Option Addr
  n : Nat
  c : Nat
  zs : List Int
def row0 : RowD := ⟨0, 0, none, 0, 0, []⟩
def getr (l : List RowD) (k : Nat) : RowD := l.getD k row0
def RowD.val (r : RowD) : Value := .slice r.A r.n r.c
def RowD.at_ (et : TypeId) (w : World) (r : RowD) : Prop := RvI et w r.lo r.hi (.slice r.A r.n r.c) r.n r.zs

structure RowsOwn (t et : TypeId) (w : World) (lo hi q : Nat) (rs : List RowD) : Prop where
  row : ∃ cs, Blk w q t cs ∧ rs.length ≤ cs.size ∧ ∀ k, k < rs.length → cs[k]? = some (.slice (getr rs k).A (getr rs k).n (getr rs k).c)
  each : ∀ k, k < rs.length → (getr rs k).at_ et w
  up : ∀ i j, i < j → j < rs.length → (getr rs i).hi ≤ (getr rs j).lo
  rng : (lo ≤ q ∧ q < hi) ∧ ∀ k, k < rs.length → lo ≤ (getr rs k).lo ∧ (getr rs k).hi ≤ hi
/-- The row of an address; nothing is known of it where there is no element. -/
def RowsI (t et : TypeId) (w : World) (lo hi : Nat) (A : Option Addr) (rs : List RowD) : Prop := rs = [] ∨ ∃ q, A = some ⟨q, 0, none⟩ ∧ RowsOwn t et w lo hi q rs
section
variable {t et : TypeId} {w w' : World} {lo hi lo' hi' q : Nat} {A : Option Addr} {rs : List RowD}
theorem RvI.keep {lo hi n : Nat} {v : Value} {zs : List Int} (h : RvI t w lo hi v n zs) (hk : ∀ b, lo ≤ b → b < hi → b < w.heap.size → w'.heap[b]? = w.heap[b]?) : RvI t w' lo hi v n zs :=
  ⟨h.1.keep (fun k hk' e => hk k (h.1.own_lt e).1 (h.2 k e) hk'), h.2⟩
theorem RowsOwn.keep (h : RowsOwn t et w lo hi q rs) (hk : ∀ b, lo ≤ b → b < hi → b < w.heap.size → w'.heap[b]? = w.heap[b]?) : RowsOwn t et w' lo hi q rs := by
  obtain ⟨cs, h1, h2⟩ := h.row
  refine ⟨⟨cs, (hk q h.rng.1.1 h.rng.1.2 h1.lt).trans h1, h2⟩, fun k hkl => (h.each k hkl).keep (fun b b1 b2 b3 => hk b ?_ ?_ b3), h.up, h.rng⟩
  · have := h.rng.2 k hkl; omega
  · have := h.rng.2 k hkl; omega
theorem RowsI.keep (h : RowsI t et w lo hi A rs) (hk : ∀ b, lo ≤ b → b < hi → b < w.heap.size → w'.heap[b]? = w.heap[b]?) : RowsI t et w' lo hi A rs := by
  rcases h with h | ⟨q, e, h⟩
  · exact .inl h
  · exact .inr ⟨q, e, h.keep hk⟩
theorem RowsI.next (h : RowsI t et w lo hi A rs) (hb : Below w.heap.size w w') : RowsI t et w' lo hi A rs := h.keep (fun b _ _ hl => hb.block b hl)
theorem RowsOwn.wide (h : RowsOwn t et w lo hi q rs) (h1 : lo' ≤ lo) (h2 : hi ≤ hi') : RowsOwn t et w lo' hi' q rs :=
  ⟨h.row, h.each, h.up, ⟨⟨Nat.le_trans h1 h.rng.1.1, Nat.lt_of_lt_of_le h.rng.1.2 h2⟩, fun k hk => ⟨Nat.le_trans h1 (h.rng.2 k hk).1, Nat.le_trans (h.rng.2 k hk).2 h2⟩⟩⟩
theorem RowsI.wide (h : RowsI t et w lo hi A rs) (h1 : lo' ≤ lo) (h2 : hi ≤ hi') : RowsI t et w lo' hi' A rs := by
  rcases h with h | ⟨q, e, h⟩
  · exact .inl h
  · exact .inr ⟨q, e, h.wide h1 h2⟩
theorem RowsI.at_ (h : RowsI t et w lo hi A rs) {k : Nat} (hk : k < rs.length) : ∃ q, A = some ⟨q, 0, none⟩ ∧ RowsOwn t et w lo hi q rs := by
  rcases h with h | h
  · subst h; simp at hk
  · exact h
end
/-- How many numbers each holds. -/
def rlens (rs : List RowD) : List Nat := rs.map (fun r => r.zs.length)
theorem rlens_len (rs : List RowD) : (rlens rs).length = rs.length := by simp [rlens]
theorem rlens_get (rs : List RowD) (k : Nat) : (rlens rs).getD k 0 = (getr rs k).zs.length := by
  unfold rlens getr
  rw [List.getD_eq_getElem?_getD, List.getD_eq_getElem?_getD, List.getElem?_map]
  cases rs[k]? <;> rfl
/-- The rows with the numbers k, k + 1 and so on. -/
def mkRow (k : Int) (rs : List RowD) (j : Nat) : RowD := { getr rs j with zs := marks (k + sumTo (rlens rs) j).toNat (getr rs j).zs.length }
def mkRows (k : Int) (rs : List RowD) : List RowD := (List.range rs.length).map (mkRow k rs)
theorem mkRows_len (k : Int) (rs : List RowD) : (mkRows k rs).length = rs.length := by simp [mkRows]
theorem mkRows_get (k : Int) (rs : List RowD) (j : Nat) (hj : j < rs.length) : getr (mkRows k rs) j = mkRow k rs j := by
  unfold mkRows getr
  rw [List.getD_eq_getElem?_getD, List.getElem?_map, List.getElem?_range hj]
  rfl
/-- The first J of them marked. -/
def midRows (k : Int) (rs : List RowD) (J : Nat) : List RowD := (List.range rs.length).map (fun m => if m < J then mkRow k rs m else getr rs m)
theorem midRows_len (k : Int) (rs : List RowD) (J : Nat) : (midRows k rs J).length = rs.length := by simp [midRows]
theorem midRows_get (k : Int) (rs : List RowD) (J m : Nat) (hm : m < rs.length) : getr (midRows k rs J) m = if m < J then mkRow k rs m else getr rs m := by
  unfold midRows
  conv => lhs; unfold getr
  rw [List.getD_eq_getElem?_getD, List.getElem?_map, List.getElem?_range hm]
  rfl
theorem midRows_zero (k : Int) (rs : List RowD) : midRows k rs 0 = rs := by
  unfold midRows
  apply List.ext_getElem
  · simp
  · intro i h1 h2
    simp [getr, List.getD_eq_getElem?_getD, List.getElem?_eq_getElem h2]
theorem midRows_all (k : Int) (rs : List RowD) : midRows k rs rs.length = mkRows k rs := by
  unfold mkRows midRows
  exact List.map_congr_left (fun m hm => by rw [if_pos (by simpa using hm)])
/-- The same rows, elsewhere. -/
def SameRows (rs rs' : List RowD) : Prop := rs.length = rs'.length ∧ ∀ k, k < rs.length → (getr rs k).n = (getr rs' k).n ∧ (getr rs k).zs = (getr rs' k).zs
end Go.Proofs.YtbeaijmilpefmaaDoor
