/- Rows of rows as they are read, and their copies in the making; heads of rows: of no function of the program. -/
import Derived.Test.YtbeaijmilpefmaaDoorRowsD
namespace Go.Proofs.YtbeaijmilpefmaaDoor
open Go.RowKit
/-- Rows of rows at an address, in blocks of S; of an element its n and its numbers. -/
def RowsAt (w : World) (S : Nat → Prop) (A : Option Addr) (src : List RowD) : Prop :=
  src.length ≤ 1048576 ∧ (0 < src.length → ∃ b off, A = some ⟨b, off, none⟩ ∧ S b ∧ ∀ k, k < src.length → ∃ A' c', w.cell? ⟨b, off + k, none⟩ = some (.slice A' (getr src k).n c') ∧ IntsAt w S A' (getr src k).zs)
theorem RowsAt.below {w w' : World} {S : Nat → Prop} {B : Nat} {A : Option Addr} {src : List RowD} (h : RowsAt w S A src) (hb : Below B w w') (hS : ∀ b, S b → b < B) : RowsAt w' S A src :=
  ⟨h.1, fun hn => by
    obtain ⟨b, off, e, hSb, hc⟩ := h.2 hn
    refine ⟨b, off, e, hSb, fun k hk => ?_⟩
    obtain ⟨A', c', h1, h2⟩ := hc k hk
    exact ⟨A', c', (hb.cell (p := ⟨b, off + k, none⟩) (hS b hSb)).trans h1, h2.below hb hS⟩⟩
structure RowCells (et : TypeId) (w : World) (B : Nat) (cs : Array Value) (src : List RowD) (f : Nat → RowD) (k : Nat) : Prop where
  cells : ∀ j, j < k → cs[j]? = some (.slice (f j).A (f j).n (f j).c)
  rows : ∀ j, j < k → (f j).at_ et w
  same : ∀ j, j < k → (getr src j).n = (f j).n ∧ (getr src j).zs = (f j).zs
  up : ∀ i j, i < j → j < k → (f i).hi ≤ (f j).lo
  rng : ∀ j, j < k → B ≤ (f j).lo ∧ (f j).hi ≤ w.heap.size
theorem getr_map (f : Nat → RowD) (n k : Nat) (hk : k < n) : getr ((List.range n).map f) k = f k := by
  unfold getr
  rw [List.getD_eq_getElem?_getD, List.getElem?_map, List.getElem?_range hk]
  rfl
theorem RowCells.own {t et : TypeId} {w : World} {lo q : Nat} {cs : Array Value} {src : List RowD} {f : Nat → RowD} (h : RowCells et w (q + 1) cs src f src.length) (hb : Blk w q t cs) (hs : cs.size = src.length) (hl : lo ≤ q) :
    RowsOwn t et w lo w.heap.size q ((List.range src.length).map f) ∧ SameRows src ((List.range src.length).map f) := by
  have e : ((List.range src.length).map f).length = src.length := by simp
  refine ⟨⟨⟨cs, hb, by rw [e, hs]; exact Nat.le_refl _, fun k hk => ?_⟩, fun k hk => ?_, fun i j hij hj => ?_, ⟨⟨hl, hb.lt⟩, fun k hk => ?_⟩⟩, e.symm, fun k hk => ?_⟩
  · rw [e] at hk; rw [getr_map f _ k hk]; exact h.cells k hk
  · rw [e] at hk; rw [getr_map f _ k hk]; exact h.rows k hk
  · rw [e] at hj; rw [getr_map f _ i (by omega), getr_map f _ j hj]; exact h.up i j hij hj
  · rw [e] at hk; rw [getr_map f _ k hk]; have := h.rng k hk; exact ⟨by omega, this.2⟩
  · rw [getr_map f _ k hk]; exact h.same k hk


def getl (ls : List Nat) (k : Nat) : Nat := ls.getD k 0
/-- A row of slices in a block of S, of those lengths. -/
def HeadsAt (w : World) (S : Nat → Prop) (A : Option Addr) (ls : List Nat) : Prop :=
  ls.length ≤ 9223372036854775807 ∧ (0 < ls.length → ∃ b off, A = some ⟨b, off, none⟩ ∧ S b ∧ ∀ k, k < ls.length → ∃ A' c', w.cell? ⟨b, off + k, none⟩ = some (.slice A' (getl ls k) c') ∧ getl ls k ≤ 9223372036854775807)
theorem HeadsAt.below {w w' : World} {S : Nat → Prop} {B : Nat} {A : Option Addr} {ls : List Nat} (h : HeadsAt w S A ls) (hb : Below B w w') (hS : ∀ b, S b → b < B) : HeadsAt w' S A ls :=
  ⟨h.1, fun hn => by
    obtain ⟨b, off, e, hSb, hc⟩ := h.2 hn
    refine ⟨b, off, e, hSb, fun k hk => ?_⟩
    obtain ⟨A', c', h1, h2⟩ := hc k hk
    exact ⟨A', c', (hb.cell (p := ⟨b, off + k, none⟩) (hS b hSb)).trans h1, h2⟩⟩
theorem HeadsAt.more {w : World} {S S' : Nat → Prop} {A : Option Addr} {ls : List Nat} (h : HeadsAt w S A ls) (hS : ∀ b, S b → S' b) : HeadsAt w S' A ls :=
  ⟨h.1, fun hn => by
    obtain ⟨b, off, e, hSb, hc⟩ := h.2 hn
    exact ⟨b, off, e, hS b hSb, hc⟩⟩
def headSize (ls : List Nat) : Nat := ls.length + ls.sum

end Go.Proofs.YtbeaijmilpefmaaDoor
