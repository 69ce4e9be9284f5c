/- What the exact laws of Take, Steal, Play carry: the pool they were given, in its box; pools made of it. -/
import Derived.Test.YtfnphnjadknoaaaMt0
import Derived.Test.YtfnphnjadknoaaaMt12
namespace Go.Proofs.Ytfnphnjadknoaaa
open Go.RowKit

theorem sum_le (b : Nat) : ∀ (m : List Nat), (∀ x ∈ m, x ≤ b) → m.sum ≤ m.length * b := by
  intro m
  induction m with
  | nil => intro _; simp
  | cons a m ih =>
    intro hm
    have h1 := hm a (by simp)
    have h2 := ih (fun x hx => hm x (by simp [hx]))
    simp only [List.sum_cons, List.length_cons, Nat.succ_mul]
    omega
theorem tree_small {l : List JobD} (h : Tree l) : sizeJ l ≤ 1000 := by
  have hk : ∀ j, j < l.length → (getj l j).ks.length ≤ l.length := fun j hj => once_len _ _ (fun y hy => by have := h.mem hj hy; omega) (fun y => by
    by_cases hy : y ∈ (getj l j).ks
    · rw [h.once hj hy]; omega
    · rw [List.count_eq_zero.2 hy]; omega)
  have h30 := h.top
  have h4 := sum_le 30 (lensJ l) (fun x hx => by
    obtain ⟨j, hj, hjx⟩ := List.mem_iff_getElem.1 hx
    have hj2 : j < l.length := by simpa [lensJ] using hj
    have h5 := hk j hj2
    have h6 := lensJ_get l j
    rw [List.getD_eq_getElem?_getD, List.getElem?_eq_getElem hj, Option.getD_some, hjx] at h6
    omega)
  rw [lensJ_len] at h4
  unfold sizeJ
  omega
theorem PInv.small {p : PoolD} (h : PInv p (-1)) : poolSize p ≤ 2000 := by
  have h1 := tree_small h.tree
  have h2 := h.tree.top
  have h3 := sum_le 30 (lensQ p.dq) (fun x hx => by
    unfold lensQ at hx
    rw [List.mem_map] at hx
    obtain ⟨r, hr, rfl⟩ := hx
    obtain ⟨k, hk, rfl⟩ := List.getElem_of_mem hr
    have h5 := h.row_len hk
    have h6 : getq p.dq k = p.dq[k] := by simp [getq, List.getD_eq_getElem?_getD, List.getElem?_eq_getElem hk]
    rw [h6] at h5
    omega)
  have h4 : (lensQ p.dq).length = p.dq.length := by simp [lensQ]
  rw [h4] at h3
  have h5 := h.wk.2
  have h6 := h.lran
  have h7 := h.ldn
  have h8 := h.llf
  have h9 := h.lsm
  have h10 := h.lvl
  unfold poolSize sizeQ
  omega
theorem pool0_small : poolSize pool0 ≤ 2000 := by decide
theorem oneP_small {p : PoolD} (hz : poolSize p ≤ 1048576) (W V : Int) : poolSize (oneP p W V).1 ≤ 2000 := by
  have hk := fun k => sizeJ_kids (l := p.js) k
  have hk2 : ∀ k, (getj p.js k).ks.length ≤ 1048576 := fun k => by have := hk k; unfold poolSize at hz; omega
  cases h1 : poolB p
  · rw [oneP_no (.inl h1)]; exact pool0_small
  · cases h2 : mayP p W V
    · rw [oneP_no (.inr h2)]; exact pool0_small
    · rw [oneP_yes h1 h2]
      exact ((poolB_inv h1).pick W V hk2).1.small
theorem stealR_small {p : PoolD} (hz : poolSize p ≤ 1048576) (W V : Int) : poolSize (stealR p W V).1 ≤ 2000 := by
  unfold stealR
  split
  · exact pool0_small
  · exact oneP_small hz W V
theorem playR_small {p : PoolD} (hz : poolSize p ≤ 1048576) (zs : List Int) (n : Nat) : poolSize (playR p zs n).1 ≤ 2000 := by
  have hk := fun k => sizeJ_kids (l := p.js) k
  have hk2 : ∀ k, (getj p.js k).ks.length ≤ 1048576 := fun k => by have := hk k; unfold poolSize at hz; omega
  cases h1 : poolB p
  · rw [playR_no (.inl h1)]; exact pool0_small
  · by_cases h2 : n ≤ 2000
    · rw [playR_yes h1 h2]
      exact (playK_inv zs n (poolB_inv h1) hk2).1.small
    · rw [playR_no (.inr h2)]; exact pool0_small
end Go.Proofs.Ytfnphnjadknoaaa

namespace Go.Proofs.Ytfnphnjadknoaaa
open Go.RowKit

structure ArgP (n : Nat) (w0 : World) (a : PA) (p : PoolD) (w : World) : Prop where
  at_ : PoolAt w (Old n) a p
  box : Blk w n 67 (a.cells p)
  since : Below n w0 w
section
variable {n lo hi : Nat} {w0 w w' : World} {a : PA} {p : PoolD} {x : PV}
theorem ArgP.le (h : ArgP n w0 a p w) : n ≤ w.heap.size := Nat.le_of_lt h.box.lt
theorem ArgP.next (h : ArgP n w0 a p w) (hb : Below w.heap.size w w') : ArgP n w0 a p w' :=
  ⟨h.at_.below hb (fun _ hbn => Nat.lt_of_lt_of_le hbn h.le), h.box.below hb h.box.lt, h.since.trans (hb.mono h.le)⟩
theorem ArgP.inn (h : ArgP n w0 a p w) (hI : Inn lo hi w w') (hn : n < lo) : ArgP n w0 a p w' := by
  have hb : Below n w w' := ⟨hI.os, hI.tape, hI.output, hI.size, fun k hk => hI.block k (Nat.lt_of_lt_of_le hk h.le) (by omega)⟩
  exact ⟨h.at_.below hb (fun _ hbn => hbn), (hI.block n h.box.lt (by omega)).trans h.box, h.since.trans hb⟩
theorem ArgP.cells (h : ArgP n w0 a p w) : (w.cell? ⟨n, 0, none⟩ = some (.slice a.A0 p.js.length a.c0) ∧ w.cell? ⟨n, 1, none⟩ = some (.slice a.A1 p.dq.length a.c1) ∧ w.cell? ⟨n, 2, none⟩ = some (.slice a.A2 p.ran.length a.c2) ∧ w.cell? ⟨n, 3, none⟩ = some (.slice a.A3 p.dn.length a.c3) ∧ w.cell? ⟨n, 4, none⟩ = some (.slice a.A4 p.lf.length a.c4) ∧ w.cell? ⟨n, 5, none⟩ = some (.slice a.A5 p.sm.length a.c5) ∧ w.cell? ⟨n, 6, none⟩ = some (.slice a.A6 p.vl.length a.c6)) ∧ n < w.heap.size := box7 h.box
theorem ArgP.sub (h : ArgP n w0 a p w) : Old n = Old n ∧ ∀ b, Old n b → b < w.heap.size := ⟨rfl, fun _ hb => Nat.lt_of_lt_of_le hb h.le⟩
theorem toPool_i (hz : poolSize p ≤ 1048576) (h : ArgP n w0 a p w) :
    Calls Try.prog 45 #[.agg #[.slice a.A0 p.js.length a.c0, .slice a.A1 p.dq.length a.c1, .slice a.A2 p.ran.length a.c2, .slice a.A3 p.dn.length a.c3, .slice a.A4 p.lf.length a.c4, .slice a.A5 p.sm.length a.c5, .slice a.A6 p.vl.length a.c6]] w fun e w' => ∃ x, e = .returned (.agg #[x.L, x.D, x.R, x.N, x.F, x.M, x.V]) ∧ PoolI w' w.heap.size w'.heap.size x p ∧ Below w.heap.size w w' := by
  refine (toPool_any a p (Old n) w hz h.sub.2 h.at_).mono ?_
  rintro e w' ⟨x, f, rfl, hP, hb, -⟩
  exact ⟨x, rfl, .of hP, hb⟩
theorem markPool_z (hz : poolSize p ≤ 1048576) (hhi : hi ≤ w.heap.size) (h : PoolI w lo hi x p) :
    Calls Try.prog 42 #[.agg #[x.L, x.D, x.R, x.N, x.F, x.M, x.V], .int .i64 1] w fun e w' => e = .returned (.int .i64 ((1 + poolMarks p : Nat) : Int)) ∧ PoolI w' lo hi x (markP 1 p) ∧ Inn lo hi w w' := markPool_i 1 hz (by omega) hhi h
theorem heldPool_z (hz : poolSize p ≤ 1048576) (h : PoolI w lo hi x (markP 1 p)) :
    Calls Try.prog 43 #[.agg #[x.L, x.D, x.R, x.N, x.F, x.M, x.V], .int .i64 1] w fun e w' => e = .returned (.int .i64 ((1 + poolMarks p : Nat) : Int)) ∧ Below w.heap.size w w' := heldPool_i 1 hz (by omega) h
end
end Go.Proofs.Ytfnphnjadknoaaa
