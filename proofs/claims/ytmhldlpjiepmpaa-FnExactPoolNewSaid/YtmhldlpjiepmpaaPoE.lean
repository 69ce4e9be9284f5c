/- A pool as an argument: its copy. -/
import Derived.Test.YtmhldlpjiepmpaaPoT
namespace Go.Proofs.Ytmhldlpjiepmpaa
open Go.RowKit

theorem toPoolA (a : PA) (p : PoolD) (S : Nat → Prop) (w : World) (hz : poolSize p ≤ 1048576) (hS : ∀ b, S b → b < w.heap.size) (ha : PoolAt w S a p) :
    Calls Try.prog 45 #[.agg #[.slice a.A0 p.js.length a.c0, .slice a.A1 p.dq.length a.c1, .slice a.A2 p.ran.length a.c2, .slice a.A3 p.dn.length a.c3, .slice a.A4 p.lf.length a.c4, .slice a.A5 p.sm.length a.c5, .slice a.A6 p.vl.length a.c6]] w fun e w' => ∃ a' : PA, e = .returned (.agg #[.slice a'.A0 p.js.length a'.c0, .slice a'.A1 p.dq.length a'.c1, .slice a'.A2 p.ran.length a'.c2, .slice a'.A3 p.dn.length a'.c3, .slice a'.A4 p.lf.length a'.c4, .slice a'.A5 p.sm.length a'.c5, .slice a'.A6 p.vl.length a'.c6]) ∧ PoolAt w' (Old w'.heap.size) a' p ∧ Below w.heap.size w w' := by
  refine (toPool_any a p S w hz hS ha).mono ?_
  rintro e w' ⟨x, f, rfl, h, hb, -⟩
  obtain ⟨a', e', h'⟩ := h.at_
  exact ⟨a', by rw [e']; rfl, h'.more (fun _ k => k.2), hb⟩
theorem two7 {w : World} {g q : Nat} {t u : TypeId} {a0 a1 a2 a3 a4 a5 a6 b0 b1 b2 b3 b4 b5 b6 : Value} (h : Blk w g t #[a0, a1, a2, a3, a4, a5, a6]) (k : Blk w q u #[b0, b1, b2, b3, b4, b5, b6]) :
    w.cell? ⟨g, 0, none⟩ = some a0 ∧ w.cell? ⟨g, 1, none⟩ = some a1 ∧ w.cell? ⟨g, 2, none⟩ = some a2 ∧ w.cell? ⟨g, 3, none⟩ = some a3 ∧ w.cell? ⟨g, 4, none⟩ = some a4 ∧ w.cell? ⟨g, 5, none⟩ = some a5 ∧ w.cell? ⟨g, 6, none⟩ = some a6 ∧ w.cell? ⟨q, 0, none⟩ = some b0 ∧ w.cell? ⟨q, 1, none⟩ = some b1 ∧ w.cell? ⟨q, 2, none⟩ = some b2 ∧ w.cell? ⟨q, 3, none⟩ = some b3 ∧ w.cell? ⟨q, 4, none⟩ = some b4 ∧ w.cell? ⟨q, 5, none⟩ = some b5 ∧ w.cell? ⟨q, 6, none⟩ = some b6 :=
  ⟨h.cell 0, h.cell 1, h.cell 2, h.cell 3, h.cell 4, h.cell 5, h.cell 6, k.cell 0, k.cell 1, k.cell 2, k.cell 3, k.cell 4, k.cell 5, k.cell 6⟩
theorem poolSize_le {p : PoolD} (h : poolSize p ≤ 1048576) : (∀ k, (getj p.js k).ks.length ≤ 1048576) ∧ sizeQ p.dq ≤ 1048576 := by
  unfold poolSize at h
  exact ⟨fun k => Nat.le_trans (sizeJ_kids k) (by omega), by omega⟩
end Go.Proofs.Ytmhldlpjiepmpaa
