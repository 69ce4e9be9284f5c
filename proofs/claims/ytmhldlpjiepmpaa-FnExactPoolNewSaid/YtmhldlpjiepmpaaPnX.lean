/- Jobs and pools between two block numbers: what the exact laws of stage 9 call, said of them. -/
import Derived.Test.YtmhldlpjiepmpaaPoK
import Derived.Test.YtmhldlpjiepmpaaPoE
import Derived.Test.YtmhldlpjiepmpaaPoH
namespace Go.Proofs.Ytmhldlpjiepmpaa
open Go.RowKit

/-- Jobs of one's own between two block numbers. -/
def JobsI (w : World) (lo hi : Nat) (v : Value) (l : List JobD) : Prop := ∃ f kv, JobsO w f lo v l kv ∧ ∀ b, f b ≠ 0 → lo ≤ b ∧ b < hi
section
variable {w w' : World} {lo hi lo' hi' B : Nat} {v v' : Value} {l : List JobD} {p : PoolD} {x y : PV} {f : Nat → Nat} {kv : Nat → Value}
theorem JobsI.of (h : JobsO w f B v l kv) : JobsI w B w.heap.size v l :=
  ⟨fun b => if B ≤ b ∧ b < w.heap.size then f b else 0, kv, ⟨h.heads.cut, fun k hk => (h.each k hk).cut⟩, fun b hb => by
    by_cases e : B ≤ b ∧ b < w.heap.size
    · exact e
    · exact absurd (if_neg e) hb⟩
theorem JobsI.next (h : JobsI w lo hi v l) (hb : Below w.heap.size w w') : JobsI w' lo hi v l := by
  obtain ⟨f, kv, h1, h2⟩ := h
  exact ⟨f, kv, h1.next hb, h2⟩
theorem JobsI.at_ (h : JobsI w lo hi v l) : ∃ A c, v = .slice A l.length c ∧ JobsAt w (Old w.heap.size) A l := by
  obtain ⟨f, kv, h1, h2⟩ := h
  obtain ⟨A, c, e⟩ := h1.form
  exact ⟨A, c, e, h1.atO e⟩
theorem markJobs_i (k : Nat) (hz : sizeJ l ≤ 1048576) (hk : k ≤ 2097152) (h : JobsI w lo hi v l) :
    Calls Try.prog 41 #[v, .int .i64 k] w fun e w' => e = .returned (.int .i64 ((k + sizeJ l : Nat) : Int)) ∧ Inn lo hi w w' := by
  obtain ⟨f, kv, h1, h2⟩ := h
  refine (markJobS_o k w hz hk h1).mono ?_
  rintro e w' ⟨he, -, hs, ⟨o1, o2, o3⟩, hb⟩
  exact ⟨he, o1, o2, o3, hs, fun b hl hn => hb b hl (fun e => hn (h2 b (by omega)))⟩
theorem eqJobs_i (h : JobsI w lo hi v l) (k : JobsI w lo' hi' v' l) :
    Calls Try.prog 37 #[v, v'] w fun e w' => e = .returned (.bool true) ∧ Below w.heap.size w w' := by
  obtain ⟨A, c, rfl, ha⟩ := h.at_
  obtain ⟨A', c', rfl, ha'⟩ := k.at_
  exact eqJobS_any A A' l c c' _ w (fun _ h => h) ha ha'
theorem toJobs_i (A : Option Addr) (c : Nat) (S : Nat → Prop) (hz : sizeJ l ≤ 1048576) (hS : ∀ b, S b → b < w.heap.size) (ha : JobsAt w S A l) :
    Calls Try.prog 36 #[.slice A l.length c] w fun e w' => ∃ v, e = .returned v ∧ JobsI w' w.heap.size w'.heap.size v l ∧ Below w.heap.size w w' := by
  have h1 : l.length ≤ sizeJ l := by unfold sizeJ; omega
  refine (toJobS_any (fun _ => 0) A l c S w (by omega) (fun k => Nat.le_trans (sizeJ_kids k) hz) hS ha).mono ?_
  rintro e w' ⟨v, f, kv, rfl, hJ, hb, -⟩
  exact ⟨v, rfl, .of hJ, hb⟩
theorem eqPool_i (h : PoolI w lo hi x p) (k : PoolI w lo' hi' y p) :
    Calls Try.prog 40 #[.agg #[x.L, x.D, x.R, x.N, x.F, x.M, x.V], .agg #[y.L, y.D, y.R, y.N, y.F, y.M, y.V]] w fun e w' => e = .returned (.bool true) ∧ Below w.heap.size w w' := by
  obtain ⟨a, ea, ha⟩ := h.at_
  obtain ⟨b, eb, hb⟩ := k.at_
  have h := eqPool_any a b p _ w (fun _ h => h) ha hb
  rw [← ea, ← eb] at h
  exact h
theorem markPool_i (k : Nat) (hz : poolSize p ≤ 1048576) (hk : k ≤ 2097152) (hhi : hi ≤ w.heap.size) (h : PoolI w lo hi x p) :
    Calls Try.prog 42 #[.agg #[x.L, x.D, x.R, x.N, x.F, x.M, x.V], .int .i64 k] w fun e w' => e = .returned (.int .i64 ((k + poolMarks p : Nat) : Int)) ∧ PoolI w' lo hi x (markP k p) ∧ Inn lo hi w w' := markPool_o k w hz hk hhi h
theorem heldPool_i (k : Nat) (hz : poolSize p ≤ 1048576) (hk : k ≤ 2097152) (h : PoolI w lo hi x (markP k p)) :
    Calls Try.prog 43 #[.agg #[x.L, x.D, x.R, x.N, x.F, x.M, x.V], .int .i64 k] w fun e w' => e = .returned (.int .i64 ((k + poolMarks p : Nat) : Int)) ∧ Below w.heap.size w w' := heldPool_o k w hz hk h
theorem PoolI.slices (h : PoolI w lo hi x p) : ∃ A0 A1 A2 A3 A4 A5 A6 c0 c1 c2 c3 c4 c5 c6, x = ⟨.slice A0 p.js.length c0, .slice A1 p.dq.length c1, .slice A2 p.ran.length c2, .slice A3 p.dn.length c3, .slice A4 p.lf.length c4, .slice A5 p.sm.length c5, .slice A6 p.vl.length c6, x.kv, x.rv⟩ := by
  obtain ⟨f, h, -⟩ := h
  obtain ⟨L, D, R, N, F, M, V, kv, rv⟩ := x
  obtain ⟨A0, c0, e0⟩ := h.jobs.form
  obtain ⟨A1, c1, e1⟩ := h.rows.heads.form
  obtain ⟨A2, c2, e2⟩ := h.ran.form
  obtain ⟨A3, c3, e3⟩ := h.dn.form
  obtain ⟨A4, c4, e4⟩ := h.lf.form
  obtain ⟨A5, c5, e5⟩ := h.sm.form
  obtain ⟨A6, c6, e6⟩ := h.vl.form
  dsimp only at e0 e1 e2 e3 e4 e5 e6
  subst e0 e1 e2 e3 e4 e5 e6
  exact ⟨_, _, _, _, _, _, _, _, _, _, _, _, _, _, rfl⟩
/-- What the law was given, and what has happened since. -/
structure ArgJ (n : Nat) (w0 : World) (A : Option Addr) (l : List JobD) (w : World) : Prop where
  at_ : JobsAt w (Old n) A l
  le : n ≤ w.heap.size
  since : Below n w0 w
theorem ArgJ.next {n : Nat} {w0 : World} {A : Option Addr} (h : ArgJ n w0 A l w) (hb : Below w.heap.size w w') : ArgJ n w0 A l w' :=
  ⟨h.at_.below hb (fun _ hbn => Nat.lt_of_lt_of_le hbn h.le), Nat.le_trans h.le hb.size, ⟨hb.os.trans h.since.os, hb.tape.trans h.since.tape, hb.output.trans h.since.output, Nat.le_trans h.since.size hb.size, fun k hk => (hb.block k (Nat.lt_of_lt_of_le hk h.le)).trans (h.since.block k hk)⟩⟩
theorem ArgJ.inn {n : Nat} {w0 : World} {A : Option Addr} (h : ArgJ n w0 A l w) (hI : Inn lo hi w w') (hn : n ≤ lo) : ArgJ n w0 A l w' := by
  have hb : Below n w w' := ⟨hI.os, hI.tape, hI.output, hI.size, fun k hk => hI.block k (Nat.lt_of_lt_of_le hk h.le) (by omega)⟩
  exact ⟨h.at_.below hb (fun _ hbn => hbn), Nat.le_trans h.le hI.size, ⟨hb.os.trans h.since.os, hb.tape.trans h.since.tape, hb.output.trans h.since.output, Nat.le_trans h.since.size hI.size, fun k hk => (hb.block k hk).trans (h.since.block k hk)⟩⟩
/-- A pool in a box, the pool between two block numbers. -/
structure BoxI (b lo hi : Nat) (x : PV) (p : PoolD) (w : World) : Prop where
  box : Blk w b 28 #[x.L, x.D, x.R, x.N, x.F, x.M, x.V]
  pool : PoolI w lo hi x p
theorem BoxI.next {b : Nat} (h : BoxI b lo hi x p w) (hb : Below w.heap.size w w') : BoxI b lo hi x p w' := ⟨h.box.below hb h.box.lt, h.pool.next hb⟩
theorem BoxI.inn {b : Nat} (h : BoxI b lo hi x p w) (hI : Inn lo' hi' w w') (ha : hi ≤ lo' ∨ hi' ≤ lo) (hb : b < lo' ∨ hi' ≤ b) : BoxI b lo hi x p w' :=
  ⟨(hI.block b h.box.lt (by omega)).trans h.box, h.pool.inn hI ha⟩
theorem BoxI.cells {b : Nat} (h : BoxI b lo hi x p w) : (w.cell? ⟨b, 0, none⟩ = some x.L ∧ w.cell? ⟨b, 1, none⟩ = some x.D ∧ w.cell? ⟨b, 2, none⟩ = some x.R ∧ w.cell? ⟨b, 3, none⟩ = some x.N ∧ w.cell? ⟨b, 4, none⟩ = some x.F ∧ w.cell? ⟨b, 5, none⟩ = some x.M ∧ w.cell? ⟨b, 6, none⟩ = some x.V) ∧ b < w.heap.size := box7 h.box
end
end Go.Proofs.Ytmhldlpjiepmpaa
