/- Pools in memory: as they are read, and of one's own. -/
import Derived.Test.YtmhldlpjiepmpaaJbM
namespace Go.Proofs.Ytmhldlpjiepmpaa
open Go.RowKit

/-- Where a pool's seven rows lie. -/
structure PA where
  A0 : Option Addr
  A1 : Option Addr
  A2 : Option Addr
  A3 : Option Addr
  A4 : Option Addr
  A5 : Option Addr
  A6 : Option Addr
  c0 : Nat
  c1 : Nat
  c2 : Nat
  c3 : Nat
  c4 : Nat
  c5 : Nat
  c6 : Nat
def PA.cells (a : PA) (p : PoolD) : Array Value := #[.slice a.A0 p.js.length a.c0, .slice a.A1 p.dq.length a.c1, .slice a.A2 p.ran.length a.c2, .slice a.A3 p.dn.length a.c3, .slice a.A4 p.lf.length a.c4, .slice a.A5 p.sm.length a.c5, .slice a.A6 p.vl.length a.c6]
/-- A pool that is read: its rows in blocks of S. -/
structure PoolAt (w : World) (S : Nat → Prop) (a : PA) (p : PoolD) : Prop where
  jobs : JobsAt w S a.A0 p.js
  rows : DqAt w S a.A1 p.dq
  ran : BlsAt w S a.A2 p.ran
  dn : BlsAt w S a.A3 p.dn
  lf : IntsAt w S a.A4 p.lf
  sm : IntsAt w S a.A5 p.sm
  vl : IntsAt w S a.A6 p.vl
theorem PoolAt.below {w w' : World} {S : Nat → Prop} {B : Nat} {a : PA} {p : PoolD} (h : PoolAt w S a p) (hb : Below B w w') (hS : ∀ b, S b → b < B) : PoolAt w' S a p :=
  ⟨h.jobs.below hb hS, h.rows.below hb hS, h.ran.below hb hS, h.dn.below hb hS, h.lf.below hb hS, h.sm.below hb hS, h.vl.below hb hS⟩
theorem PoolAt.more {w : World} {S S' : Nat → Prop} {a : PA} {p : PoolD} (h : PoolAt w S a p) (hS : ∀ b, S b → S' b) : PoolAt w S' a p :=
  ⟨h.jobs.more hS, h.rows.more hS, h.ran.more hS, h.dn.more hS, h.lf.more hS, h.sm.more hS, h.vl.more hS⟩
theorem PoolAt.keep {w w' : World} {S S' : Nat → Prop} {a : PA} {p : PoolD} (h : PoolAt w S a p) (hk : ∀ b o, S b → w'.cell? ⟨b, o, none⟩ = w.cell? ⟨b, o, none⟩) (hS : ∀ b, S b → S' b) : PoolAt w' S' a p :=
  ⟨h.jobs.keep hk hS, h.rows.keep hk hS, h.ran.keep hk hS, h.dn.keep hk hS, h.lf.keep hk hS, h.sm.keep hk hS, h.vl.keep hk hS⟩
/-- The values of a pool's rows. -/
structure PV where
  L : Value
  D : Value
  R : Value
  N : Value
  F : Value
  M : Value
  V : Value
  kv : Nat → Value
  rv : Nat → Value
def PV.cells (x : PV) : Array Value := #[x.L, x.D, x.R, x.N, x.F, x.M, x.V]
/-- A pool of one's own: each row in a block with a label of its own, from B on. -/
structure PoolO (w : World) (f : Nat → Nat) (B : Nat) (x : PV) (p : PoolD) : Prop where
  jobs : JobsO w f B x.L p.js x.kv
  rows : RowsO w f B x.D p.dq x.rv
  ran : Sl 4 1 w f 3 B x.R p.ran.length (gB p.ran)
  dn : Sl 4 1 w f 4 B x.N p.dn.length (gB p.dn)
  lf : Sl 3 1 w f 5 B x.F p.lf.length (gI p.lf)
  sm : Sl 3 1 w f 6 B x.M p.sm.length (gI p.sm)
  vl : Sl 3 1 w f 7 B x.V p.vl.length (gI p.vl)
section
variable {w w' : World} {f f' : Nat → Nat} {B B' : Nat} {x : PV} {p : PoolD}
theorem PoolO.keep (h : PoolO w f B x p) (hk : ∀ b, f b ≠ 0 → B ≤ b → b < w.heap.size → w'.heap[b]? = w.heap[b]?) : PoolO w' f B x p :=
  ⟨h.jobs.keep (fun b hf => hk b (by omega)), h.rows.keep (fun b hf => hk b (by omega)), h.ran.keep (fun b hf => hk b (by omega)), h.dn.keep (fun b hf => hk b (by omega)), h.lf.keep (fun b hf => hk b (by omega)), h.sm.keep (fun b hf => hk b (by omega)), h.vl.keep (fun b hf => hk b (by omega))⟩
theorem PoolO.next (h : PoolO w f B x p) (hb : Below w.heap.size w w') : PoolO w' f B x p := h.keep (fun b _ _ hl => hb.block b hl)
theorem PoolO.relab (h : PoolO w f B x p) (hf : ∀ b, b < w.heap.size → f' b = f b) : PoolO w f' B x p :=
  ⟨h.jobs.relab hf, h.rows.relab hf, h.ran.relab hf, h.dn.relab hf, h.lf.relab hf, h.sm.relab hf, h.vl.relab hf⟩
theorem PoolO.base (h : PoolO w f B x p) (hB : B' ≤ B) : PoolO w f B' x p :=
  ⟨h.jobs.base hB, h.rows.base hB, h.ran.base hB, h.dn.base hB, h.lf.base hB, h.sm.base hB, h.vl.base hB⟩
/-- .. as it is read. -/
theorem PoolO.at_ (h : PoolO w f B x p) : ∃ a : PA, x.cells = a.cells p ∧ PoolAt w (fun b => B ≤ b ∧ b < w.heap.size) a p := by
  obtain ⟨A0, c0, e0⟩ := h.jobs.form
  obtain ⟨A1, c1, e1⟩ := h.rows.heads.form
  obtain ⟨A2, c2, e2⟩ := h.ran.form
  obtain ⟨A3, c3, e3⟩ := h.dn.form
  obtain ⟨A4, c4, e4⟩ := h.lf.form
  obtain ⟨A5, c5, e5⟩ := h.sm.form
  obtain ⟨A6, c6, e6⟩ := h.vl.form
  refine ⟨⟨A0, A1, A2, A3, A4, A5, A6, c0, c1, c2, c3, c4, c5, c6⟩, ?_, h.jobs.at_ e0, h.rows.at_ e1, h.ran.blsO e2, h.dn.blsO e3, (h.lf.ints e4).more (fun _ h => h.2), (h.sm.ints e5).more (fun _ h => h.2), (h.vl.ints e6).more (fun _ h => h.2)⟩
  unfold PV.cells PA.cells
  rw [e0, e1, e2, e3, e4, e5, e6]
end
def poolSize (p : PoolD) : Nat := sizeJ p.js + sizeQ p.dq + p.ran.length + p.dn.length + p.lf.length + p.sm.length + p.vl.length
/-- A box of seven cells. -/
theorem box7 {w : World} {g : Nat} {t : TypeId} {a0 a1 a2 a3 a4 a5 a6 : Value} (h : Blk w g t #[a0, a1, a2, a3, a4, a5, a6]) :
    (w.cell? ⟨g, 0, none⟩ = some a0 ∧ w.cell? ⟨g, 1, none⟩ = some a1 ∧ w.cell? ⟨g, 2, none⟩ = some a2 ∧ w.cell? ⟨g, 3, none⟩ = some a3 ∧ w.cell? ⟨g, 4, none⟩ = some a4 ∧ w.cell? ⟨g, 5, none⟩ = some a5 ∧ w.cell? ⟨g, 6, none⟩ = some a6) ∧ g < w.heap.size :=
  ⟨⟨h.cell 0, h.cell 1, h.cell 2, h.cell 3, h.cell 4, h.cell 5, h.cell 6⟩, h.lt⟩
theorem froz7 {w : World} {g : Nat} {t : TypeId} {cs : Array Value} (h : Blk w g t cs) :
    w.frozen? ⟨g, 0, none⟩ = false ∧ w.frozen? ⟨g, 1, none⟩ = false ∧ w.frozen? ⟨g, 2, none⟩ = false ∧ w.frozen? ⟨g, 3, none⟩ = false ∧ w.frozen? ⟨g, 4, none⟩ = false ∧ w.frozen? ⟨g, 5, none⟩ = false ∧ w.frozen? ⟨g, 6, none⟩ = false :=
  ⟨h.frozen 0, h.frozen 1, h.frozen 2, h.frozen 3, h.frozen 4, h.frozen 5, h.frozen 6⟩
end Go.Proofs.Ytmhldlpjiepmpaa
