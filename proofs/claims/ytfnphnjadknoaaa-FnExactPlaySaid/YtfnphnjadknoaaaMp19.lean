/- A crew of one's own: what a store into one of its rows makes of it. -/
import Derived.Test.YtfnphnjadknoaaaMp0
import Derived.Test.YtfnphnjadknoaaaMp3
import Derived.Test.YtfnphnjadknoaaaMp11
import Derived.Test.YtfnphnjadknoaaaMp18
namespace Go.Proofs.Ytfnphnjadknoaaa
open Go.RowKit

structure CrewO (w : World) (f : Nat → Nat) (B g qp : Nat) (x : PV) (p : PoolD) : Prop where
  box : Blk w g 98 #[x.L, x.D, x.R, x.N, x.F, x.M, x.V, .slice (some ⟨qp, 0, none⟩) p.js.length p.js.length]
  fg : f g = 0
  par : FnAt w qp p.js.length (fun m => parI p.js p.js.length (m : Int))
  fq : f qp = 0
  pool : PoolO w f B x p
section
variable {w w' : World} {f f' : Nat → Nat} {B g qp : Nat} {x : PV} {p : PoolD} {l j : Nat}
theorem CrewO.next (h : CrewO w f B g qp x p) (hb : Below w.heap.size w w') : CrewO w' f B g qp x p :=
  ⟨h.box.below hb h.box.lt, h.fg, h.par.next hb, h.fq, h.pool.next hb⟩
theorem FnAt.labs {q n : Nat} {F : Nat → Int} (h : FnAt w q n F) (hL : Lab f l B w w') (hq : f q ≠ l) : FnAt w' q n F := by
  obtain ⟨cs, h1, h2⟩ := h
  exact ⟨cs, hL.blk h1 hq, h2⟩
theorem JobsO.labs {v : Value} {js : List JobD} {kv : Nat → Value} (h : JobsO w f B v js kv) (hL : Lab f l B w w') (hl : l ≠ 1 ∧ (l < 8 ∨ l % 2 = 1)) : JobsO w' f B v js kv :=
  h.keep (fun b hf _ hb => hL.block b hb (fun e => by omega))
theorem RowsO.labs {v : Value} {rs : List (List Int)} {rv : Nat → Value} (h : RowsO w f B v rs rv) (hL : Lab f l B w w') (hl : l ≠ 2 ∧ (l < 9 ∨ l % 2 = 0)) : RowsO w' f B v rs rv :=
  h.keep (fun b hf _ hb => hL.block b hb (fun e => by omega))
theorem gB_set {bs : List Bool} {j : Nat} (b : Bool) (hj : j < bs.length) (k : Nat) : gB (bs.set j b) k = if k = j then .bool b else gB bs k := by
  unfold gB
  rw [getb_set]
  by_cases e : k = j
  · rw [if_pos ⟨e, hj⟩, if_pos e]
  · rw [if_neg (fun q => e q.1), if_neg e]
theorem gI_set {zs : List Int} {j : Nat} (z : Int) (hj : j < zs.length) (k : Nat) : gI (zs.set j z) k = if k = j then .int .i64 z else gI zs k := by
  unfold gI
  rw [getz_set]
  by_cases e : k = j
  · rw [if_pos ⟨e, hj⟩, if_pos e]
  · rw [if_neg (fun q => e q.1), if_neg e]
theorem CrewO.set_ran (h : CrewO w f B g qp x p) (hj : j < p.ran.length) {q off c : Nat} (hv : x.R = .slice (some ⟨q, off, none⟩) p.ran.length c) (u : Bool) :
    CrewO (w.setCell ⟨q, off + j, none⟩ (.bool u)) f B g qp x { p with ran := p.ran.set j u } ∧ Lab f 3 B w (w.setCell ⟨q, off + j, none⟩ (.bool u)) := by
  obtain ⟨q', off', c', e, h1, h2, -⟩ := h.pool.ran.at_ (k := j) (by omega)
  rw [hv] at e
  cases e
  have hL : Lab f 3 B w (w.setCell ⟨q, off + j, none⟩ (.bool u)) := Lab.set_ ⟨h1, h2⟩ _
  have hnew : Sl 4 1 (w.setCell ⟨q, off + j, none⟩ (.bool u)) f 3 B x.R (p.ran.set j u).length (gB (p.ran.set j u)) := by
    rw [List.length_set]
    exact (h.pool.ran.set_ hv (by omega) _).congr (fun k _ => gB_set u hj k)
  exact ⟨⟨hL.blk h.box (by rw [h.fg]; omega), h.fg, h.par.labs hL (by rw [h.fq]; omega), h.fq, ⟨h.pool.jobs.labs hL (by omega), h.pool.rows.labs hL (by omega), hnew, h.pool.dn.other hL (by omega), h.pool.lf.other hL (by omega), h.pool.sm.other hL (by omega), h.pool.vl.other hL (by omega)⟩⟩, hL⟩
theorem CrewO.set_dn (h : CrewO w f B g qp x p) (hj : j < p.dn.length) {q off c : Nat} (hv : x.N = .slice (some ⟨q, off, none⟩) p.dn.length c) (u : Bool) :
    CrewO (w.setCell ⟨q, off + j, none⟩ (.bool u)) f B g qp x { p with dn := p.dn.set j u } ∧ Lab f 4 B w (w.setCell ⟨q, off + j, none⟩ (.bool u)) := by
  obtain ⟨q', off', c', e, h1, h2, -⟩ := h.pool.dn.at_ (k := j) (by omega)
  rw [hv] at e
  cases e
  have hL : Lab f 4 B w (w.setCell ⟨q, off + j, none⟩ (.bool u)) := Lab.set_ ⟨h1, h2⟩ _
  have hnew : Sl 4 1 (w.setCell ⟨q, off + j, none⟩ (.bool u)) f 4 B x.N (p.dn.set j u).length (gB (p.dn.set j u)) := by
    rw [List.length_set]
    exact (h.pool.dn.set_ hv (by omega) _).congr (fun k _ => gB_set u hj k)
  exact ⟨⟨hL.blk h.box (by rw [h.fg]; omega), h.fg, h.par.labs hL (by rw [h.fq]; omega), h.fq, ⟨h.pool.jobs.labs hL (by omega), h.pool.rows.labs hL (by omega), h.pool.ran.other hL (by omega), hnew, h.pool.lf.other hL (by omega), h.pool.sm.other hL (by omega), h.pool.vl.other hL (by omega)⟩⟩, hL⟩
theorem CrewO.set_lf (h : CrewO w f B g qp x p) (hj : j < p.lf.length) {q off c : Nat} (hv : x.F = .slice (some ⟨q, off, none⟩) p.lf.length c) (u : Int) :
    CrewO (w.setCell ⟨q, off + j, none⟩ (.int .i64 u)) f B g qp x { p with lf := p.lf.set j u } ∧ Lab f 5 B w (w.setCell ⟨q, off + j, none⟩ (.int .i64 u)) := by
  obtain ⟨q', off', c', e, h1, h2, -⟩ := h.pool.lf.at_ (k := j) (by omega)
  rw [hv] at e
  cases e
  have hL : Lab f 5 B w (w.setCell ⟨q, off + j, none⟩ (.int .i64 u)) := Lab.set_ ⟨h1, h2⟩ _
  have hnew : Sl 3 1 (w.setCell ⟨q, off + j, none⟩ (.int .i64 u)) f 5 B x.F (p.lf.set j u).length (gI (p.lf.set j u)) := by
    rw [List.length_set]
    exact (h.pool.lf.set_ hv (by omega) _).congr (fun k _ => gI_set u hj k)
  exact ⟨⟨hL.blk h.box (by rw [h.fg]; omega), h.fg, h.par.labs hL (by rw [h.fq]; omega), h.fq, ⟨h.pool.jobs.labs hL (by omega), h.pool.rows.labs hL (by omega), h.pool.ran.other hL (by omega), h.pool.dn.other hL (by omega), hnew, h.pool.sm.other hL (by omega), h.pool.vl.other hL (by omega)⟩⟩, hL⟩
theorem CrewO.set_sm (h : CrewO w f B g qp x p) (hj : j < p.sm.length) {q off c : Nat} (hv : x.M = .slice (some ⟨q, off, none⟩) p.sm.length c) (u : Int) :
    CrewO (w.setCell ⟨q, off + j, none⟩ (.int .i64 u)) f B g qp x { p with sm := p.sm.set j u } ∧ Lab f 6 B w (w.setCell ⟨q, off + j, none⟩ (.int .i64 u)) := by
  obtain ⟨q', off', c', e, h1, h2, -⟩ := h.pool.sm.at_ (k := j) (by omega)
  rw [hv] at e
  cases e
  have hL : Lab f 6 B w (w.setCell ⟨q, off + j, none⟩ (.int .i64 u)) := Lab.set_ ⟨h1, h2⟩ _
  have hnew : Sl 3 1 (w.setCell ⟨q, off + j, none⟩ (.int .i64 u)) f 6 B x.M (p.sm.set j u).length (gI (p.sm.set j u)) := by
    rw [List.length_set]
    exact (h.pool.sm.set_ hv (by omega) _).congr (fun k _ => gI_set u hj k)
  exact ⟨⟨hL.blk h.box (by rw [h.fg]; omega), h.fg, h.par.labs hL (by rw [h.fq]; omega), h.fq, ⟨h.pool.jobs.labs hL (by omega), h.pool.rows.labs hL (by omega), h.pool.ran.other hL (by omega), h.pool.dn.other hL (by omega), h.pool.lf.other hL (by omega), hnew, h.pool.vl.other hL (by omega)⟩⟩, hL⟩
theorem CrewO.set_vl (h : CrewO w f B g qp x p) (hj : j < p.vl.length) {q off c : Nat} (hv : x.V = .slice (some ⟨q, off, none⟩) p.vl.length c) (u : Int) :
    CrewO (w.setCell ⟨q, off + j, none⟩ (.int .i64 u)) f B g qp x { p with vl := p.vl.set j u } ∧ Lab f 7 B w (w.setCell ⟨q, off + j, none⟩ (.int .i64 u)) := by
  obtain ⟨q', off', c', e, h1, h2, -⟩ := h.pool.vl.at_ (k := j) (by omega)
  rw [hv] at e
  cases e
  have hL : Lab f 7 B w (w.setCell ⟨q, off + j, none⟩ (.int .i64 u)) := Lab.set_ ⟨h1, h2⟩ _
  have hnew : Sl 3 1 (w.setCell ⟨q, off + j, none⟩ (.int .i64 u)) f 7 B x.V (p.vl.set j u).length (gI (p.vl.set j u)) := by
    rw [List.length_set]
    exact (h.pool.vl.set_ hv (by omega) _).congr (fun k _ => gI_set u hj k)
  exact ⟨⟨hL.blk h.box (by rw [h.fg]; omega), h.fg, h.par.labs hL (by rw [h.fq]; omega), h.fq, ⟨h.pool.jobs.labs hL (by omega), h.pool.rows.labs hL (by omega), h.pool.ran.other hL (by omega), h.pool.dn.other hL (by omega), h.pool.lf.other hL (by omega), h.pool.sm.other hL (by omega), hnew⟩⟩, hL⟩
theorem CrewO.drew (h : CrewO w f B g qp x p) : CrewO w.drew f B g qp x p := h.next (Below.refl _ _).drew
theorem CrewO.alloc (h : CrewO w f B g qp x p) (o : Obj) : CrewO (w.alloc o) f B g qp x p := h.next (below1 w o)
def OwnC (f : Nat → Nat) (B : Nat) (w w' : World) : Prop := Chg (fun b => f b ≠ 0 ∧ B ≤ b) w w'
theorem OwnC.of_lab (h : Lab f l B w w') (hl : l ≠ 0) : OwnC f B w w' := ⟨h.os, h.tape, h.output, h.size, fun b hb hn => h.block b hb (fun e => hn ⟨by omega, e.2⟩)⟩
end
end Go.Proofs.Ytfnphnjadknoaaa
