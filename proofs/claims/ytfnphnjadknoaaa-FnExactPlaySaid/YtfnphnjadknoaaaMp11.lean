/- A pool as an argument: its copy. -/
import Derived.Test.YtfnphnjadknoaaaMp0
import Derived.Test.YtfnphnjadknoaaaMp9
import Derived.Test.YtfnphnjadknoaaaMp10
namespace Go.Proofs.Ytfnphnjadknoaaa
open Go.RowKit

structure Chg (c : Nat → Prop) (w w' : World) : Prop where
  os : w'.os = w.os
  tape : w'.tape = w.tape
  output : w'.output = w.output
  size : w.heap.size ≤ w'.heap.size
  block : ∀ k, k < w.heap.size → ¬ c k → w'.heap[k]? = w.heap[k]?
section
variable {t : TypeId} {sz : Nat} {w w' w'' : World} {f f' : Nat → Nat} {l B n lo hi lo' hi' : Nat} {v : Value} {g : Nat → Value} {js : List JobD} {rs : List (List Int)} {kv rv : Nat → Value} {c c' : Nat → Prop} {x : PV} {p : PoolD}
theorem Chg.refl (c : Nat → Prop) (w : World) : Chg c w w := ⟨rfl, rfl, rfl, Nat.le_refl _, fun _ _ _ => rfl⟩
theorem Chg.trans (h : Chg c w w') (k : Chg c w' w'') : Chg c w w'' :=
  ⟨k.os.trans h.os, k.tape.trans h.tape, k.output.trans h.output, Nat.le_trans h.size k.size, fun i hi hn => (k.block i (Nat.lt_of_lt_of_le hi h.size) hn).trans (h.block i hi hn)⟩
theorem Chg.mono (h : Chg c w w') (hc : ∀ b, b < w.heap.size → c b → c' b) : Chg c' w w' := ⟨h.os, h.tape, h.output, h.size, fun b hb hn => h.block b hb (fun e => hn (hc b hb e))⟩
theorem Chg.of_lab (h : Lab f l B w w') : Chg (fun b => f b = l) w w' := ⟨h.os, h.tape, h.output, h.size, fun b hb hn => h.block b hb (fun e => hn e.1)⟩
theorem Chg.of_below (h : Below w.heap.size w w') : Chg c w w' := ⟨h.os, h.tape, h.output, h.size, fun b hb _ => h.block b hb⟩
theorem Chg.inn (h : Chg c w w') (hc : ∀ b, c b → lo ≤ b ∧ b < hi) : Inn lo hi w w' := ⟨h.os, h.tape, h.output, h.size, fun b hb hn => h.block b hb (fun e => hn (hc b e))⟩
theorem Sl.chg (h : Sl t sz w f l B v n g) (hc : Chg c w w') (hn : ∀ b, f b = l → ¬ c b) : Sl t sz w' f l B v n g := h.keep (fun b hf _ hl => hc.block b hl (hn b hf))
theorem JobsO.chg (h : JobsO w f B v js kv) (hc : Chg c w w') (hn : ∀ b, (f b = 1 ∨ (8 ≤ f b ∧ f b % 2 = 0)) → ¬ c b) : JobsO w' f B v js kv := h.keep (fun b hf _ hl => hc.block b hl (hn b hf))
theorem RowsO.chg (h : RowsO w f B v rs rv) (hc : Chg c w w') (hn : ∀ b, (f b = 2 ∨ (9 ≤ f b ∧ f b % 2 = 1)) → ¬ c b) : RowsO w' f B v rs rv := h.keep (fun b hf _ hl => hc.block b hl (hn b hf))
theorem Blk.chg {q : Nat} {cs : Array Value} (h : Blk w q t cs) (hc : Chg c w w') (hn : ¬ c q) : Blk w' q t cs := (hc.block q h.lt hn).trans h

def PoolI (w : World) (lo hi : Nat) (x : PV) (p : PoolD) : Prop := ∃ f, PoolO w f lo x p ∧ ∀ b, f b ≠ 0 → lo ≤ b ∧ b < hi
theorem Sl.cut (h : Sl t sz w f l B v n g) : Sl t sz w (fun b => if B ≤ b ∧ b < w.heap.size then f b else 0) l B v n g :=
  h.relabel (fun b hf hB hl => by rw [if_pos ⟨hB, hl⟩]; exact hf)
theorem PoolI.of (h : PoolO w f B x p) : PoolI w B w.heap.size x p :=
  ⟨fun b => if B ≤ b ∧ b < w.heap.size then f b else 0, ⟨⟨h.jobs.heads.cut, fun k hk => (h.jobs.each k hk).cut⟩, ⟨h.rows.heads.cut, fun k hk => (h.rows.each k hk).cut⟩, h.ran.cut, h.dn.cut, h.lf.cut, h.sm.cut, h.vl.cut⟩, fun b hb => by
    by_cases e : B ≤ b ∧ b < w.heap.size
    · exact e
    · exact absurd (if_neg e) hb⟩
theorem PoolI.next (h : PoolI w lo hi x p) (hb : Below w.heap.size w w') : PoolI w' lo hi x p := by
  obtain ⟨f, h1, h2⟩ := h
  exact ⟨f, h1.next hb, h2⟩
theorem PoolI.inn (h : PoolI w lo hi x p) (hn : Inn lo' hi' w w') (ha : hi ≤ lo' ∨ hi' ≤ lo) : PoolI w' lo hi x p := by
  obtain ⟨f, h1, h2⟩ := h
  exact ⟨f, h1.keep (fun b hb _ hl => hn.block b hl (fun e => by have := h2 b hb; omega)), h2⟩
theorem PoolI.at_ (h : PoolI w lo hi x p) : ∃ a : PA, x.cells = a.cells p ∧ PoolAt w (Old w.heap.size) a p := by
  obtain ⟨f, h1, h2⟩ := h
  obtain ⟨a, e, h3⟩ := h1.at_
  exact ⟨a, e, h3.more (fun _ h => h.2)⟩
end
def marksB (k n : Nat) : List Bool := (List.range n).map (fun j => mkB (k + j))
theorem marksB_len (k n : Nat) : (marksB k n).length = n := by simp [marksB]
theorem marksB_get {k n j : Nat} (h : j < n) : getb (marksB k n) j = mkB (k + j) := by
  simp [marksB, getb, List.getD_eq_getElem?_getD, h]
def markP (k : Nat) (p : PoolD) : PoolD :=
  ⟨midJobs k p.js p.js.length, midQ (k + sizeJ p.js) p.dq p.dq.length, marksB (k + sizeJ p.js + (lensQ p.dq).sum) p.ran.length, marksB (k + sizeJ p.js + (lensQ p.dq).sum + p.ran.length) p.dn.length, marks (k + sizeJ p.js + (lensQ p.dq).sum + p.ran.length + p.dn.length) p.lf.length, marks (k + sizeJ p.js + (lensQ p.dq).sum + p.ran.length + p.dn.length + p.lf.length) p.sm.length, marks (k + sizeJ p.js + (lensQ p.dq).sum + p.ran.length + p.dn.length + p.lf.length + p.sm.length) p.vl.length⟩
def poolMarks (p : PoolD) : Nat := sizeJ p.js + (lensQ p.dq).sum + p.ran.length + p.dn.length + p.lf.length + p.sm.length + p.vl.length
theorem poolMarks_le (p : PoolD) : poolMarks p ≤ poolSize p := by unfold poolMarks poolSize sizeQ; omega

set_option maxRecDepth 100000 in
set_option maxHeartbeats 12800000 in
theorem markPool_o {lo hi : Nat} {x : PV} {p : PoolD} (k : Nat) (w : World) (hz : poolSize p ≤ 1048576) (hk : k ≤ 2097152) (hhi : hi ≤ w.heap.size) (h : PoolI w lo hi x p) :
    Calls Try.prog 42 #[.agg x.cells, .int .i64 k] w fun e w' => e = .returned (.int .i64 ((k + poolMarks p : Nat) : Int)) ∧ PoolI w' lo hi x (markP k p) ∧ Inn lo hi w w' := by
  obtain ⟨f, hO, hf⟩ := h
  have hsz : sizeJ p.js + sizeQ p.dq + p.ran.length + p.dn.length + p.lf.length + p.sm.length + p.vl.length ≤ 1048576 := hz
  have hq : sizeQ p.dq = p.dq.length + (lensQ p.dq).sum := rfl
  have hb0 := below1 w (Obj.cells #[x.L, x.D, x.R, x.N, x.F, x.M, x.V] 28)
  have X0 := hide (Blk.new w 28 #[x.L, x.D, x.R, x.N, x.F, x.M, x.V])
  obtain ⟨w0, hw0⟩ : ∃ w0, w0 = w.alloc (Obj.cells #[x.L, x.D, x.R, x.N, x.F, x.M, x.V] 28) := ⟨_, rfl⟩
  rw [← hw0] at hb0 X0
  have hfq : f w.heap.size = 0 := by
    by_cases e : f w.heap.size = 0
    · exact e
    · have := hf _ e; omega
  obtain ⟨q, hqq⟩ : ∃ q, q = w.heap.size := ⟨_, rfl⟩
  rw [← hqq] at X0 hfq
  have O := hO.next hb0
  have P0 := hide O.jobs
  have P1 := hide O.rows
  have P2 := hide O.ran
  have P3 := hide O.dn
  have P4 := hide O.lf
  have P5 := hide O.sm
  have P6 := hide O.vl
  have C0 := hide (show Chg (fun b => f b ≠ 0) w w0 from Chg.of_below hb0)
  obtain ⟨A0, c0, v0⟩ := O.jobs.form
  obtain ⟨A1, c1, v1⟩ := O.rows.heads.form
  obtain ⟨A2, c2, v2⟩ := O.ran.form
  obtain ⟨A3, c3, v3⟩ := O.dn.form
  obtain ⟨A4, c4, v4⟩ := O.lf.form
  obtain ⟨A5, c5, v5⟩ := O.sm.form
  obtain ⟨A6, c6, v6⟩ := O.vl.form
  obtain ⟨k0, hk0⟩ : ∃ k0, k0 = k := ⟨_, rfl⟩
  obtain ⟨k1, hk1⟩ : ∃ y, y = k0 + sizeJ p.js := ⟨_, rfl⟩
  obtain ⟨k2, hk2⟩ : ∃ y, y = k1 + (lensQ p.dq).sum := ⟨_, rfl⟩
  obtain ⟨k3, hk3⟩ : ∃ y, y = k2 + p.ran.length := ⟨_, rfl⟩
  obtain ⟨k4, hk4⟩ : ∃ y, y = k3 + p.dn.length := ⟨_, rfl⟩
  obtain ⟨k5, hk5⟩ : ∃ y, y = k4 + p.lf.length := ⟨_, rfl⟩
  obtain ⟨k6, hk6⟩ : ∃ y, y = k5 + p.sm.length := ⟨_, rfl⟩
  obtain ⟨k7, hk7⟩ : ∃ y, y = k6 + p.vl.length := ⟨_, rfl⟩
  have hbd : k0 ≤ 3145728 ∧ k1 ≤ 3145728 ∧ k2 ≤ 3145728 ∧ k3 ≤ 3145728 ∧ k4 ≤ 3145728 ∧ k5 ≤ 3145728 ∧ k6 ≤ 3145728 ∧ k7 ≤ 3145728 := ⟨by omega, by omega, by omega, by omega, by omega, by omega, by omega, by omega⟩
  have hkk := hide (show k7 = k + poolMarks p by unfold poolMarks; omega)
  have hMP : markP k p = ⟨midJobs k0 p.js p.js.length, midQ k1 p.dq p.dq.length, marksB k2 p.ran.length, marksB k3 p.dn.length, marks k4 p.lf.length, marks k5 p.sm.length, marks k6 p.vl.length⟩ := by
    rw [hk6, hk5, hk4, hk3, hk2, hk1, hk0]; rfl
  rw [hMP]
  unfold PV.cells
  rw [← hk0]
  obtain ⟨b0, b1, b2, b3, b4, b5, b6, b7⟩ := hbd
  have hJ : sizeJ p.js ≤ 1048576 := by omega
  have hQ : sizeQ p.dq ≤ 1048576 := by omega
  have n2 : p.ran.length ≤ 1048576 := by omega
  have n3 : p.dn.length ≤ 1048576 := by omega
  have n4 : p.lf.length ≤ 1048576 := by omega
  have n5 : p.sm.length ≤ 1048576 := by omega
  have n6 : p.vl.length ≤ 1048576 := by omega
  have hk0b : k0 ≤ 2097152 := by omega
  clear hMP hq hsz hz O hO hb0
  replace hf := hide hf
  replace hk0 := hide hk0
  replace hk1 := hide hk1
  replace hk2 := hide hk2
  replace hk3 := hide hk3
  replace hk4 := hide hk4
  replace hk5 := hide hk5
  replace hk6 := hide hk6
  replace hk7 := hide hk7
  replace v0 := hide v0
  replace v1 := hide v1
  replace v2 := hide v2
  replace v3 := hide v3
  replace v4 := hide v4
  replace v5 := hide v5
  replace v6 := hide v6
  go_enter Try.func42, Try.ntmps42
  go_upto_region 1 with fail
  rw [← hw0, ← hqq]
  clear hw0 hqq
  obtain ⟨⟨x0, x1, x2, x3, x4, x5, x6⟩, xl⟩ := box7 X0.out
  rw [v0.out] at x0
  have kc := markJobS_o k0 w0 hJ hk0b P0.out
  rw [v0.out, ← hk1.out] at kc
  replace kc := hide kc
  go_upto_region 2 with (go_at_call 41; refine kc.out.mono ?_; rintro e y1 ⟨rfl, hN, hs, ⟨ho1, ho2, ho3⟩, hfr⟩; replace hN := hide hN; have D := hide (show Chg (fun b => (f b = 1 ∨ (8 ≤ f b ∧ f b % 2 = 0))) w0 y1 from ⟨ho1, ho2, ho3, hs, fun b hb hn => hfr b hb (fun e => hn e.1)⟩); clear hs ho1 ho2 ho3 hfr)
  replace hN := hN.out
  rw [← v0.out] at hN
  replace D := D.out
  have P0 := hide hN
  have P1 := hide (P1.out.chg D (fun b hb => by omega))
  have P2 := hide (P2.out.chg D (fun b hb => by omega))
  have P3 := hide (P3.out.chg D (fun b hb => by omega))
  have P4 := hide (P4.out.chg D (fun b hb => by omega))
  have P5 := hide (P5.out.chg D (fun b hb => by omega))
  have P6 := hide (P6.out.chg D (fun b hb => by omega))
  have X1 := hide (X0.out.chg D (by omega))
  have C1 := hide (C0.out.trans (D.mono (fun b _ h => by omega)))
  clear X0 C0 D hN kc x0 x1 x2 x3 x4 x5 x6 xl 
  obtain ⟨⟨x0, x1, x2, x3, x4, x5, x6⟩, xl⟩ := box7 X1.out
  rw [v1.out] at x1
  have kc := markRowS_o k1 y1 hQ (by omega) P1.out
  rw [v1.out, ← hk2.out] at kc
  replace kc := hide kc
  go_upto_region 3 with (go_at_call 84; refine kc.out.mono ?_; rintro e y2 ⟨rfl, hN, hs, ⟨ho1, ho2, ho3⟩, hfr⟩; replace hN := hide hN; have D := hide (show Chg (fun b => (9 ≤ f b ∧ f b % 2 = 1)) y1 y2 from ⟨ho1, ho2, ho3, hs, fun b hb hn => hfr b hb (fun e => hn e.1)⟩); clear hs ho1 ho2 ho3 hfr)
  replace hN := hN.out
  rw [← v1.out] at hN
  replace D := D.out
  have P0 := hide (P0.out.chg D (fun b hb => by omega))
  have P1 := hide hN
  have P2 := hide (P2.out.chg D (fun b hb => by omega))
  have P3 := hide (P3.out.chg D (fun b hb => by omega))
  have P4 := hide (P4.out.chg D (fun b hb => by omega))
  have P5 := hide (P5.out.chg D (fun b hb => by omega))
  have P6 := hide (P6.out.chg D (fun b hb => by omega))
  have X2 := hide (X1.out.chg D (by omega))
  have C2 := hide (C1.out.trans (D.mono (fun b _ h => by omega)))
  clear X1 C1 D hN kc x0 x1 x2 x3 x4 x5 x6 xl 
  obtain ⟨⟨x0, x1, x2, x3, x4, x5, x6⟩, xl⟩ := box7 X2.out
  rw [v2.out] at x2
  have kc := markBoolS_sl k2 y2 n2 (by omega) P2.out
  rw [v2.out, ← hk3.out] at kc
  replace kc := hide kc
  go_upto_region 4 with (go_at_call 85; refine kc.out.mono ?_; rintro e y3 ⟨rfl, hN, hL⟩; replace hN := hide hN; have D := hide (show Chg (fun b => f b = 3) y2 y3 from Chg.of_lab hL); clear hL)
  replace hN := hN.out
  rw [← v2.out] at hN
  replace D := D.out
  have P0 := hide (P0.out.chg D (fun b hb => by omega))
  have P1 := hide (P1.out.chg D (fun b hb => by omega))
  have P2 := hide hN
  have P3 := hide (P3.out.chg D (fun b hb => by omega))
  have P4 := hide (P4.out.chg D (fun b hb => by omega))
  have P5 := hide (P5.out.chg D (fun b hb => by omega))
  have P6 := hide (P6.out.chg D (fun b hb => by omega))
  have X3 := hide (X2.out.chg D (by omega))
  have C3 := hide (C2.out.trans (D.mono (fun b _ h => by omega)))
  clear X2 C2 D hN kc x0 x1 x2 x3 x4 x5 x6 xl 
  obtain ⟨⟨x0, x1, x2, x3, x4, x5, x6⟩, xl⟩ := box7 X3.out
  rw [v3.out] at x3
  have kc := markBoolS_sl k3 y3 n3 (by omega) P3.out
  rw [v3.out, ← hk4.out] at kc
  replace kc := hide kc
  go_upto_region 5 with (go_at_call 85; refine kc.out.mono ?_; rintro e y4 ⟨rfl, hN, hL⟩; replace hN := hide hN; have D := hide (show Chg (fun b => f b = 4) y3 y4 from Chg.of_lab hL); clear hL)
  replace hN := hN.out
  rw [← v3.out] at hN
  replace D := D.out
  have P0 := hide (P0.out.chg D (fun b hb => by omega))
  have P1 := hide (P1.out.chg D (fun b hb => by omega))
  have P2 := hide (P2.out.chg D (fun b hb => by omega))
  have P3 := hide hN
  have P4 := hide (P4.out.chg D (fun b hb => by omega))
  have P5 := hide (P5.out.chg D (fun b hb => by omega))
  have P6 := hide (P6.out.chg D (fun b hb => by omega))
  have X4 := hide (X3.out.chg D (by omega))
  have C4 := hide (C3.out.trans (D.mono (fun b _ h => by omega)))
  clear X3 C3 D hN kc x0 x1 x2 x3 x4 x5 x6 xl 
  obtain ⟨⟨x0, x1, x2, x3, x4, x5, x6⟩, xl⟩ := box7 X4.out
  rw [v4.out] at x4
  have kc := markIntS_sl k4 y4 n4 (by omega) P4.out
  rw [v4.out, ← hk5.out] at kc
  replace kc := hide kc
  go_upto_region 6 with (go_at_call 83; refine kc.out.mono ?_; rintro e y5 ⟨rfl, hN, hL⟩; replace hN := hide hN; have D := hide (show Chg (fun b => f b = 5) y4 y5 from Chg.of_lab hL); clear hL)
  replace hN := hN.out
  rw [← v4.out] at hN
  replace D := D.out
  have P0 := hide (P0.out.chg D (fun b hb => by omega))
  have P1 := hide (P1.out.chg D (fun b hb => by omega))
  have P2 := hide (P2.out.chg D (fun b hb => by omega))
  have P3 := hide (P3.out.chg D (fun b hb => by omega))
  have P4 := hide hN
  have P5 := hide (P5.out.chg D (fun b hb => by omega))
  have P6 := hide (P6.out.chg D (fun b hb => by omega))
  have X5 := hide (X4.out.chg D (by omega))
  have C5 := hide (C4.out.trans (D.mono (fun b _ h => by omega)))
  clear X4 C4 D hN kc x0 x1 x2 x3 x4 x5 x6 xl 
  obtain ⟨⟨x0, x1, x2, x3, x4, x5, x6⟩, xl⟩ := box7 X5.out
  rw [v5.out] at x5
  have kc := markIntS_sl k5 y5 n5 (by omega) P5.out
  rw [v5.out, ← hk6.out] at kc
  replace kc := hide kc
  go_upto_region 7 with (go_at_call 83; refine kc.out.mono ?_; rintro e y6 ⟨rfl, hN, hL⟩; replace hN := hide hN; have D := hide (show Chg (fun b => f b = 6) y5 y6 from Chg.of_lab hL); clear hL)
  replace hN := hN.out
  rw [← v5.out] at hN
  replace D := D.out
  have P0 := hide (P0.out.chg D (fun b hb => by omega))
  have P1 := hide (P1.out.chg D (fun b hb => by omega))
  have P2 := hide (P2.out.chg D (fun b hb => by omega))
  have P3 := hide (P3.out.chg D (fun b hb => by omega))
  have P4 := hide (P4.out.chg D (fun b hb => by omega))
  have P5 := hide hN
  have P6 := hide (P6.out.chg D (fun b hb => by omega))
  have X6 := hide (X5.out.chg D (by omega))
  have C6 := hide (C5.out.trans (D.mono (fun b _ h => by omega)))
  clear X5 C5 D hN kc x0 x1 x2 x3 x4 x5 x6 xl 
  obtain ⟨⟨x0, x1, x2, x3, x4, x5, x6⟩, xl⟩ := box7 X6.out
  rw [v6.out] at x6
  have kc := markIntS_sl k6 y6 n6 (by omega) P6.out
  rw [v6.out, ← hk7.out] at kc
  replace kc := hide kc
  go_upto_region 8 with (go_at_call 83; refine kc.out.mono ?_; rintro e y7 ⟨rfl, hN, hL⟩; replace hN := hide hN; have D := hide (show Chg (fun b => f b = 7) y6 y7 from Chg.of_lab hL); clear hL)
  replace hN := hN.out
  rw [← v6.out] at hN
  replace D := D.out
  have P0 := hide (P0.out.chg D (fun b hb => by omega))
  have P1 := hide (P1.out.chg D (fun b hb => by omega))
  have P2 := hide (P2.out.chg D (fun b hb => by omega))
  have P3 := hide (P3.out.chg D (fun b hb => by omega))
  have P4 := hide (P4.out.chg D (fun b hb => by omega))
  have P5 := hide (P5.out.chg D (fun b hb => by omega))
  have P6 := hide hN
  have X7 := hide (X6.out.chg D (by omega))
  have C7 := hide (C6.out.trans (D.mono (fun b _ h => by omega)))
  clear X6 C6 D hN kc x0 x1 x2 x3 x4 x5 x6 xl 
  go_wp2_with fail
  go_ret
  refine ⟨ret_int (by have := hkk.out; have := hk0.out; omega), ⟨f, ⟨?_, ?_, ?_, ?_, ?_, ?_, ?_⟩, hf.out⟩, C7.out.inn hf.out⟩
  · exact P0.out
  · exact P1.out
  · show Sl _ 1 _ f 3 lo x.R (marksB k2 p.ran.length).length _
    rw [marksB_len]
    exact P2.out.congr (fun j hj => by show Value.bool (getb (marksB k2 p.ran.length) j) = _; rw [marksB_get (by omega)])
  · show Sl _ 1 _ f 4 lo x.N (marksB k3 p.dn.length).length _
    rw [marksB_len]
    exact P3.out.congr (fun j hj => by show Value.bool (getb (marksB k3 p.dn.length) j) = _; rw [marksB_get (by omega)])
  · show Sl _ 1 _ f 5 lo x.F (marks k4 p.lf.length).length _
    rw [marks_len]
    exact P4.out.congr (fun j hj => by show Value.int .i64 (geti (marks k4 p.lf.length) j) = _; rw [marks_get _ _ _ (by omega)])
  · show Sl _ 1 _ f 6 lo x.M (marks k5 p.sm.length).length _
    rw [marks_len]
    exact P5.out.congr (fun j hj => by show Value.int .i64 (geti (marks k5 p.sm.length) j) = _; rw [marks_get _ _ _ (by omega)])
  · show Sl _ 1 _ f 7 lo x.V (marks k6 p.vl.length).length _
    rw [marks_len]
    exact P6.out.congr (fun j hj => by show Value.int .i64 (geti (marks k6 p.vl.length) j) = _; rw [marks_get _ _ _ (by omega)])

set_option maxRecDepth 100000 in
set_option maxHeartbeats 12800000 in
theorem heldPool_o {lo hi : Nat} {x : PV} {p : PoolD} (k : Nat) (w : World) (hz : poolSize p ≤ 1048576) (hk : k ≤ 2097152) (h : PoolI w lo hi x (markP k p)) :
    Calls Try.prog 43 #[.agg x.cells, .int .i64 k] w fun e w' => e = .returned (.int .i64 ((k + poolMarks p : Nat) : Int)) ∧ Below w.heap.size w w' := by
  obtain ⟨a, ea, ha⟩ := h.at_
  rw [ea]
  unfold PA.cells
  have e0 : (markP k p).js.length = p.js.length := midJobs_len _ _ _
  have e1 : (markP k p).dq.length = p.dq.length := midQ_len _ _ _
  have e2 : (markP k p).ran.length = p.ran.length := marksB_len _ _
  have e3 : (markP k p).dn.length = p.dn.length := marksB_len _ _
  have e4 : (markP k p).lf.length = p.lf.length := marks_len _ _
  have e5 : (markP k p).sm.length = p.sm.length := marks_len _ _
  have e6 : (markP k p).vl.length = p.vl.length := marks_len _ _
  rw [e0, e1, e2, e3, e4, e5, e6]
  have hsz : sizeJ p.js + sizeQ p.dq + p.ran.length + p.dn.length + p.lf.length + p.sm.length + p.vl.length ≤ 1048576 := hz
  have hq : sizeQ p.dq = p.dq.length + (lensQ p.dq).sum := rfl
  have hb0 := below1 w (Obj.cells #[.slice a.A0 p.js.length a.c0, .slice a.A1 p.dq.length a.c1, .slice a.A2 p.ran.length a.c2, .slice a.A3 p.dn.length a.c3, .slice a.A4 p.lf.length a.c4, .slice a.A5 p.sm.length a.c5, .slice a.A6 p.vl.length a.c6] 28)
  have X0 := hide (Blk.new w 28 #[.slice a.A0 p.js.length a.c0, .slice a.A1 p.dq.length a.c1, .slice a.A2 p.ran.length a.c2, .slice a.A3 p.dn.length a.c3, .slice a.A4 p.lf.length a.c4, .slice a.A5 p.sm.length a.c5, .slice a.A6 p.vl.length a.c6])
  obtain ⟨w0, hw0⟩ : ∃ w0, w0 = w.alloc (Obj.cells #[.slice a.A0 p.js.length a.c0, .slice a.A1 p.dq.length a.c1, .slice a.A2 p.ran.length a.c2, .slice a.A3 p.dn.length a.c3, .slice a.A4 p.lf.length a.c4, .slice a.A5 p.sm.length a.c5, .slice a.A6 p.vl.length a.c6] 28) := ⟨_, rfl⟩
  rw [← hw0] at hb0 X0
  obtain ⟨q, hqq⟩ : ∃ q, q = w.heap.size := ⟨_, rfl⟩
  rw [← hqq] at X0
  have H := ha.below hb0 (fun _ h => h)
  have hS : ∀ b, Old w.heap.size b → b < w0.heap.size := fun b h => Nat.lt_of_lt_of_le h hb0.size
  obtain ⟨k0, hk0⟩ : ∃ k0, k0 = k := ⟨_, rfl⟩
  obtain ⟨k1, hk1⟩ : ∃ y, y = k0 + sizeJ p.js := ⟨_, rfl⟩
  obtain ⟨k2, hk2⟩ : ∃ y, y = k1 + (lensQ p.dq).sum := ⟨_, rfl⟩
  obtain ⟨k3, hk3⟩ : ∃ y, y = k2 + p.ran.length := ⟨_, rfl⟩
  obtain ⟨k4, hk4⟩ : ∃ y, y = k3 + p.dn.length := ⟨_, rfl⟩
  obtain ⟨k5, hk5⟩ : ∃ y, y = k4 + p.lf.length := ⟨_, rfl⟩
  obtain ⟨k6, hk6⟩ : ∃ y, y = k5 + p.sm.length := ⟨_, rfl⟩
  obtain ⟨k7, hk7⟩ : ∃ y, y = k6 + p.vl.length := ⟨_, rfl⟩
  have hbd : k0 ≤ 3145728 ∧ k1 ≤ 3145728 ∧ k2 ≤ 3145728 ∧ k3 ≤ 3145728 ∧ k4 ≤ 3145728 ∧ k5 ≤ 3145728 ∧ k6 ≤ 3145728 ∧ k7 ≤ 3145728 := ⟨by omega, by omega, by omega, by omega, by omega, by omega, by omega, by omega⟩
  have hkk := hide (show k7 = k + poolMarks p by unfold poolMarks; omega)
  have hMP : markP k p = ⟨midJobs k0 p.js p.js.length, midQ k1 p.dq p.dq.length, marksB k2 p.ran.length, marksB k3 p.dn.length, marks k4 p.lf.length, marks k5 p.sm.length, marks k6 p.vl.length⟩ := by
    rw [hk6, hk5, hk4, hk3, hk2, hk1, hk0]; rfl
  rw [hMP] at H
  obtain ⟨q0, q1, q2, q3, q4, q5, q6⟩ := H
  dsimp only at q0 q1 q2 q3 q4 q5 q6
  have hB : ∀ {A : Option Addr} {m n : Nat}, BlsAt w0 (Old w.heap.size) A (marksB m n) → 0 < n → ∃ b off, A = some ⟨b, off, none⟩ ∧ Old w.heap.size b ∧ ∀ j, j < n → w0.cell? ⟨b, off + j, none⟩ = some (.bool (mkB (m + j))) := fun {A m n} h hp => by
    obtain ⟨b, off, e, h1, h2⟩ := h.2 (by rw [marksB_len]; exact hp)
    exact ⟨b, off, e, h1, fun j hj => by rw [h2 j (by rw [marksB_len]; exact hj), marksB_get hj]⟩
  rw [← hk0]
  obtain ⟨b0, b1, b2, b3, b4, b5, b6, b7⟩ := hbd
  have kc0 := heldJobS_o a.A0 p.js a.c0 k0 _ w0 (by omega) (by omega) hS q0
  have kc1 := heldRowS_o a.A1 p.dq a.c1 k1 _ w0 (by omega) (by omega) hS q1
  have kc2 := heldBoolS_any a.A2 p.ran.length a.c2 k2 _ w0 (by omega) (by omega) (hB q2)
  have kc3 := heldBoolS_any a.A3 p.dn.length a.c3 k3 _ w0 (by omega) (by omega) (hB q3)
  have kc4 := heldIntS_any a.A4 p.lf.length a.c4 k4 _ w0 (by omega) (by omega) hS q4
  have kc5 := heldIntS_any a.A5 p.sm.length a.c5 k5 _ w0 (by omega) (by omega) hS q5
  have kc6 := heldIntS_any a.A6 p.vl.length a.c6 k6 _ w0 (by omega) (by omega) hS q6
  rw [← hk1] at kc0
  replace kc0 := hide kc0
  rw [← hk2] at kc1
  replace kc1 := hide kc1
  rw [← hk3] at kc2
  replace kc2 := hide kc2
  rw [← hk4] at kc3
  replace kc3 := hide kc3
  rw [← hk5] at kc4
  replace kc4 := hide kc4
  rw [← hk6] at kc5
  replace kc5 := hide kc5
  rw [← hk7] at kc6
  replace kc6 := hide kc6
  have z1 : (0 : Int) ≤ (k1 : Int) := by omega
  have z2 : (0 : Int) ≤ (k2 : Int) := by omega
  have z3 : (0 : Int) ≤ (k3 : Int) := by omega
  have z4 : (0 : Int) ≤ (k4 : Int) := by omega
  have z5 : (0 : Int) ≤ (k5 : Int) := by omega
  have z6 : (0 : Int) ≤ (k6 : Int) := by omega
  have z7 : (0 : Int) ≤ (k7 : Int) := by omega
  obtain ⟨⟨x0, x1, x2, x3, x4, x5, x6⟩, xl⟩ := box7 X0.out
  replace hb0 := hide hb0
  replace hk0 := hide hk0
  clear hMP hq hsz hz q0 q1 q2 q3 q4 q5 q6 hS hB ha e0 e1 e2 e3 e4 e5 e6 h ea hk1 hk2 hk3 hk4 hk5 hk6 hk7
  go_enter Try.func43, Try.ntmps43
  go_upto_region 1 with fail
  rw [← hw0, ← hqq]
  clear hw0 hqq
  go_upto_region 4 with (go_at_call 86; refine kc0.out.mono ?_; rintro e w1 ⟨rfl, rfl⟩)
  go_upto_region 7 with (go_at_call 87; refine kc1.out.mono ?_; rintro e w1 ⟨rfl, rfl⟩)
  go_upto_region 10 with (go_at_call 88; refine kc2.out.mono ?_; rintro e w1 ⟨rfl, rfl⟩)
  go_upto_region 13 with (go_at_call 88; refine kc3.out.mono ?_; rintro e w1 ⟨rfl, rfl⟩)
  go_upto_region 16 with (go_at_call 89; refine kc4.out.mono ?_; rintro e w1 ⟨rfl, rfl⟩)
  go_upto_region 19 with (go_at_call 89; refine kc5.out.mono ?_; rintro e w1 ⟨rfl, rfl⟩)
  go_wp2_with (go_at_call 89; refine kc6.out.mono ?_; rintro e w1 ⟨rfl, rfl⟩)
  go_ret
  exact ⟨ret_int (by have := hkk.out; have := hk0.out; omega), hb0.out⟩
end Go.Proofs.Ytfnphnjadknoaaa

namespace Go.Proofs.Ytfnphnjadknoaaa
open Go.RowKit

theorem toPoolA (a : PA) (p : PoolD) (S : Nat → Prop) (w : World) (hz : poolSize p ≤ 1048576) (hS : ∀ b, S b → b < w.heap.size) (ha : PoolAt w S a p) :
    Calls Try.prog 45 #[.agg #[.slice a.A0 p.js.length a.c0, .slice a.A1 p.dq.length a.c1, .slice a.A2 p.ran.length a.c2, .slice a.A3 p.dn.length a.c3, .slice a.A4 p.lf.length a.c4, .slice a.A5 p.sm.length a.c5, .slice a.A6 p.vl.length a.c6]] w fun e w' => ∃ a' : PA, e = .returned (.agg #[.slice a'.A0 p.js.length a'.c0, .slice a'.A1 p.dq.length a'.c1, .slice a'.A2 p.ran.length a'.c2, .slice a'.A3 p.dn.length a'.c3, .slice a'.A4 p.lf.length a'.c4, .slice a'.A5 p.sm.length a'.c5, .slice a'.A6 p.vl.length a'.c6]) ∧ PoolAt w' (Old w'.heap.size) a' p ∧ Below w.heap.size w w' := by
  refine (toPool_any a p S w hz hS ha).mono ?_
  rintro e w' ⟨x, f, rfl, h, hb, -⟩
  obtain ⟨a', e', h'⟩ := h.at_
  exact ⟨a', by rw [e']; rfl, h'.more (fun _ k => k.2), hb⟩
theorem two7 {w : World} {g q : Nat} {t u : TypeId} {a0 a1 a2 a3 a4 a5 a6 b0 b1 b2 b3 b4 b5 b6 : Value} (h : Blk w g t #[a0, a1, a2, a3, a4, a5, a6]) (k : Blk w q u #[b0, b1, b2, b3, b4, b5, b6]) :
    w.cell? ⟨g, 0, none⟩ = some a0 ∧ w.cell? ⟨g, 1, none⟩ = some a1 ∧ w.cell? ⟨g, 2, none⟩ = some a2 ∧ w.cell? ⟨g, 3, none⟩ = some a3 ∧ w.cell? ⟨g, 4, none⟩ = some a4 ∧ w.cell? ⟨g, 5, none⟩ = some a5 ∧ w.cell? ⟨g, 6, none⟩ = some a6 ∧ w.cell? ⟨q, 0, none⟩ = some b0 ∧ w.cell? ⟨q, 1, none⟩ = some b1 ∧ w.cell? ⟨q, 2, none⟩ = some b2 ∧ w.cell? ⟨q, 3, none⟩ = some b3 ∧ w.cell? ⟨q, 4, none⟩ = some b4 ∧ w.cell? ⟨q, 5, none⟩ = some b5 ∧ w.cell? ⟨q, 6, none⟩ = some b6 :=
  ⟨h.cell 0, h.cell 1, h.cell 2, h.cell 3, h.cell 4, h.cell 5, h.cell 6, k.cell 0, k.cell 1, k.cell 2, k.cell 3, k.cell 4, k.cell 5, k.cell 6⟩
theorem poolSize_le {p : PoolD} (h : poolSize p ≤ 1048576) : (∀ k, (getj p.js k).ks.length ≤ 1048576) ∧ sizeQ p.dq ≤ 1048576 := by
  unfold poolSize at h
  exact ⟨fun k => Nat.le_trans (sizeJ_kids k) (by omega), by omega⟩
end Go.Proofs.Ytfnphnjadknoaaa
