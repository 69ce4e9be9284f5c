/- The program's copies of one row, of one job. -/
import Derived.Test.YtmhldlpjiepmpaaClJ
import Derived.Test.YtmhldlpjiepmpaaPoT
namespace Go.Proofs.Ytmhldlpjiepmpaa
open Go.RowKit

set_option maxRecDepth 100000 in
set_option maxHeartbeats 1600000 in
theorem rowCopied_any (l B : Nat) (hl : l ≠ 0) (f0 : Nat → Nat) (A : Option Addr) (n c : Nat) (g : Nat → Value) (w : World) (hn : n ≤ 1048576) (hB : B ≤ w.heap.size) (ha : CellsAt w A (n * 1) g) :
    Calls Try.prog 147 #[.agg #[.slice A n c]] w fun e w' => ∃ v f, e = .returned (.agg #[v]) ∧ Sl 3 1 w' f l B v n g ∧ Below w.heap.size w w' ∧ ∀ b, b < w.heap.size → f b = f0 b := by
  have hb0 := below2 w (Obj.cells #[.slice A n c] 35) (Obj.cells #[.slice none 0 0] 35)
  have X0 := (Blk.new w 35 #[.slice A n c]).alloc (Obj.cells #[.slice none 0 0] 35)
  have R0 := Blk.new (w.alloc (Obj.cells #[.slice A n c] 35)) 35 #[.slice none 0 0]
  simp only [World.size_alloc] at R0
  obtain ⟨w0, hw0⟩ : ∃ w0, w0 = (w.alloc (Obj.cells #[.slice A n c] 35)).alloc (Obj.cells #[.slice none 0 0] 35) := ⟨_, rfl⟩
  have hs0 : w0.heap.size = w.heap.size + 1 + 1 := by rw [hw0]; simp
  rw [← hw0] at hb0 X0 R0
  have kC := hide (cloneInt_sl l B (fun b => if b < w.heap.size then f0 b else 0) A n c g w0 hn (by omega) (ha.next hb0))
  have x0 := X0.cell 0
  simp only [List.getElem?_toArray, List.getElem?_cons_zero] at x0
  replace R0 := hide R0
  replace hb0 := hide hb0
  replace hs0 := hide hs0
  clear ha X0
  go_enter Try.func147, Try.ntmps147
  go_upto_region 1 with fail
  rw [← hw0]
  clear hw0
  go_wp2_with (go_at_call 108; refine kC.out.mono ?_; rintro e w1 ⟨v, f, rfl, hS, hb1, hf⟩; have hR1 := R0.out.below hb1 R0.out.lt; have r0 := hR1.cell 0; have z0 := hR1.frozen 0; simp only [List.getElem?_toArray, List.getElem?_cons_zero] at r0; obtain ⟨Av, cv, ev⟩ := hS.form; subst ev; replace hS := hide hS; replace hb1 := hide hb1; replace hf := hide hf; clear hR1)
  refine bodyPost_ret (v := .agg #[.slice Av n cv]) (by simp [results, Try.results147, go_sem, r0]; done) rfl ⟨_, f, rfl, hS.out.set0 hl ?_ _, (below_then hb0.out hb1.out).setCell (by show w.heap.size ≤ w.heap.size + 1; omega) _, fun b hb => ?_⟩
  · show f (w.heap.size + 1) = 0
    rw [hf.out _ (by have := hs0.out; omega)]
    exact if_neg (by omega)
  · rw [hf.out b (by have := hs0.out; omega)]
    exact if_pos hb

set_option maxRecDepth 100000 in
set_option maxHeartbeats 1600000 in
theorem jobCopied_any (l B : Nat) (hl : l ≠ 0) (f0 : Nat → Nat) (z : Int) (A : Option Addr) (n c : Nat) (g : Nat → Value) (w : World) (hn : n ≤ 1048576) (hB : B ≤ w.heap.size) (ha : CellsAt w A (n * 1) g) :
    Calls Try.prog 148 #[.agg #[.int .i64 z, .slice A n c]] w fun e w' => ∃ v f, e = .returned (.agg #[.int .i64 z, v]) ∧ Sl 3 1 w' f l B v n g ∧ Below w.heap.size w w' ∧ ∀ b, b < w.heap.size → f b = f0 b := by
  have hb0 := below2 w (Obj.cells #[.int .i64 z, .slice A n c] 42) (Obj.cells #[.int .i64 0, .slice none 0 0] 42)
  have X0 := (Blk.new w 42 #[.int .i64 z, .slice A n c]).alloc (Obj.cells #[.int .i64 0, .slice none 0 0] 42)
  have R0 := Blk.new (w.alloc (Obj.cells #[.int .i64 z, .slice A n c] 42)) 42 #[.int .i64 0, .slice none 0 0]
  simp only [World.size_alloc] at R0
  obtain ⟨w0, hw0⟩ : ∃ w0, w0 = (w.alloc (Obj.cells #[.int .i64 z, .slice A n c] 42)).alloc (Obj.cells #[.int .i64 0, .slice none 0 0] 42) := ⟨_, rfl⟩
  have hs0 : w0.heap.size = w.heap.size + 1 + 1 := by rw [hw0]; simp
  rw [← hw0] at hb0 X0 R0
  have kC := hide (cloneInt_sl l B (fun b => if b < w.heap.size then f0 b else 0) A n c g w0 hn (by omega) (ha.next hb0))
  have x1 := X0.cell 1
  simp only [List.getElem?_toArray, List.getElem?_cons_zero, List.getElem?_cons_succ] at x1
  replace R0 := hide R0
  replace X0 := hide X0
  replace hb0 := hide hb0
  replace hs0 := hide hs0
  clear ha
  go_enter Try.func148, Try.ntmps148
  go_upto_region 1 with fail
  rw [← hw0]
  clear hw0
  go_wp2_with (go_at_call 108; refine kC.out.mono ?_; rintro e w1 ⟨v, f, rfl, hS, hb1, hf⟩; have hR1 := R0.out.below hb1 R0.out.lt; have hX1 := X0.out.below hb1 X0.out.lt; have r0 := hR1.cell 0; have r1 := hR1.cell 1; have z0 := hR1.frozen 0; have z1 := hR1.frozen 1; have y0 := hX1.cell 0; have y1 := hX1.cell 1; have u1 := hX1.frozen 1; simp only [List.getElem?_toArray, List.getElem?_cons_zero, List.getElem?_cons_succ] at r0 r1 y0 y1; obtain ⟨Av, cv, ev⟩ := hS.form; subst ev; replace hS := hide hS; replace hb1 := hide hb1; replace hf := hide hf; clear hR1 hX1)
  have hf1 : f (w.heap.size + 1) = 0 := by
    rw [hf.out _ (by have := hs0.out; omega)]
    exact if_neg (by omega)
  have hf2 : f w.heap.size = 0 := by
    rw [hf.out _ (by have := hs0.out; omega)]
    exact if_neg (by omega)
  refine bodyPost_ret (v := .agg #[.int .i64 z, .slice Av n cv]) (by simp [results, Try.results148, go_sem, r0, r1]; done) rfl ⟨_, f, rfl, ?_, ?_, fun b hb => ?_⟩
  · iterate 3 (refine Sl.set0 ?_ hl (by first | exact hf1 | exact hf2) _)
    exact hS.out
  · iterate 3 (refine Below.setCell ?_ (by first | (show w.heap.size ≤ w.heap.size + 1; omega) | (show w.heap.size ≤ w.heap.size; omega)) _)
    exact below_then hb0.out hb1.out
  · rw [hf.out b (by have := hs0.out; omega)]
    exact if_pos hb
end Go.Proofs.Ytmhldlpjiepmpaa
