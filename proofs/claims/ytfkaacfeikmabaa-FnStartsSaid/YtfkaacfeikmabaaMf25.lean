/- The program's stateOf: a state of its kind's type. -/
import Derived.Test.YtfkaacfeikmabaaMf0
import Derived.Test.YtfkaacfeikmabaaMf12
import Derived.BigRegion
namespace Go.Proofs.Ytfkaacfeikmabaa
open Go.RowKit

set_option maxRecDepth 100000 in
set_option maxHeartbeats 1600000 in
theorem comState_any (A1 A2 Ap Af : Option Addr) (n1 n2 np nf c1 c2 cp cf : Nat) (kd : Int) (w : World) :
    Calls Try.prog 147 #[.agg #[.slice A1 n1 c1, .slice A2 n2 c2, .slice Ap np cp, .slice Af nf cf], .int .i64 kd] w fun e w' => e = .returned (.agg #[.int .i64 kd, .slice Ap np cp, .slice Af nf cf, .slice none 0 0, .slice none 0 0, .slice none 0 0, .slice none 0 0, .slice none 0 0, .int .i64 0]) ∧ Below w.heap.size w w' := by
  go_enter Try.func147, Try.ntmps147
  go_wp2_with fail
  refine bodyPost_ret (v := .agg #[.int .i64 kd, .slice Ap np cp, .slice Af nf cf, .slice none 0 0, .slice none 0 0, .slice none 0 0, .slice none 0 0, .slice none 0 0, .int .i64 0]) (by simp [results, Try.results147, go_sem]) rfl ⟨rfl, ?_⟩
  first | exact below2 _ _ _ | exact (below1 _ _).alloc (by simp) _

set_option maxRecDepth 100000 in
set_option maxHeartbeats 6400000 in
theorem stateOf_0 (T : Nat) (A1 A2 Ap Af Am : Option Addr) (n1 n2 np nf nm c1 c2 cp cf cm : Nat) (w : World) (h : Blk w T 137 #[.slice A1 n1 c1, .slice A2 n2 c2, .slice Ap np cp, .slice Af nf cf, .slice Am nm cm]) :
    Calls Try.prog 82 #[.iface 133 (.pointer (some ⟨T, 0, none⟩))] w fun e w' => e = .returned (.tuple #[.agg #[.int .i64 0, .slice Ap np cp, .slice Af nf cf, .slice Am nm cm, .slice none 0 0, .slice none 0 0, .slice none 0 0, .slice none 0 0, .int .i64 0], .bool true]) ∧ Below w.heap.size w w' := by
  have hTl := h.lt
  have k0 : w.cell? ⟨T, 0, none⟩ = some (.slice A1 n1 c1) := h.cell 0
  have k1 : w.cell? ⟨T, 1, none⟩ = some (.slice A2 n2 c2) := h.cell 1
  have k2 : w.cell? ⟨T, 2, none⟩ = some (.slice Ap np cp) := h.cell 2
  have k3 : w.cell? ⟨T, 3, none⟩ = some (.slice Af nf cf) := h.cell 3
  have k4 : w.cell? ⟨T, 4, none⟩ = some (.slice Am nm cm) := h.cell 4
  have t0 : ∀ w, (Instr.typeAssert (Value.iface 133 (.pointer (some ⟨T, 0, none⟩))) 20 133 true).run Try.prog w = .ok (.tuple #[.pointer (some ⟨T, 0, none⟩), .bool true]) w := fun _ => by kernel_rfl
  have B0 := hide (below1 w (Obj.cells #[.int .i64 0, .slice none 0 0, .slice none 0 0, .slice none 0 0, .slice none 0 0, .slice none 0 0, .slice none 0 0, .slice none 0 0, .int .i64 0] 48))
  have K0 := hide (Blk.new w 48 #[.int .i64 0, .slice none 0 0, .slice none 0 0, .slice none 0 0, .slice none 0 0, .slice none 0 0, .slice none 0 0, .slice none 0 0, .int .i64 0])
  have h0 := hide (h.alloc (Obj.cells #[.int .i64 0, .slice none 0 0, .slice none 0 0, .slice none 0 0, .slice none 0 0, .slice none 0 0, .slice none 0 0, .slice none 0 0, .int .i64 0] 48))
  clear h
  go_enter Try.func82, Try.ntmps82
  go_wp2_with fail
  refine (comState_any A1 A2 Ap Af n1 n2 np nf c1 c2 cp cf 0 _).mono ?_
  rintro e w1 ⟨rfl, hb1⟩
  have h1 := h0.out.below hb1 h0.out.lt
  have K1 := K0.out.below hb1 K0.out.lt
  have HK1 := hide K1
  have B1 := hide (below_then B0.out hb1)
  have hT1 := h1.lt
  have hR1 := K1.lt
  have hR1s := B1.out.size
  clear k0 k1 k2 k3 k4 B0 K0 h0 hb1
  have k0 : w1.cell? ⟨T, 0, none⟩ = some (.slice A1 n1 c1) := h1.cell 0
  have k1 : w1.cell? ⟨T, 1, none⟩ = some (.slice A2 n2 c2) := h1.cell 1
  have k2 : w1.cell? ⟨T, 2, none⟩ = some (.slice Ap np cp) := h1.cell 2
  have k3 : w1.cell? ⟨T, 3, none⟩ = some (.slice Af nf cf) := h1.cell 3
  have k4 : w1.cell? ⟨T, 4, none⟩ = some (.slice Am nm cm) := h1.cell 4
  have r0 : w1.cell? ⟨w.heap.size, 0, none⟩ = some (.int .i64 0) := K1.cell 0
  have z0 := K1.frozen 0
  have r1 : w1.cell? ⟨w.heap.size, 1, none⟩ = some (.slice none 0 0) := K1.cell 1
  have z1 := K1.frozen 1
  have r2 : w1.cell? ⟨w.heap.size, 2, none⟩ = some (.slice none 0 0) := K1.cell 2
  have z2 := K1.frozen 2
  have r3 : w1.cell? ⟨w.heap.size, 3, none⟩ = some (.slice none 0 0) := K1.cell 3
  have z3 := K1.frozen 3
  have r4 : w1.cell? ⟨w.heap.size, 4, none⟩ = some (.slice none 0 0) := K1.cell 4
  have z4 := K1.frozen 4
  have r5 : w1.cell? ⟨w.heap.size, 5, none⟩ = some (.slice none 0 0) := K1.cell 5
  have z5 := K1.frozen 5
  have r6 : w1.cell? ⟨w.heap.size, 6, none⟩ = some (.slice none 0 0) := K1.cell 6
  have z6 := K1.frozen 6
  have r7 : w1.cell? ⟨w.heap.size, 7, none⟩ = some (.slice none 0 0) := K1.cell 7
  have z7 := K1.frozen 7
  have r8 : w1.cell? ⟨w.heap.size, 8, none⟩ = some (.int .i64 0) := K1.cell 8
  have z8 := K1.frozen 8
  clear h1 K1
  go_wp2_with fail
  obtain ⟨wF, hwF⟩ : ∃ x, x = s2Set w1 w.heap.size (.int .i64 0) (.slice Ap np cp) (.slice Af nf cf) (.slice Am nm cm) (.slice none 0 0) (.slice none 0 0) (.slice none 0 0) (.slice none 0 0) (.int .i64 0) := ⟨_, rfl⟩
  have hF := s2Set_blk HK1.out (v0 := .int .i64 0) (v1 := .slice Ap np cp) (v2 := .slice Af nf cf) (v3 := .slice Am nm cm) (v4 := .slice none 0 0) (v5 := .slice none 0 0) (v6 := .slice none 0 0) (v7 := .slice none 0 0) (v8 := .int .i64 0)
  have hF1 := s2Set_size w1 w.heap.size (.int .i64 0) (.slice Ap np cp) (.slice Af nf cf) (.slice Am nm cm) (.slice none 0 0) (.slice none 0 0) (.slice none 0 0) (.slice none 0 0) (.int .i64 0)
  have hF3 := s2Set_below (w0 := w) B1.out (Nat.le_refl _) (.int .i64 0) (.slice Ap np cp) (.slice Af nf cf) (.slice Am nm cm) (.slice none 0 0) (.slice none 0 0) (.slice none 0 0) (.slice none 0 0) (.int .i64 0)
  rw [← hwF] at hF hF1 hF3
  unfold s2Set at hwF
  rw [← hwF]
  clear hwF
  have hG := hF.alloc (Obj.cells #[.int .i64 0, .slice Ap np cp, .slice Af nf cf, .slice Am nm cm, .slice none 0 0, .slice none 0 0, .slice none 0 0, .slice none 0 0, .int .i64 0] 48)
  have q0 : (wF.alloc (Obj.cells #[.int .i64 0, .slice Ap np cp, .slice Af nf cf, .slice Am nm cm, .slice none 0 0, .slice none 0 0, .slice none 0 0, .slice none 0 0, .int .i64 0] 48)).cell? ⟨w.heap.size, 0, none⟩ = some (.int .i64 0) := hG.cell 0
  have q1 : (wF.alloc (Obj.cells #[.int .i64 0, .slice Ap np cp, .slice Af nf cf, .slice Am nm cm, .slice none 0 0, .slice none 0 0, .slice none 0 0, .slice none 0 0, .int .i64 0] 48)).cell? ⟨w.heap.size, 1, none⟩ = some (.slice Ap np cp) := hG.cell 1
  have q2 : (wF.alloc (Obj.cells #[.int .i64 0, .slice Ap np cp, .slice Af nf cf, .slice Am nm cm, .slice none 0 0, .slice none 0 0, .slice none 0 0, .slice none 0 0, .int .i64 0] 48)).cell? ⟨w.heap.size, 2, none⟩ = some (.slice Af nf cf) := hG.cell 2
  have q3 : (wF.alloc (Obj.cells #[.int .i64 0, .slice Ap np cp, .slice Af nf cf, .slice Am nm cm, .slice none 0 0, .slice none 0 0, .slice none 0 0, .slice none 0 0, .int .i64 0] 48)).cell? ⟨w.heap.size, 3, none⟩ = some (.slice Am nm cm) := hG.cell 3
  have q4 : (wF.alloc (Obj.cells #[.int .i64 0, .slice Ap np cp, .slice Af nf cf, .slice Am nm cm, .slice none 0 0, .slice none 0 0, .slice none 0 0, .slice none 0 0, .int .i64 0] 48)).cell? ⟨w.heap.size, 4, none⟩ = some (.slice none 0 0) := hG.cell 4
  have q5 : (wF.alloc (Obj.cells #[.int .i64 0, .slice Ap np cp, .slice Af nf cf, .slice Am nm cm, .slice none 0 0, .slice none 0 0, .slice none 0 0, .slice none 0 0, .int .i64 0] 48)).cell? ⟨w.heap.size, 5, none⟩ = some (.slice none 0 0) := hG.cell 5
  have q6 : (wF.alloc (Obj.cells #[.int .i64 0, .slice Ap np cp, .slice Af nf cf, .slice Am nm cm, .slice none 0 0, .slice none 0 0, .slice none 0 0, .slice none 0 0, .int .i64 0] 48)).cell? ⟨w.heap.size, 6, none⟩ = some (.slice none 0 0) := hG.cell 6
  have q7 : (wF.alloc (Obj.cells #[.int .i64 0, .slice Ap np cp, .slice Af nf cf, .slice Am nm cm, .slice none 0 0, .slice none 0 0, .slice none 0 0, .slice none 0 0, .int .i64 0] 48)).cell? ⟨w.heap.size, 7, none⟩ = some (.slice none 0 0) := hG.cell 7
  have q8 : (wF.alloc (Obj.cells #[.int .i64 0, .slice Ap np cp, .slice Af nf cf, .slice Am nm cm, .slice none 0 0, .slice none 0 0, .slice none 0 0, .slice none 0 0, .int .i64 0] 48)).cell? ⟨w.heap.size, 8, none⟩ = some (.int .i64 0) := hG.cell 8
  refine bodyPost_ret (v := .tuple #[.agg #[.int .i64 0, .slice Ap np cp, .slice Af nf cf, .slice Am nm cm, .slice none 0 0, .slice none 0 0, .slice none 0 0, .slice none 0 0, .int .i64 0], .bool true]) (by simp [results, Try.results82, go_sem, q0, q1, q2, q3, q4, q5, q6, q7, q8]; done) rfl ⟨rfl, hF3.alloc (by rw [hF1]; exact hR1s) _⟩

set_option maxRecDepth 100000 in
set_option maxHeartbeats 6400000 in
theorem stateOf_1 (T : Nat) (A1 A2 Ap Af Am Ab : Option Addr) (n1 n2 np nf nm nb c1 c2 cp cf cm cb : Nat) (w : World) (h : Blk w T 141 #[.slice A1 n1 c1, .slice A2 n2 c2, .slice Ap np cp, .slice Af nf cf, .slice Am nm cm, .slice Ab nb cb]) :
    Calls Try.prog 82 #[.iface 139 (.pointer (some ⟨T, 0, none⟩))] w fun e w' => e = .returned (.tuple #[.agg #[.int .i64 1, .slice Ap np cp, .slice Af nf cf, .slice Am nm cm, .slice Ab nb cb, .slice none 0 0, .slice none 0 0, .slice none 0 0, .int .i64 0], .bool true]) ∧ Below w.heap.size w w' := by
  have hTl := h.lt
  have k0 : w.cell? ⟨T, 0, none⟩ = some (.slice A1 n1 c1) := h.cell 0
  have k1 : w.cell? ⟨T, 1, none⟩ = some (.slice A2 n2 c2) := h.cell 1
  have k2 : w.cell? ⟨T, 2, none⟩ = some (.slice Ap np cp) := h.cell 2
  have k3 : w.cell? ⟨T, 3, none⟩ = some (.slice Af nf cf) := h.cell 3
  have k4 : w.cell? ⟨T, 4, none⟩ = some (.slice Am nm cm) := h.cell 4
  have k5 : w.cell? ⟨T, 5, none⟩ = some (.slice Ab nb cb) := h.cell 5
  have t0 : ∀ w, (Instr.typeAssert (Value.iface 139 (.pointer (some ⟨T, 0, none⟩))) 20 133 true).run Try.prog w = .ok (.tuple #[.pointer none, .bool false]) w := fun _ => by kernel_rfl
  have t1 : ∀ w, (Instr.typeAssert (Value.iface 139 (.pointer (some ⟨T, 0, none⟩))) 20 139 true).run Try.prog w = .ok (.tuple #[.pointer (some ⟨T, 0, none⟩), .bool true]) w := fun _ => by kernel_rfl
  have B0 := hide (below1 w (Obj.cells #[.int .i64 0, .slice none 0 0, .slice none 0 0, .slice none 0 0, .slice none 0 0, .slice none 0 0, .slice none 0 0, .slice none 0 0, .int .i64 0] 48))
  have K0 := hide (Blk.new w 48 #[.int .i64 0, .slice none 0 0, .slice none 0 0, .slice none 0 0, .slice none 0 0, .slice none 0 0, .slice none 0 0, .slice none 0 0, .int .i64 0])
  have h0 := hide (h.alloc (Obj.cells #[.int .i64 0, .slice none 0 0, .slice none 0 0, .slice none 0 0, .slice none 0 0, .slice none 0 0, .slice none 0 0, .slice none 0 0, .int .i64 0] 48))
  clear h
  go_enter Try.func82, Try.ntmps82
  go_wp2_with fail
  refine (comState_any A1 A2 Ap Af n1 n2 np nf c1 c2 cp cf 1 _).mono ?_
  rintro e w1 ⟨rfl, hb1⟩
  have h1 := h0.out.below hb1 h0.out.lt
  have K1 := K0.out.below hb1 K0.out.lt
  have HK1 := hide K1
  have B1 := hide (below_then B0.out hb1)
  have hT1 := h1.lt
  have hR1 := K1.lt
  have hR1s := B1.out.size
  clear k0 k1 k2 k3 k4 k5 B0 K0 h0 hb1
  have k0 : w1.cell? ⟨T, 0, none⟩ = some (.slice A1 n1 c1) := h1.cell 0
  have k1 : w1.cell? ⟨T, 1, none⟩ = some (.slice A2 n2 c2) := h1.cell 1
  have k2 : w1.cell? ⟨T, 2, none⟩ = some (.slice Ap np cp) := h1.cell 2
  have k3 : w1.cell? ⟨T, 3, none⟩ = some (.slice Af nf cf) := h1.cell 3
  have k4 : w1.cell? ⟨T, 4, none⟩ = some (.slice Am nm cm) := h1.cell 4
  have k5 : w1.cell? ⟨T, 5, none⟩ = some (.slice Ab nb cb) := h1.cell 5
  have r0 : w1.cell? ⟨w.heap.size, 0, none⟩ = some (.int .i64 0) := K1.cell 0
  have z0 := K1.frozen 0
  have r1 : w1.cell? ⟨w.heap.size, 1, none⟩ = some (.slice none 0 0) := K1.cell 1
  have z1 := K1.frozen 1
  have r2 : w1.cell? ⟨w.heap.size, 2, none⟩ = some (.slice none 0 0) := K1.cell 2
  have z2 := K1.frozen 2
  have r3 : w1.cell? ⟨w.heap.size, 3, none⟩ = some (.slice none 0 0) := K1.cell 3
  have z3 := K1.frozen 3
  have r4 : w1.cell? ⟨w.heap.size, 4, none⟩ = some (.slice none 0 0) := K1.cell 4
  have z4 := K1.frozen 4
  have r5 : w1.cell? ⟨w.heap.size, 5, none⟩ = some (.slice none 0 0) := K1.cell 5
  have z5 := K1.frozen 5
  have r6 : w1.cell? ⟨w.heap.size, 6, none⟩ = some (.slice none 0 0) := K1.cell 6
  have z6 := K1.frozen 6
  have r7 : w1.cell? ⟨w.heap.size, 7, none⟩ = some (.slice none 0 0) := K1.cell 7
  have z7 := K1.frozen 7
  have r8 : w1.cell? ⟨w.heap.size, 8, none⟩ = some (.int .i64 0) := K1.cell 8
  have z8 := K1.frozen 8
  clear h1 K1
  go_wp2_with fail
  go_region
  go_wp2_with fail
  obtain ⟨wF, hwF⟩ : ∃ x, x = s2Set w1 w.heap.size (.int .i64 1) (.slice Ap np cp) (.slice Af nf cf) (.slice Am nm cm) (.slice Ab nb cb) (.slice none 0 0) (.slice none 0 0) (.slice none 0 0) (.int .i64 0) := ⟨_, rfl⟩
  have hF := s2Set_blk HK1.out (v0 := .int .i64 1) (v1 := .slice Ap np cp) (v2 := .slice Af nf cf) (v3 := .slice Am nm cm) (v4 := .slice Ab nb cb) (v5 := .slice none 0 0) (v6 := .slice none 0 0) (v7 := .slice none 0 0) (v8 := .int .i64 0)
  have hF1 := s2Set_size w1 w.heap.size (.int .i64 1) (.slice Ap np cp) (.slice Af nf cf) (.slice Am nm cm) (.slice Ab nb cb) (.slice none 0 0) (.slice none 0 0) (.slice none 0 0) (.int .i64 0)
  have hF3 := s2Set_below (w0 := w) B1.out (Nat.le_refl _) (.int .i64 1) (.slice Ap np cp) (.slice Af nf cf) (.slice Am nm cm) (.slice Ab nb cb) (.slice none 0 0) (.slice none 0 0) (.slice none 0 0) (.int .i64 0)
  rw [← hwF] at hF hF1 hF3
  unfold s2Set at hwF
  rw [← hwF]
  clear hwF
  have hG := hF.alloc (Obj.cells #[.int .i64 1, .slice Ap np cp, .slice Af nf cf, .slice Am nm cm, .slice Ab nb cb, .slice none 0 0, .slice none 0 0, .slice none 0 0, .int .i64 0] 48)
  have q0 : (wF.alloc (Obj.cells #[.int .i64 1, .slice Ap np cp, .slice Af nf cf, .slice Am nm cm, .slice Ab nb cb, .slice none 0 0, .slice none 0 0, .slice none 0 0, .int .i64 0] 48)).cell? ⟨w.heap.size, 0, none⟩ = some (.int .i64 1) := hG.cell 0
  have q1 : (wF.alloc (Obj.cells #[.int .i64 1, .slice Ap np cp, .slice Af nf cf, .slice Am nm cm, .slice Ab nb cb, .slice none 0 0, .slice none 0 0, .slice none 0 0, .int .i64 0] 48)).cell? ⟨w.heap.size, 1, none⟩ = some (.slice Ap np cp) := hG.cell 1
  have q2 : (wF.alloc (Obj.cells #[.int .i64 1, .slice Ap np cp, .slice Af nf cf, .slice Am nm cm, .slice Ab nb cb, .slice none 0 0, .slice none 0 0, .slice none 0 0, .int .i64 0] 48)).cell? ⟨w.heap.size, 2, none⟩ = some (.slice Af nf cf) := hG.cell 2
  have q3 : (wF.alloc (Obj.cells #[.int .i64 1, .slice Ap np cp, .slice Af nf cf, .slice Am nm cm, .slice Ab nb cb, .slice none 0 0, .slice none 0 0, .slice none 0 0, .int .i64 0] 48)).cell? ⟨w.heap.size, 3, none⟩ = some (.slice Am nm cm) := hG.cell 3
  have q4 : (wF.alloc (Obj.cells #[.int .i64 1, .slice Ap np cp, .slice Af nf cf, .slice Am nm cm, .slice Ab nb cb, .slice none 0 0, .slice none 0 0, .slice none 0 0, .int .i64 0] 48)).cell? ⟨w.heap.size, 4, none⟩ = some (.slice Ab nb cb) := hG.cell 4
  have q5 : (wF.alloc (Obj.cells #[.int .i64 1, .slice Ap np cp, .slice Af nf cf, .slice Am nm cm, .slice Ab nb cb, .slice none 0 0, .slice none 0 0, .slice none 0 0, .int .i64 0] 48)).cell? ⟨w.heap.size, 5, none⟩ = some (.slice none 0 0) := hG.cell 5
  have q6 : (wF.alloc (Obj.cells #[.int .i64 1, .slice Ap np cp, .slice Af nf cf, .slice Am nm cm, .slice Ab nb cb, .slice none 0 0, .slice none 0 0, .slice none 0 0, .int .i64 0] 48)).cell? ⟨w.heap.size, 6, none⟩ = some (.slice none 0 0) := hG.cell 6
  have q7 : (wF.alloc (Obj.cells #[.int .i64 1, .slice Ap np cp, .slice Af nf cf, .slice Am nm cm, .slice Ab nb cb, .slice none 0 0, .slice none 0 0, .slice none 0 0, .int .i64 0] 48)).cell? ⟨w.heap.size, 7, none⟩ = some (.slice none 0 0) := hG.cell 7
  have q8 : (wF.alloc (Obj.cells #[.int .i64 1, .slice Ap np cp, .slice Af nf cf, .slice Am nm cm, .slice Ab nb cb, .slice none 0 0, .slice none 0 0, .slice none 0 0, .int .i64 0] 48)).cell? ⟨w.heap.size, 8, none⟩ = some (.int .i64 0) := hG.cell 8
  refine bodyPost_ret (v := .tuple #[.agg #[.int .i64 1, .slice Ap np cp, .slice Af nf cf, .slice Am nm cm, .slice Ab nb cb, .slice none 0 0, .slice none 0 0, .slice none 0 0, .int .i64 0], .bool true]) (by simp [results, Try.results82, go_sem, q0, q1, q2, q3, q4, q5, q6, q7, q8]; done) rfl ⟨rfl, (hF3.alloc (by rw [hF1]; exact hR1s) _).drew⟩

set_option maxRecDepth 100000 in
set_option maxHeartbeats 6400000 in
theorem stateOf_2 (T : Nat) (A1 A2 Ap Af Ah Av As : Option Addr) (n1 n2 np nf nh nv ns c1 c2 cp cf ch cv cs : Nat) (nx : Int) (w : World) (h : Blk w T 144 #[.slice A1 n1 c1, .slice A2 n2 c2, .slice Ap np cp, .slice Af nf cf, .slice Ah nh ch, .slice Av nv cv, .slice As ns cs, .int .i64 nx]) :
    Calls Try.prog 82 #[.iface 142 (.pointer (some ⟨T, 0, none⟩))] w fun e w' => e = .returned (.tuple #[.agg #[.int .i64 2, .slice Ap np cp, .slice Af nf cf, .slice none 0 0, .slice none 0 0, .slice Ah nh ch, .slice Av nv cv, .slice As ns cs, .int .i64 nx], .bool true]) ∧ Below w.heap.size w w' := by
  have hTl := h.lt
  have k0 : w.cell? ⟨T, 0, none⟩ = some (.slice A1 n1 c1) := h.cell 0
  have k1 : w.cell? ⟨T, 1, none⟩ = some (.slice A2 n2 c2) := h.cell 1
  have k2 : w.cell? ⟨T, 2, none⟩ = some (.slice Ap np cp) := h.cell 2
  have k3 : w.cell? ⟨T, 3, none⟩ = some (.slice Af nf cf) := h.cell 3
  have k4 : w.cell? ⟨T, 4, none⟩ = some (.slice Ah nh ch) := h.cell 4
  have k5 : w.cell? ⟨T, 5, none⟩ = some (.slice Av nv cv) := h.cell 5
  have k6 : w.cell? ⟨T, 6, none⟩ = some (.slice As ns cs) := h.cell 6
  have k7 : w.cell? ⟨T, 7, none⟩ = some (.int .i64 nx) := h.cell 7
  have t0 : ∀ w, (Instr.typeAssert (Value.iface 142 (.pointer (some ⟨T, 0, none⟩))) 20 133 true).run Try.prog w = .ok (.tuple #[.pointer none, .bool false]) w := fun _ => by kernel_rfl
  have t1 : ∀ w, (Instr.typeAssert (Value.iface 142 (.pointer (some ⟨T, 0, none⟩))) 20 139 true).run Try.prog w = .ok (.tuple #[.pointer none, .bool false]) w := fun _ => by kernel_rfl
  have t2 : ∀ w, (Instr.typeAssert (Value.iface 142 (.pointer (some ⟨T, 0, none⟩))) 20 142 true).run Try.prog w = .ok (.tuple #[.pointer (some ⟨T, 0, none⟩), .bool true]) w := fun _ => by kernel_rfl
  have B0 := hide (below1 w (Obj.cells #[.int .i64 0, .slice none 0 0, .slice none 0 0, .slice none 0 0, .slice none 0 0, .slice none 0 0, .slice none 0 0, .slice none 0 0, .int .i64 0] 48))
  have K0 := hide (Blk.new w 48 #[.int .i64 0, .slice none 0 0, .slice none 0 0, .slice none 0 0, .slice none 0 0, .slice none 0 0, .slice none 0 0, .slice none 0 0, .int .i64 0])
  have h0 := hide (h.alloc (Obj.cells #[.int .i64 0, .slice none 0 0, .slice none 0 0, .slice none 0 0, .slice none 0 0, .slice none 0 0, .slice none 0 0, .slice none 0 0, .int .i64 0] 48))
  clear h
  go_enter Try.func82, Try.ntmps82
  go_wp2_with fail
  refine (comState_any A1 A2 Ap Af n1 n2 np nf c1 c2 cp cf 2 _).mono ?_
  rintro e w1 ⟨rfl, hb1⟩
  have h1 := h0.out.below hb1 h0.out.lt
  have K1 := K0.out.below hb1 K0.out.lt
  have HK1 := hide K1
  have B1 := hide (below_then B0.out hb1)
  have hT1 := h1.lt
  have hR1 := K1.lt
  have hR1s := B1.out.size
  clear k0 k1 k2 k3 k4 k5 k6 k7 B0 K0 h0 hb1
  have k0 : w1.cell? ⟨T, 0, none⟩ = some (.slice A1 n1 c1) := h1.cell 0
  have k1 : w1.cell? ⟨T, 1, none⟩ = some (.slice A2 n2 c2) := h1.cell 1
  have k2 : w1.cell? ⟨T, 2, none⟩ = some (.slice Ap np cp) := h1.cell 2
  have k3 : w1.cell? ⟨T, 3, none⟩ = some (.slice Af nf cf) := h1.cell 3
  have k4 : w1.cell? ⟨T, 4, none⟩ = some (.slice Ah nh ch) := h1.cell 4
  have k5 : w1.cell? ⟨T, 5, none⟩ = some (.slice Av nv cv) := h1.cell 5
  have k6 : w1.cell? ⟨T, 6, none⟩ = some (.slice As ns cs) := h1.cell 6
  have k7 : w1.cell? ⟨T, 7, none⟩ = some (.int .i64 nx) := h1.cell 7
  have r0 : w1.cell? ⟨w.heap.size, 0, none⟩ = some (.int .i64 0) := K1.cell 0
  have z0 := K1.frozen 0
  have r1 : w1.cell? ⟨w.heap.size, 1, none⟩ = some (.slice none 0 0) := K1.cell 1
  have z1 := K1.frozen 1
  have r2 : w1.cell? ⟨w.heap.size, 2, none⟩ = some (.slice none 0 0) := K1.cell 2
  have z2 := K1.frozen 2
  have r3 : w1.cell? ⟨w.heap.size, 3, none⟩ = some (.slice none 0 0) := K1.cell 3
  have z3 := K1.frozen 3
  have r4 : w1.cell? ⟨w.heap.size, 4, none⟩ = some (.slice none 0 0) := K1.cell 4
  have z4 := K1.frozen 4
  have r5 : w1.cell? ⟨w.heap.size, 5, none⟩ = some (.slice none 0 0) := K1.cell 5
  have z5 := K1.frozen 5
  have r6 : w1.cell? ⟨w.heap.size, 6, none⟩ = some (.slice none 0 0) := K1.cell 6
  have z6 := K1.frozen 6
  have r7 : w1.cell? ⟨w.heap.size, 7, none⟩ = some (.slice none 0 0) := K1.cell 7
  have z7 := K1.frozen 7
  have r8 : w1.cell? ⟨w.heap.size, 8, none⟩ = some (.int .i64 0) := K1.cell 8
  have z8 := K1.frozen 8
  clear h1 K1
  go_wp2_with fail
  go_region
  go_wp2_with fail
  obtain ⟨wF, hwF⟩ : ∃ x, x = s2Set w1 w.heap.size (.int .i64 2) (.slice Ap np cp) (.slice Af nf cf) (.slice none 0 0) (.slice none 0 0) (.slice Ah nh ch) (.slice Av nv cv) (.slice As ns cs) (.int .i64 nx) := ⟨_, rfl⟩
  have hF := s2Set_blk HK1.out (v0 := .int .i64 2) (v1 := .slice Ap np cp) (v2 := .slice Af nf cf) (v3 := .slice none 0 0) (v4 := .slice none 0 0) (v5 := .slice Ah nh ch) (v6 := .slice Av nv cv) (v7 := .slice As ns cs) (v8 := .int .i64 nx)
  have hF1 := s2Set_size w1 w.heap.size (.int .i64 2) (.slice Ap np cp) (.slice Af nf cf) (.slice none 0 0) (.slice none 0 0) (.slice Ah nh ch) (.slice Av nv cv) (.slice As ns cs) (.int .i64 nx)
  have hF3 := s2Set_below (w0 := w) B1.out (Nat.le_refl _) (.int .i64 2) (.slice Ap np cp) (.slice Af nf cf) (.slice none 0 0) (.slice none 0 0) (.slice Ah nh ch) (.slice Av nv cv) (.slice As ns cs) (.int .i64 nx)
  rw [← hwF] at hF hF1 hF3
  unfold s2Set at hwF
  rw [← hwF]
  clear hwF
  have hG := hF.alloc (Obj.cells #[.int .i64 2, .slice Ap np cp, .slice Af nf cf, .slice none 0 0, .slice none 0 0, .slice Ah nh ch, .slice Av nv cv, .slice As ns cs, .int .i64 nx] 48)
  have q0 : (wF.alloc (Obj.cells #[.int .i64 2, .slice Ap np cp, .slice Af nf cf, .slice none 0 0, .slice none 0 0, .slice Ah nh ch, .slice Av nv cv, .slice As ns cs, .int .i64 nx] 48)).cell? ⟨w.heap.size, 0, none⟩ = some (.int .i64 2) := hG.cell 0
  have q1 : (wF.alloc (Obj.cells #[.int .i64 2, .slice Ap np cp, .slice Af nf cf, .slice none 0 0, .slice none 0 0, .slice Ah nh ch, .slice Av nv cv, .slice As ns cs, .int .i64 nx] 48)).cell? ⟨w.heap.size, 1, none⟩ = some (.slice Ap np cp) := hG.cell 1
  have q2 : (wF.alloc (Obj.cells #[.int .i64 2, .slice Ap np cp, .slice Af nf cf, .slice none 0 0, .slice none 0 0, .slice Ah nh ch, .slice Av nv cv, .slice As ns cs, .int .i64 nx] 48)).cell? ⟨w.heap.size, 2, none⟩ = some (.slice Af nf cf) := hG.cell 2
  have q3 : (wF.alloc (Obj.cells #[.int .i64 2, .slice Ap np cp, .slice Af nf cf, .slice none 0 0, .slice none 0 0, .slice Ah nh ch, .slice Av nv cv, .slice As ns cs, .int .i64 nx] 48)).cell? ⟨w.heap.size, 3, none⟩ = some (.slice none 0 0) := hG.cell 3
  have q4 : (wF.alloc (Obj.cells #[.int .i64 2, .slice Ap np cp, .slice Af nf cf, .slice none 0 0, .slice none 0 0, .slice Ah nh ch, .slice Av nv cv, .slice As ns cs, .int .i64 nx] 48)).cell? ⟨w.heap.size, 4, none⟩ = some (.slice none 0 0) := hG.cell 4
  have q5 : (wF.alloc (Obj.cells #[.int .i64 2, .slice Ap np cp, .slice Af nf cf, .slice none 0 0, .slice none 0 0, .slice Ah nh ch, .slice Av nv cv, .slice As ns cs, .int .i64 nx] 48)).cell? ⟨w.heap.size, 5, none⟩ = some (.slice Ah nh ch) := hG.cell 5
  have q6 : (wF.alloc (Obj.cells #[.int .i64 2, .slice Ap np cp, .slice Af nf cf, .slice none 0 0, .slice none 0 0, .slice Ah nh ch, .slice Av nv cv, .slice As ns cs, .int .i64 nx] 48)).cell? ⟨w.heap.size, 6, none⟩ = some (.slice Av nv cv) := hG.cell 6
  have q7 : (wF.alloc (Obj.cells #[.int .i64 2, .slice Ap np cp, .slice Af nf cf, .slice none 0 0, .slice none 0 0, .slice Ah nh ch, .slice Av nv cv, .slice As ns cs, .int .i64 nx] 48)).cell? ⟨w.heap.size, 7, none⟩ = some (.slice As ns cs) := hG.cell 7
  have q8 : (wF.alloc (Obj.cells #[.int .i64 2, .slice Ap np cp, .slice Af nf cf, .slice none 0 0, .slice none 0 0, .slice Ah nh ch, .slice Av nv cv, .slice As ns cs, .int .i64 nx] 48)).cell? ⟨w.heap.size, 8, none⟩ = some (.int .i64 nx) := hG.cell 8
  refine bodyPost_ret (v := .tuple #[.agg #[.int .i64 2, .slice Ap np cp, .slice Af nf cf, .slice none 0 0, .slice none 0 0, .slice Ah nh ch, .slice Av nv cv, .slice As ns cs, .int .i64 nx], .bool true]) (by simp [results, Try.results82, go_sem, q0, q1, q2, q3, q4, q5, q6, q7, q8]; done) rfl ⟨rfl, (hF3.alloc (by rw [hF1]; exact hR1s) _).drew⟩
end Go.Proofs.Ytfkaacfeikmabaa
