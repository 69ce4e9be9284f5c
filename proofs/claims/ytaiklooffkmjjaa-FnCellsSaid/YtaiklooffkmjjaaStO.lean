/- A state out of its kind's type: KdBuf. -/
import Derived.Test.YtaiklooffkmjjaaL2f
import Derived.Test.YtaiklooffkmjjaaBeG
import Derived.BigRegion
namespace Go.Proofs.Ytaiklooffkmjjaa
open Go.RowKit

attribute [local go_sem ↓] Go.wp_at_zero Go.wp_at_succ

set_option maxRecDepth 100000 in
set_option maxHeartbeats 1600000 in
theorem comState_any (A1 A2 A3 A4 : Option Addr) (n1 n2 n3 n4 c1 c2 c3 c4 : Nat) (k : Int) (w : World) :
    Calls Try.prog 96 #[.agg #[.slice A1 n1 c1, .slice A2 n2 c2, .slice A3 n3 c3, .slice A4 n4 c4], .int .i64 k] w fun e w' => e = .returned (.agg #[.int .i64 k, .slice A3 n3 c3, .slice A4 n4 c4, .slice none 0 0, .slice none 0 0, .slice none 0 0, .slice none 0 0, .slice none 0 0, .int .i64 0]) ∧ Below w.heap.size w w' := by
  go_enter Try.func96, Try.ntmps96
  go_wp2_with fail
  refine bodyPost_ret (v := .agg #[.int .i64 k, .slice A3 n3 c3, .slice A4 n4 c4, .slice none 0 0, .slice none 0 0, .slice none 0 0, .slice none 0 0, .slice none 0 0, .int .i64 0]) (by simp [results, Try.results96, go_sem]; done) rfl ⟨rfl, ?_⟩
  exact below2 _ _ _
set_option maxRecDepth 100000 in
set_option maxHeartbeats 1600000 in
theorem stateOf_buf (A1 A2 A3 A4 A5 A6 : Option Addr) (n1 n2 n3 n4 n5 n6 c1 c2 c3 c4 c5 c6 : Nat) (w : World) :
    Calls Try.prog 74 #[.iface 109 (.agg #[.slice A1 n1 c1, .slice A2 n2 c2, .slice A3 n3 c3, .slice A4 n4 c4, .slice A5 n5 c5, .slice A6 n6 c6])] w fun e w' => e = .returned (.tuple #[.agg #[.int .i64 1, .slice A3 n3 c3, .slice A4 n4 c4, .slice A5 n5 c5, .slice A6 n6 c6, .slice none 0 0, .slice none 0 0, .slice none 0 0, .int .i64 0], .bool true]) ∧ Below w.heap.size w w' := by
  have t1 : ∀ w, (Instr.typeAssert (Value.iface 109 (.agg #[.slice A1 n1 c1, .slice A2 n2 c2, .slice A3 n3 c3, .slice A4 n4 c4, .slice A5 n5 c5, .slice A6 n6 c6])) 20 107 true).run Try.prog w = .ok (.tuple #[.agg #[.slice none 0 0, .slice none 0 0, .slice none 0 0, .slice none 0 0, .slice none 0 0], .bool false]) w := fun _ => by kernel_rfl
  have t2 : ∀ w, (Instr.typeAssert (Value.iface 109 (.agg #[.slice A1 n1 c1, .slice A2 n2 c2, .slice A3 n3 c3, .slice A4 n4 c4, .slice A5 n5 c5, .slice A6 n6 c6])) 20 109 true).run Try.prog w = .ok (.tuple #[.agg #[.slice A1 n1 c1, .slice A2 n2 c2, .slice A3 n3 c3, .slice A4 n4 c4, .slice A5 n5 c5, .slice A6 n6 c6], .bool true]) w := fun _ => by kernel_rfl
  go_enter Try.func74, Try.ntmps74
  have hb0 := below2 w (Obj.cells #[Value.int IntKind.i64 0, Value.slice none 0 0, Value.slice none 0 0, Value.slice none 0 0, Value.slice none 0 0, Value.slice none 0 0, Value.slice none 0 0, Value.slice none 0 0, Value.int IntKind.i64 0] 77) (Obj.cells #[Value.slice A1 n1 c1, Value.slice A2 n2 c2, Value.slice A3 n3 c3, Value.slice A4 n4 c4, Value.slice A5 n5 c5, Value.slice A6 n6 c6] 109)
  have K0 := (Blk.new w 77 #[Value.int IntKind.i64 0, Value.slice none 0 0, Value.slice none 0 0, Value.slice none 0 0, Value.slice none 0 0, Value.slice none 0 0, Value.slice none 0 0, Value.slice none 0 0, Value.int IntKind.i64 0]).alloc (Obj.cells #[Value.slice A1 n1 c1, Value.slice A2 n2 c2, Value.slice A3 n3 c3, Value.slice A4 n4 c4, Value.slice A5 n5 c5, Value.slice A6 n6 c6] 109)
  have J0 := Blk.new (w.alloc (Obj.cells #[Value.int IntKind.i64 0, Value.slice none 0 0, Value.slice none 0 0, Value.slice none 0 0, Value.slice none 0 0, Value.slice none 0 0, Value.slice none 0 0, Value.slice none 0 0, Value.int IntKind.i64 0] 77)) 109 #[Value.slice A1 n1 c1, Value.slice A2 n2 c2, Value.slice A3 n3 c3, Value.slice A4 n4 c4, Value.slice A5 n5 c5, Value.slice A6 n6 c6]
  simp only [World.size_alloc] at J0
  replace K0 := hide K0
  replace J0 := hide J0
  go_wp2_with fail
  refine (comState_any A1 A2 A3 A4 n1 n2 n3 n4 c1 c2 c3 c4 1 _).mono ?_
  rintro e w1 ⟨rfl, hb1⟩
  have K1 := K0.out.below hb1 (by simp; omega)
  have J1 := J0.out.below hb1 (by simp)
  have hl := J1.lt
  have j4 : w1.cell? ⟨w.heap.size + 1, 4, none⟩ = some (.slice A5 n5 c5) := J1.cell 4
  have j5 : w1.cell? ⟨w.heap.size + 1, 5, none⟩ = some (.slice A6 n6 c6) := J1.cell 5
  have k0 : w1.cell? ⟨w.heap.size, 0, none⟩ = some (.int .i64 0) := K1.cell 0
  have k1 : w1.cell? ⟨w.heap.size, 1, none⟩ = some (.slice none 0 0) := K1.cell 1
  have k2 : w1.cell? ⟨w.heap.size, 2, none⟩ = some (.slice none 0 0) := K1.cell 2
  have k3 : w1.cell? ⟨w.heap.size, 3, none⟩ = some (.slice none 0 0) := K1.cell 3
  have k4 : w1.cell? ⟨w.heap.size, 4, none⟩ = some (.slice none 0 0) := K1.cell 4
  have k5 : w1.cell? ⟨w.heap.size, 5, none⟩ = some (.slice none 0 0) := K1.cell 5
  have k6 : w1.cell? ⟨w.heap.size, 6, none⟩ = some (.slice none 0 0) := K1.cell 6
  have k7 : w1.cell? ⟨w.heap.size, 7, none⟩ = some (.slice none 0 0) := K1.cell 7
  have k8 : w1.cell? ⟨w.heap.size, 8, none⟩ = some (.int .i64 0) := K1.cell 8
  have z0 := K1.frozen 0
  have z1 := K1.frozen 1
  have z2 := K1.frozen 2
  have z3 := K1.frozen 3
  have z4 := K1.frozen 4
  have z5 := K1.frozen 5
  have z6 := K1.frozen 6
  have z7 := K1.frozen 7
  have z8 := K1.frozen 8
  have hB := hide (below_then hb0 hb1)
  have hK := hide K1
  clear K1 J1 hb1 hb0
  go_wp2_with fail
  have hl2 : w.heap.size < w1.heap.size := by omega
  go_region
  all_goals
    go_wp2_with fail
    have hK2 := (((((((((hK.out.set_ 0 (.int .i64 1)).set_ 1 (.slice A3 n3 c3)).set_ 2 (.slice A4 n4 c4)).set_ 3 (.slice A5 n5 c5)).set_ 4 (.slice A6 n6 c6)).set_ 5 (.slice none 0 0)).set_ 6 (.slice none 0 0)).set_ 7 (.slice none 0 0)).set_ 8 (.int .i64 0)).alloc (Obj.cells #[.int .i64 1, .slice A3 n3 c3, .slice A4 n4 c4, .slice A5 n5 c5, .slice A6 n6 c6, .slice none 0 0, .slice none 0 0, .slice none 0 0, .int .i64 0] 77)
    have q0 := hK2.cell 0
    have q1 := hK2.cell 1
    have q2 := hK2.cell 2
    have q3 := hK2.cell 3
    have q4 := hK2.cell 4
    have q5 := hK2.cell 5
    have q6 := hK2.cell 6
    have q7 := hK2.cell 7
    have q8 := hK2.cell 8
    refine bodyPost_ret (v := .tuple #[.agg #[.int .i64 1, .slice A3 n3 c3, .slice A4 n4 c4, .slice A5 n5 c5, .slice A6 n6 c6, .slice none 0 0, .slice none 0 0, .slice none 0 0, .int .i64 0], .bool true]) (by simp [results, Try.results74, go_sem, q0, q1, q2, q3, q4, q5, q6, q7, q8]; done) rfl ⟨rfl, ?_⟩
    refine Below.drew ?_
    refine Below.alloc ?_ (by simp; omega) _
    iterate 9 (refine Below.setCell ?_ (show w.heap.size ≤ w.heap.size from Nat.le_refl _) _)
    exact hB.out
end Go.Proofs.Ytaiklooffkmjjaa
