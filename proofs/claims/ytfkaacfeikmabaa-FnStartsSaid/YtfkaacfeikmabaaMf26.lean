/- isCell. -/
import Derived.Test.YtfkaacfeikmabaaMf0
import Derived.Test.YtfkaacfeikmabaaMf1
import Derived.Test.YtfkaacfeikmabaaMf8
import Derived.Test.YtfkaacfeikmabaaMf23
import Derived.Test.YtfkaacfeikmabaaMf24
import Derived.Test.YtfkaacfeikmabaaMf25
namespace Go.Proofs.Ytfkaacfeikmabaa
open Go.RowKit

set_option maxRecDepth 100000 in
set_option maxHeartbeats 6400000 in
theorem start_0 (p : ProgD) (A1 A2 : Option Addr) (c1 c2 n : Nat) (w : World) (hn : n ≤ w.heap.size) (hcc : p.init.length ≤ c1 ∧ p.ts.length ≤ c2) (hi : IntsAt w (Old n) A1 p.init) (ht : ThreadsAt w (Old n) A2 p.ts) (hB : progB p = true) :
    Calls Try.prog 28 #[.agg #[.slice A1 p.init.length c1, .slice A2 p.ts.length c2], .int .i64 0] w fun e w' => ∃ d : StD, e = .returned (.tuple #[.agg d.cells, .bool true]) ∧ StIn w' d ∧ (∀ i, i < 7 → w.heap.size ≤ (d.iv i).1) ∧ SameSt (startC p 0) d ∧ Below w.heap.size w w' := by
  have hsz : p.init.length ≤ 6 ∧ p.ts.length ≤ 3 ∧ 1 ≤ p.init.length := by
    have h := hB
    unfold progB sizesB at h
    simp only [Bool.and_eq_true, decide_eq_true_eq] at h
    omega
  have hS : ∀ b, Old n b → b < w.heap.size := fun _ h => Nat.lt_of_lt_of_le h hn
  have hb0 := below2 w (Obj.cells #[.slice A1 p.init.length c1, .slice A2 p.ts.length c2] 31) (Obj.cells #[.int .i64 0, .slice none 0 0, .slice none 0 0, .slice none 0 0, .slice none 0 0, .slice none 0 0, .slice none 0 0, .slice none 0 0, .int .i64 0] 48)
  have hok := hide (progOk_any (.agg #[.slice A1 p.init.length c1, .slice A2 p.ts.length c2]) p (Old n) _ (fun b h => Nat.lt_of_lt_of_le (hS b h) hb0.size) ⟨A1, c1, A2, c2, rfl, hcc, hi.below hb0 hS, ht.below hb0 hS⟩)
  have K0 := Blk.new (w.alloc (Obj.cells #[.slice A1 p.init.length c1, .slice A2 p.ts.length c2] 31)) 48 #[.int .i64 0, .slice none 0 0, .slice none 0 0, .slice none 0 0, .slice none 0 0, .slice none 0 0, .slice none 0 0, .slice none 0 0, .int .i64 0]
  have G0 := (Blk.new w 31 #[.slice A1 p.init.length c1, .slice A2 p.ts.length c2]).alloc (Obj.cells #[.int .i64 0, .slice none 0 0, .slice none 0 0, .slice none 0 0, .slice none 0 0, .slice none 0 0, .slice none 0 0, .slice none 0 0, .int .i64 0] 48)
  simp only [World.size_alloc] at K0
  replace K0 := hide K0
  replace G0 := hide G0
  replace hb0 := hide hb0
  replace hi := hide hi
  clear ht
  go_enter Try.func28, Try.ntmps28
  go_wp2_with fail
  refine hok.out.mono ?_
  rintro e w1 ⟨rfl, hb1⟩
  have B1 := hide (below_then hb0.out hb1)
  have K1 := hide (K0.out.below hb1 K0.out.lt)
  have G1 := hide (G0.out.below hb1 G0.out.lt)
  have hz1 := hb1.size
  simp only [World.size_alloc] at hz1
  clear hok hb1 hb0 K0 G0
  rw [hB]
  have g0 : w1.cell? ⟨w.heap.size, 0, none⟩ = some (.slice A1 p.init.length c1) := G1.out.cell 0
  have g1 : w1.cell? ⟨w.heap.size, 1, none⟩ = some (.slice A2 p.ts.length c2) := G1.out.cell 1
  have lg := G1.out.lt
  go_wp2_with fail
  refine (kindStart_0 p A1 A2 c1 c2 n w1 (by omega) (hi.out.below B1.out hS) hsz.2.2 hsz.1 hsz.2.1).mono ?_
  rintro e w2 ⟨T, d, rfl, hBl, hIn, hlo, hSame, hdc, hb2⟩
  have B2 := hide (below_then B1.out hb2)
  have K2 := hide (K1.out.below hb2 K1.out.lt)
  have hBl := hide hBl
  have hIn := hide hIn
  have hlo := hide hlo
  have hdc := hide hdc
  clear hb2 G1 K1 g0 g1 lg
  go_wp2_with fail
  refine (stateOf_0 T A1 A2 d.pc.A d.F.A d.mem.A p.init.length p.ts.length d.pc.n d.F.n d.mem.n c1 c2 d.pc.c d.F.c d.mem.c w2 hBl.out).mono ?_
  rintro e w3 ⟨rfl, hb3⟩
  have B3 := hide (below_then B2.out hb3)
  have K3 := hide (K2.out.below hb3 K2.out.lt)
  have hIn3 := hide (hIn.out.next hb3)
  clear hb3 hBl hIn K2
  have k0 : w3.cell? ⟨w.heap.size + 1, 0, none⟩ = some (.int .i64 0) := K3.out.cell 0
  have z0 := K3.out.frozen 0
  have k1 : w3.cell? ⟨w.heap.size + 1, 1, none⟩ = some (.slice none 0 0) := K3.out.cell 1
  have z1 := K3.out.frozen 1
  have k2 : w3.cell? ⟨w.heap.size + 1, 2, none⟩ = some (.slice none 0 0) := K3.out.cell 2
  have z2 := K3.out.frozen 2
  have k3 : w3.cell? ⟨w.heap.size + 1, 3, none⟩ = some (.slice none 0 0) := K3.out.cell 3
  have z3 := K3.out.frozen 3
  have k4 : w3.cell? ⟨w.heap.size + 1, 4, none⟩ = some (.slice none 0 0) := K3.out.cell 4
  have z4 := K3.out.frozen 4
  have k5 : w3.cell? ⟨w.heap.size + 1, 5, none⟩ = some (.slice none 0 0) := K3.out.cell 5
  have z5 := K3.out.frozen 5
  have k6 : w3.cell? ⟨w.heap.size + 1, 6, none⟩ = some (.slice none 0 0) := K3.out.cell 6
  have z6 := K3.out.frozen 6
  have k7 : w3.cell? ⟨w.heap.size + 1, 7, none⟩ = some (.slice none 0 0) := K3.out.cell 7
  have z7 := K3.out.frozen 7
  have k8 : w3.cell? ⟨w.heap.size + 1, 8, none⟩ = some (.int .i64 0) := K3.out.cell 8
  have z8 := K3.out.frozen 8
  have lg := K3.out.lt
  go_wp2_with fail
  obtain ⟨wF, hwF⟩ : ∃ q, q = s2Set w3 (w.heap.size + 1) (.int .i64 0) (.slice d.pc.A d.pc.n d.pc.c) (.slice d.F.A d.F.n d.F.c) (.slice d.mem.A d.mem.n d.mem.c) (.slice none 0 0) (.slice none 0 0) (.slice none 0 0) (.slice none 0 0) (.int .i64 0) := ⟨_, rfl⟩
  have hF := s2Set_blk K3.out (v0 := .int .i64 0) (v1 := .slice d.pc.A d.pc.n d.pc.c) (v2 := .slice d.F.A d.F.n d.F.c) (v3 := .slice d.mem.A d.mem.n d.mem.c) (v4 := .slice none 0 0) (v5 := .slice none 0 0) (v6 := .slice none 0 0) (v7 := .slice none 0 0) (v8 := .int .i64 0)
  have hF1 := s2Set_size w3 (w.heap.size + 1) (.int .i64 0) (.slice d.pc.A d.pc.n d.pc.c) (.slice d.F.A d.F.n d.F.c) (.slice d.mem.A d.mem.n d.mem.c) (.slice none 0 0) (.slice none 0 0) (.slice none 0 0) (.slice none 0 0) (.int .i64 0)
  have hF2 := fun b => s2Set_heap w3 (w.heap.size + 1) (.int .i64 0) (.slice d.pc.A d.pc.n d.pc.c) (.slice d.F.A d.F.n d.F.c) (.slice d.mem.A d.mem.n d.mem.c) (.slice none 0 0) (.slice none 0 0) (.slice none 0 0) (.slice none 0 0) (.int .i64 0) b
  have hF3 := s2Set_below (w0 := w) B3.out (show w.heap.size ≤ w.heap.size + 1 by omega) (.int .i64 0) (.slice d.pc.A d.pc.n d.pc.c) (.slice d.F.A d.F.n d.F.c) (.slice d.mem.A d.mem.n d.mem.c) (.slice none 0 0) (.slice none 0 0) (.slice none 0 0) (.slice none 0 0) (.int .i64 0)
  rw [← hwF] at hF hF1 hF2 hF3
  unfold s2Set at hwF
  rw [← hwF]
  clear hwF k0 z0 k1 z1 k2 z2 k3 z3 k4 z4 k5 z5 k6 z6 k7 z7 k8 z8
  have q0 : wF.cell? ⟨w.heap.size + 1, 0, none⟩ = some (.int .i64 0) := hF.cell 0
  have q1 : wF.cell? ⟨w.heap.size + 1, 1, none⟩ = some (.slice d.pc.A d.pc.n d.pc.c) := hF.cell 1
  have q2 : wF.cell? ⟨w.heap.size + 1, 2, none⟩ = some (.slice d.F.A d.F.n d.F.c) := hF.cell 2
  have q3 : wF.cell? ⟨w.heap.size + 1, 3, none⟩ = some (.slice d.mem.A d.mem.n d.mem.c) := hF.cell 3
  have q4 : wF.cell? ⟨w.heap.size + 1, 4, none⟩ = some (.slice none 0 0) := hF.cell 4
  have q5 : wF.cell? ⟨w.heap.size + 1, 5, none⟩ = some (.slice none 0 0) := hF.cell 5
  have q6 : wF.cell? ⟨w.heap.size + 1, 6, none⟩ = some (.slice none 0 0) := hF.cell 6
  have q7 : wF.cell? ⟨w.heap.size + 1, 7, none⟩ = some (.slice none 0 0) := hF.cell 7
  have q8 : wF.cell? ⟨w.heap.size + 1, 8, none⟩ = some (.int .i64 0) := hF.cell 8
  refine bodyPost_ret (v := .tuple #[.agg #[.int .i64 0, .slice d.pc.A d.pc.n d.pc.c, .slice d.F.A d.F.n d.F.c, .slice d.mem.A d.mem.n d.mem.c, .slice none 0 0, .slice none 0 0, .slice none 0 0, .slice none 0 0, .int .i64 0], .bool true]) (by simp [results, Try.results28, go_sem, q0, q1, q2, q3, q4, q5, q6, q7, q8]; done) rfl ⟨d, by rw [hdc.out], hIn3.out.keepIv (by rw [hF1]; exact Nat.le_refl _) (fun i hi' b h1 h2 _ => hF2 b (by have := hlo.out i hi'; omega)), fun i hi' => by have := hlo.out i hi'; omega, hSame, hF3⟩

set_option maxRecDepth 100000 in
set_option maxHeartbeats 6400000 in
theorem start_1 (p : ProgD) (A1 A2 : Option Addr) (c1 c2 n : Nat) (w : World) (hn : n ≤ w.heap.size) (hcc : p.init.length ≤ c1 ∧ p.ts.length ≤ c2) (hi : IntsAt w (Old n) A1 p.init) (ht : ThreadsAt w (Old n) A2 p.ts) (hB : progB p = true) :
    Calls Try.prog 28 #[.agg #[.slice A1 p.init.length c1, .slice A2 p.ts.length c2], .int .i64 1] w fun e w' => ∃ d : StD, e = .returned (.tuple #[.agg d.cells, .bool true]) ∧ StIn w' d ∧ (∀ i, i < 7 → w.heap.size ≤ (d.iv i).1) ∧ SameSt (startC p 1) d ∧ Below w.heap.size w w' := by
  have hsz : p.init.length ≤ 6 ∧ p.ts.length ≤ 3 ∧ 1 ≤ p.init.length := by
    have h := hB
    unfold progB sizesB at h
    simp only [Bool.and_eq_true, decide_eq_true_eq] at h
    omega
  have hS : ∀ b, Old n b → b < w.heap.size := fun _ h => Nat.lt_of_lt_of_le h hn
  have hb0 := below2 w (Obj.cells #[.slice A1 p.init.length c1, .slice A2 p.ts.length c2] 31) (Obj.cells #[.int .i64 0, .slice none 0 0, .slice none 0 0, .slice none 0 0, .slice none 0 0, .slice none 0 0, .slice none 0 0, .slice none 0 0, .int .i64 0] 48)
  have hok := hide (progOk_any (.agg #[.slice A1 p.init.length c1, .slice A2 p.ts.length c2]) p (Old n) _ (fun b h => Nat.lt_of_lt_of_le (hS b h) hb0.size) ⟨A1, c1, A2, c2, rfl, hcc, hi.below hb0 hS, ht.below hb0 hS⟩)
  have K0 := Blk.new (w.alloc (Obj.cells #[.slice A1 p.init.length c1, .slice A2 p.ts.length c2] 31)) 48 #[.int .i64 0, .slice none 0 0, .slice none 0 0, .slice none 0 0, .slice none 0 0, .slice none 0 0, .slice none 0 0, .slice none 0 0, .int .i64 0]
  have G0 := (Blk.new w 31 #[.slice A1 p.init.length c1, .slice A2 p.ts.length c2]).alloc (Obj.cells #[.int .i64 0, .slice none 0 0, .slice none 0 0, .slice none 0 0, .slice none 0 0, .slice none 0 0, .slice none 0 0, .slice none 0 0, .int .i64 0] 48)
  simp only [World.size_alloc] at K0
  replace K0 := hide K0
  replace G0 := hide G0
  replace hb0 := hide hb0
  replace hi := hide hi
  clear ht
  go_enter Try.func28, Try.ntmps28
  go_wp2_with fail
  refine hok.out.mono ?_
  rintro e w1 ⟨rfl, hb1⟩
  have B1 := hide (below_then hb0.out hb1)
  have K1 := hide (K0.out.below hb1 K0.out.lt)
  have G1 := hide (G0.out.below hb1 G0.out.lt)
  have hz1 := hb1.size
  simp only [World.size_alloc] at hz1
  clear hok hb1 hb0 K0 G0
  rw [hB]
  have g0 : w1.cell? ⟨w.heap.size, 0, none⟩ = some (.slice A1 p.init.length c1) := G1.out.cell 0
  have g1 : w1.cell? ⟨w.heap.size, 1, none⟩ = some (.slice A2 p.ts.length c2) := G1.out.cell 1
  have lg := G1.out.lt
  go_wp2_with fail
  refine (kindStart_1 p A1 A2 c1 c2 n w1 (by omega) (hi.out.below B1.out hS) hsz.2.2 hsz.1 hsz.2.1).mono ?_
  rintro e w2 ⟨T, d, rfl, hBl, hIn, hlo, hSame, hdc, hb2⟩
  have B2 := hide (below_then B1.out hb2)
  have K2 := hide (K1.out.below hb2 K1.out.lt)
  have hBl := hide hBl
  have hIn := hide hIn
  have hlo := hide hlo
  have hdc := hide hdc
  clear hb2 G1 K1 g0 g1 lg
  go_wp2_with fail
  refine (stateOf_1 T A1 A2 d.pc.A d.F.A d.mem.A d.bufs.A p.init.length p.ts.length d.pc.n d.F.n d.mem.n d.bufs.n c1 c2 d.pc.c d.F.c d.mem.c d.bufs.c w2 hBl.out).mono ?_
  rintro e w3 ⟨rfl, hb3⟩
  have B3 := hide (below_then B2.out hb3)
  have K3 := hide (K2.out.below hb3 K2.out.lt)
  have hIn3 := hide (hIn.out.next hb3)
  clear hb3 hBl hIn K2
  have k0 : w3.cell? ⟨w.heap.size + 1, 0, none⟩ = some (.int .i64 0) := K3.out.cell 0
  have z0 := K3.out.frozen 0
  have k1 : w3.cell? ⟨w.heap.size + 1, 1, none⟩ = some (.slice none 0 0) := K3.out.cell 1
  have z1 := K3.out.frozen 1
  have k2 : w3.cell? ⟨w.heap.size + 1, 2, none⟩ = some (.slice none 0 0) := K3.out.cell 2
  have z2 := K3.out.frozen 2
  have k3 : w3.cell? ⟨w.heap.size + 1, 3, none⟩ = some (.slice none 0 0) := K3.out.cell 3
  have z3 := K3.out.frozen 3
  have k4 : w3.cell? ⟨w.heap.size + 1, 4, none⟩ = some (.slice none 0 0) := K3.out.cell 4
  have z4 := K3.out.frozen 4
  have k5 : w3.cell? ⟨w.heap.size + 1, 5, none⟩ = some (.slice none 0 0) := K3.out.cell 5
  have z5 := K3.out.frozen 5
  have k6 : w3.cell? ⟨w.heap.size + 1, 6, none⟩ = some (.slice none 0 0) := K3.out.cell 6
  have z6 := K3.out.frozen 6
  have k7 : w3.cell? ⟨w.heap.size + 1, 7, none⟩ = some (.slice none 0 0) := K3.out.cell 7
  have z7 := K3.out.frozen 7
  have k8 : w3.cell? ⟨w.heap.size + 1, 8, none⟩ = some (.int .i64 0) := K3.out.cell 8
  have z8 := K3.out.frozen 8
  have lg := K3.out.lt
  go_wp2_with fail
  obtain ⟨wF, hwF⟩ : ∃ q, q = s2Set w3 (w.heap.size + 1) (.int .i64 1) (.slice d.pc.A d.pc.n d.pc.c) (.slice d.F.A d.F.n d.F.c) (.slice d.mem.A d.mem.n d.mem.c) (.slice d.bufs.A d.bufs.n d.bufs.c) (.slice none 0 0) (.slice none 0 0) (.slice none 0 0) (.int .i64 0) := ⟨_, rfl⟩
  have hF := s2Set_blk K3.out (v0 := .int .i64 1) (v1 := .slice d.pc.A d.pc.n d.pc.c) (v2 := .slice d.F.A d.F.n d.F.c) (v3 := .slice d.mem.A d.mem.n d.mem.c) (v4 := .slice d.bufs.A d.bufs.n d.bufs.c) (v5 := .slice none 0 0) (v6 := .slice none 0 0) (v7 := .slice none 0 0) (v8 := .int .i64 0)
  have hF1 := s2Set_size w3 (w.heap.size + 1) (.int .i64 1) (.slice d.pc.A d.pc.n d.pc.c) (.slice d.F.A d.F.n d.F.c) (.slice d.mem.A d.mem.n d.mem.c) (.slice d.bufs.A d.bufs.n d.bufs.c) (.slice none 0 0) (.slice none 0 0) (.slice none 0 0) (.int .i64 0)
  have hF2 := fun b => s2Set_heap w3 (w.heap.size + 1) (.int .i64 1) (.slice d.pc.A d.pc.n d.pc.c) (.slice d.F.A d.F.n d.F.c) (.slice d.mem.A d.mem.n d.mem.c) (.slice d.bufs.A d.bufs.n d.bufs.c) (.slice none 0 0) (.slice none 0 0) (.slice none 0 0) (.int .i64 0) b
  have hF3 := s2Set_below (w0 := w) B3.out (show w.heap.size ≤ w.heap.size + 1 by omega) (.int .i64 1) (.slice d.pc.A d.pc.n d.pc.c) (.slice d.F.A d.F.n d.F.c) (.slice d.mem.A d.mem.n d.mem.c) (.slice d.bufs.A d.bufs.n d.bufs.c) (.slice none 0 0) (.slice none 0 0) (.slice none 0 0) (.int .i64 0)
  rw [← hwF] at hF hF1 hF2 hF3
  unfold s2Set at hwF
  rw [← hwF]
  clear hwF k0 z0 k1 z1 k2 z2 k3 z3 k4 z4 k5 z5 k6 z6 k7 z7 k8 z8
  have q0 : wF.cell? ⟨w.heap.size + 1, 0, none⟩ = some (.int .i64 1) := hF.cell 0
  have q1 : wF.cell? ⟨w.heap.size + 1, 1, none⟩ = some (.slice d.pc.A d.pc.n d.pc.c) := hF.cell 1
  have q2 : wF.cell? ⟨w.heap.size + 1, 2, none⟩ = some (.slice d.F.A d.F.n d.F.c) := hF.cell 2
  have q3 : wF.cell? ⟨w.heap.size + 1, 3, none⟩ = some (.slice d.mem.A d.mem.n d.mem.c) := hF.cell 3
  have q4 : wF.cell? ⟨w.heap.size + 1, 4, none⟩ = some (.slice d.bufs.A d.bufs.n d.bufs.c) := hF.cell 4
  have q5 : wF.cell? ⟨w.heap.size + 1, 5, none⟩ = some (.slice none 0 0) := hF.cell 5
  have q6 : wF.cell? ⟨w.heap.size + 1, 6, none⟩ = some (.slice none 0 0) := hF.cell 6
  have q7 : wF.cell? ⟨w.heap.size + 1, 7, none⟩ = some (.slice none 0 0) := hF.cell 7
  have q8 : wF.cell? ⟨w.heap.size + 1, 8, none⟩ = some (.int .i64 0) := hF.cell 8
  refine bodyPost_ret (v := .tuple #[.agg #[.int .i64 1, .slice d.pc.A d.pc.n d.pc.c, .slice d.F.A d.F.n d.F.c, .slice d.mem.A d.mem.n d.mem.c, .slice d.bufs.A d.bufs.n d.bufs.c, .slice none 0 0, .slice none 0 0, .slice none 0 0, .int .i64 0], .bool true]) (by simp [results, Try.results28, go_sem, q0, q1, q2, q3, q4, q5, q6, q7, q8]; done) rfl ⟨d, by rw [hdc.out], hIn3.out.keepIv (by rw [hF1]; exact Nat.le_refl _) (fun i hi' b h1 h2 _ => hF2 b (by have := hlo.out i hi'; omega)), fun i hi' => by have := hlo.out i hi'; omega, hSame, hF3⟩

set_option maxRecDepth 100000 in
set_option maxHeartbeats 6400000 in
theorem start_2 (p : ProgD) (A1 A2 : Option Addr) (c1 c2 n : Nat) (w : World) (hn : n ≤ w.heap.size) (hcc : p.init.length ≤ c1 ∧ p.ts.length ≤ c2) (hi : IntsAt w (Old n) A1 p.init) (ht : ThreadsAt w (Old n) A2 p.ts) (hB : progB p = true) :
    Calls Try.prog 28 #[.agg #[.slice A1 p.init.length c1, .slice A2 p.ts.length c2], .int .i64 2] w fun e w' => ∃ d : StD, e = .returned (.tuple #[.agg d.cells, .bool true]) ∧ StIn w' d ∧ (∀ i, i < 7 → w.heap.size ≤ (d.iv i).1) ∧ SameSt (startV p) d ∧ Below w.heap.size w w' := by
  have hsz : p.init.length ≤ 6 ∧ p.ts.length ≤ 3 ∧ 1 ≤ p.init.length := by
    have h := hB
    unfold progB sizesB at h
    simp only [Bool.and_eq_true, decide_eq_true_eq] at h
    omega
  have hS : ∀ b, Old n b → b < w.heap.size := fun _ h => Nat.lt_of_lt_of_le h hn
  have hb0 := below2 w (Obj.cells #[.slice A1 p.init.length c1, .slice A2 p.ts.length c2] 31) (Obj.cells #[.int .i64 0, .slice none 0 0, .slice none 0 0, .slice none 0 0, .slice none 0 0, .slice none 0 0, .slice none 0 0, .slice none 0 0, .int .i64 0] 48)
  have hok := hide (progOk_any (.agg #[.slice A1 p.init.length c1, .slice A2 p.ts.length c2]) p (Old n) _ (fun b h => Nat.lt_of_lt_of_le (hS b h) hb0.size) ⟨A1, c1, A2, c2, rfl, hcc, hi.below hb0 hS, ht.below hb0 hS⟩)
  have K0 := Blk.new (w.alloc (Obj.cells #[.slice A1 p.init.length c1, .slice A2 p.ts.length c2] 31)) 48 #[.int .i64 0, .slice none 0 0, .slice none 0 0, .slice none 0 0, .slice none 0 0, .slice none 0 0, .slice none 0 0, .slice none 0 0, .int .i64 0]
  have G0 := (Blk.new w 31 #[.slice A1 p.init.length c1, .slice A2 p.ts.length c2]).alloc (Obj.cells #[.int .i64 0, .slice none 0 0, .slice none 0 0, .slice none 0 0, .slice none 0 0, .slice none 0 0, .slice none 0 0, .slice none 0 0, .int .i64 0] 48)
  simp only [World.size_alloc] at K0
  replace K0 := hide K0
  replace G0 := hide G0
  replace hb0 := hide hb0
  replace hi := hide hi
  clear ht
  go_enter Try.func28, Try.ntmps28
  go_wp2_with fail
  refine hok.out.mono ?_
  rintro e w1 ⟨rfl, hb1⟩
  have B1 := hide (below_then hb0.out hb1)
  have K1 := hide (K0.out.below hb1 K0.out.lt)
  have G1 := hide (G0.out.below hb1 G0.out.lt)
  have hz1 := hb1.size
  simp only [World.size_alloc] at hz1
  clear hok hb1 hb0 K0 G0
  rw [hB]
  have g0 : w1.cell? ⟨w.heap.size, 0, none⟩ = some (.slice A1 p.init.length c1) := G1.out.cell 0
  have g1 : w1.cell? ⟨w.heap.size, 1, none⟩ = some (.slice A2 p.ts.length c2) := G1.out.cell 1
  have lg := G1.out.lt
  go_wp2_with fail
  refine (kindStart_2 p A1 A2 c1 c2 n w1 (by omega) (hi.out.below B1.out hS) hsz.2.2 hsz.1 hsz.2.1).mono ?_
  rintro e w2 ⟨T, d, rfl, hBl, hIn, hlo, hSame, hdc, hb2⟩
  have B2 := hide (below_then B1.out hb2)
  have K2 := hide (K1.out.below hb2 K1.out.lt)
  have hBl := hide hBl
  have hIn := hide hIn
  have hlo := hide hlo
  have hdc := hide hdc
  clear hb2 G1 K1 g0 g1 lg
  go_wp2_with fail
  refine (stateOf_2 T A1 A2 d.pc.A d.F.A d.H.A d.view.A d.sc.A p.init.length p.ts.length d.pc.n d.F.n d.H.n d.view.n d.sc.n c1 c2 d.pc.c d.F.c d.H.c d.view.c d.sc.c d.next w2 hBl.out).mono ?_
  rintro e w3 ⟨rfl, hb3⟩
  have B3 := hide (below_then B2.out hb3)
  have K3 := hide (K2.out.below hb3 K2.out.lt)
  have hIn3 := hide (hIn.out.next hb3)
  clear hb3 hBl hIn K2
  have k0 : w3.cell? ⟨w.heap.size + 1, 0, none⟩ = some (.int .i64 0) := K3.out.cell 0
  have z0 := K3.out.frozen 0
  have k1 : w3.cell? ⟨w.heap.size + 1, 1, none⟩ = some (.slice none 0 0) := K3.out.cell 1
  have z1 := K3.out.frozen 1
  have k2 : w3.cell? ⟨w.heap.size + 1, 2, none⟩ = some (.slice none 0 0) := K3.out.cell 2
  have z2 := K3.out.frozen 2
  have k3 : w3.cell? ⟨w.heap.size + 1, 3, none⟩ = some (.slice none 0 0) := K3.out.cell 3
  have z3 := K3.out.frozen 3
  have k4 : w3.cell? ⟨w.heap.size + 1, 4, none⟩ = some (.slice none 0 0) := K3.out.cell 4
  have z4 := K3.out.frozen 4
  have k5 : w3.cell? ⟨w.heap.size + 1, 5, none⟩ = some (.slice none 0 0) := K3.out.cell 5
  have z5 := K3.out.frozen 5
  have k6 : w3.cell? ⟨w.heap.size + 1, 6, none⟩ = some (.slice none 0 0) := K3.out.cell 6
  have z6 := K3.out.frozen 6
  have k7 : w3.cell? ⟨w.heap.size + 1, 7, none⟩ = some (.slice none 0 0) := K3.out.cell 7
  have z7 := K3.out.frozen 7
  have k8 : w3.cell? ⟨w.heap.size + 1, 8, none⟩ = some (.int .i64 0) := K3.out.cell 8
  have z8 := K3.out.frozen 8
  have lg := K3.out.lt
  go_wp2_with fail
  obtain ⟨wF, hwF⟩ : ∃ q, q = s2Set w3 (w.heap.size + 1) (.int .i64 2) (.slice d.pc.A d.pc.n d.pc.c) (.slice d.F.A d.F.n d.F.c) (.slice none 0 0) (.slice none 0 0) (.slice d.H.A d.H.n d.H.c) (.slice d.view.A d.view.n d.view.c) (.slice d.sc.A d.sc.n d.sc.c) (.int .i64 d.next) := ⟨_, rfl⟩
  have hF := s2Set_blk K3.out (v0 := .int .i64 2) (v1 := .slice d.pc.A d.pc.n d.pc.c) (v2 := .slice d.F.A d.F.n d.F.c) (v3 := .slice none 0 0) (v4 := .slice none 0 0) (v5 := .slice d.H.A d.H.n d.H.c) (v6 := .slice d.view.A d.view.n d.view.c) (v7 := .slice d.sc.A d.sc.n d.sc.c) (v8 := .int .i64 d.next)
  have hF1 := s2Set_size w3 (w.heap.size + 1) (.int .i64 2) (.slice d.pc.A d.pc.n d.pc.c) (.slice d.F.A d.F.n d.F.c) (.slice none 0 0) (.slice none 0 0) (.slice d.H.A d.H.n d.H.c) (.slice d.view.A d.view.n d.view.c) (.slice d.sc.A d.sc.n d.sc.c) (.int .i64 d.next)
  have hF2 := fun b => s2Set_heap w3 (w.heap.size + 1) (.int .i64 2) (.slice d.pc.A d.pc.n d.pc.c) (.slice d.F.A d.F.n d.F.c) (.slice none 0 0) (.slice none 0 0) (.slice d.H.A d.H.n d.H.c) (.slice d.view.A d.view.n d.view.c) (.slice d.sc.A d.sc.n d.sc.c) (.int .i64 d.next) b
  have hF3 := s2Set_below (w0 := w) B3.out (show w.heap.size ≤ w.heap.size + 1 by omega) (.int .i64 2) (.slice d.pc.A d.pc.n d.pc.c) (.slice d.F.A d.F.n d.F.c) (.slice none 0 0) (.slice none 0 0) (.slice d.H.A d.H.n d.H.c) (.slice d.view.A d.view.n d.view.c) (.slice d.sc.A d.sc.n d.sc.c) (.int .i64 d.next)
  rw [← hwF] at hF hF1 hF2 hF3
  unfold s2Set at hwF
  rw [← hwF]
  clear hwF k0 z0 k1 z1 k2 z2 k3 z3 k4 z4 k5 z5 k6 z6 k7 z7 k8 z8
  have q0 : wF.cell? ⟨w.heap.size + 1, 0, none⟩ = some (.int .i64 2) := hF.cell 0
  have q1 : wF.cell? ⟨w.heap.size + 1, 1, none⟩ = some (.slice d.pc.A d.pc.n d.pc.c) := hF.cell 1
  have q2 : wF.cell? ⟨w.heap.size + 1, 2, none⟩ = some (.slice d.F.A d.F.n d.F.c) := hF.cell 2
  have q3 : wF.cell? ⟨w.heap.size + 1, 3, none⟩ = some (.slice none 0 0) := hF.cell 3
  have q4 : wF.cell? ⟨w.heap.size + 1, 4, none⟩ = some (.slice none 0 0) := hF.cell 4
  have q5 : wF.cell? ⟨w.heap.size + 1, 5, none⟩ = some (.slice d.H.A d.H.n d.H.c) := hF.cell 5
  have q6 : wF.cell? ⟨w.heap.size + 1, 6, none⟩ = some (.slice d.view.A d.view.n d.view.c) := hF.cell 6
  have q7 : wF.cell? ⟨w.heap.size + 1, 7, none⟩ = some (.slice d.sc.A d.sc.n d.sc.c) := hF.cell 7
  have q8 : wF.cell? ⟨w.heap.size + 1, 8, none⟩ = some (.int .i64 d.next) := hF.cell 8
  refine bodyPost_ret (v := .tuple #[.agg #[.int .i64 2, .slice d.pc.A d.pc.n d.pc.c, .slice d.F.A d.F.n d.F.c, .slice none 0 0, .slice none 0 0, .slice d.H.A d.H.n d.H.c, .slice d.view.A d.view.n d.view.c, .slice d.sc.A d.sc.n d.sc.c, .int .i64 d.next], .bool true]) (by simp [results, Try.results28, go_sem, q0, q1, q2, q3, q4, q5, q6, q7, q8]; done) rfl ⟨d, by rw [hdc.out], hIn3.out.keepIv (by rw [hF1]; exact Nat.le_refl _) (fun i hi' b h1 h2 _ => hF2 b (by have := hlo.out i hi'; omega)), fun i hi' => by have := hlo.out i hi'; omega, hSame, hF3⟩

set_option maxRecDepth 100000 in
set_option maxHeartbeats 6400000 in
theorem kindStart_no (p : ProgD) (kd : Int) (A1 A2 : Option Addr) (c1 c2 : Nat) (w : World) (h3 : p.ts.length ≤ 3) (hk : kindB kd = false) :
    Calls Try.prog 83 #[.agg #[.slice A1 p.init.length c1, .slice A2 p.ts.length c2], .int .i64 kd] w fun e w' => e = .returned .nilIface ∧ Below w.heap.size w w' := by
  have hk' : ¬ kd = 0 ∧ ¬ kd = 1 ∧ ¬ kd = 2 := by
    refine ⟨fun e => ?_, fun e => ?_, fun e => ?_⟩ <;> subst e <;> exact absurd hk (by decide)
  have e0 : (kd == 0) = false := beq_eq_false_iff_ne.2 hk'.1
  have e1 : (kd == 1) = false := beq_eq_false_iff_ne.2 hk'.2.1
  have e2 : (kd == 2) = false := beq_eq_false_iff_ne.2 hk'.2.2
  have B0 := hide (below1 w (Obj.cells #[.slice A1 p.init.length c1, .slice A2 p.ts.length c2] 31))
  clear hk hk'
  go_enter Try.func83, Try.ntmps83
  go_wp2_with fail
  refine (commonStart_up A1 A2 p.init.length p.ts.length c1 c2 _ h3).mono ?_
  rintro e w1 ⟨qp, A5, c5, rs, rfl, -, -, -, -, -, hb1⟩
  have B1 := hide (below_then B0.out hb1)
  clear hb1 B0
  go_wp2_with fail
  go_ret
  exact ⟨rfl, B1.out.alloc B1.out.size _⟩

set_option maxRecDepth 100000 in
set_option maxHeartbeats 6400000 in
theorem stateOf_no (w : World) :
    Calls Try.prog 82 #[.nilIface] w fun e w' => e = .returned (.tuple #[zState, .bool false]) ∧ Below w.heap.size w w' := by
  have t0 : ∀ w, (Instr.typeAssert .nilIface 20 133 true).run Try.prog w = .ok (.tuple #[.pointer none, .bool false]) w := fun _ => by kernel_rfl
  have t1 : ∀ w, (Instr.typeAssert .nilIface 20 139 true).run Try.prog w = .ok (.tuple #[.pointer none, .bool false]) w := fun _ => by kernel_rfl
  have t2 : ∀ w, (Instr.typeAssert .nilIface 20 142 true).run Try.prog w = .ok (.tuple #[.pointer none, .bool false]) w := fun _ => by kernel_rfl
  go_enter Try.func82, Try.ntmps82
  go_wp2_with fail
  refine bodyPost_ret (v := .tuple #[zState, .bool false]) (by simp [zState, results, Try.results82, go_sem]; done) rfl ⟨rfl, ?_⟩
  exact below1 _ _

set_option maxRecDepth 100000 in
set_option maxHeartbeats 6400000 in
theorem start_no (p : ProgD) (kd : Int) (A1 A2 : Option Addr) (c1 c2 n : Nat) (w : World) (hn : n ≤ w.heap.size) (hcc : p.init.length ≤ c1 ∧ p.ts.length ≤ c2) (hi : IntsAt w (Old n) A1 p.init) (ht : ThreadsAt w (Old n) A2 p.ts) (hno : (progB p && kindB kd) = false) :
    Calls Try.prog 28 #[.agg #[.slice A1 p.init.length c1, .slice A2 p.ts.length c2], .int .i64 kd] w fun e w' => e = .returned (.tuple #[zState, .bool false]) ∧ Below w.heap.size w w' := by
  have hS : ∀ b, Old n b → b < w.heap.size := fun _ h => Nat.lt_of_lt_of_le h hn
  have hb0 := below2 w (Obj.cells #[.slice A1 p.init.length c1, .slice A2 p.ts.length c2] 31) (Obj.cells #[.int .i64 0, .slice none 0 0, .slice none 0 0, .slice none 0 0, .slice none 0 0, .slice none 0 0, .slice none 0 0, .slice none 0 0, .int .i64 0] 48)
  have hok := hide (progOk_any (.agg #[.slice A1 p.init.length c1, .slice A2 p.ts.length c2]) p (Old n) _ (fun b h => Nat.lt_of_lt_of_le (hS b h) hb0.size) ⟨A1, c1, A2, c2, rfl, hcc, hi.below hb0 hS, ht.below hb0 hS⟩)
  have K0 := Blk.new (w.alloc (Obj.cells #[.slice A1 p.init.length c1, .slice A2 p.ts.length c2] 31)) 48 #[.int .i64 0, .slice none 0 0, .slice none 0 0, .slice none 0 0, .slice none 0 0, .slice none 0 0, .slice none 0 0, .slice none 0 0, .int .i64 0]
  have G0 := (Blk.new w 31 #[.slice A1 p.init.length c1, .slice A2 p.ts.length c2]).alloc (Obj.cells #[.int .i64 0, .slice none 0 0, .slice none 0 0, .slice none 0 0, .slice none 0 0, .slice none 0 0, .slice none 0 0, .slice none 0 0, .int .i64 0] 48)
  simp only [World.size_alloc] at K0
  replace K0 := hide K0
  replace G0 := hide G0
  replace hb0 := hide hb0
  replace hi := hide hi
  clear ht
  go_enter Try.func28, Try.ntmps28
  go_wp2_with fail
  refine hok.out.mono ?_
  rintro e w1 ⟨rfl, hb1⟩
  have B1 := hide (below_then hb0.out hb1)
  have K1 := hide (K0.out.below hb1 K0.out.lt)
  have G1 := hide (G0.out.below hb1 G0.out.lt)
  have hz1 := hb1.size
  simp only [World.size_alloc] at hz1
  clear hok hb1 hb0 K0 G0
  clear hi
  cases hB : progB p
  · have k0 : w1.cell? ⟨w.heap.size + 1, 0, none⟩ = some (.int .i64 0) := K1.out.cell 0
    have z0 := K1.out.frozen 0
    have k1 : w1.cell? ⟨w.heap.size + 1, 1, none⟩ = some (.slice none 0 0) := K1.out.cell 1
    have z1 := K1.out.frozen 1
    have k2 : w1.cell? ⟨w.heap.size + 1, 2, none⟩ = some (.slice none 0 0) := K1.out.cell 2
    have z2 := K1.out.frozen 2
    have k3 : w1.cell? ⟨w.heap.size + 1, 3, none⟩ = some (.slice none 0 0) := K1.out.cell 3
    have z3 := K1.out.frozen 3
    have k4 : w1.cell? ⟨w.heap.size + 1, 4, none⟩ = some (.slice none 0 0) := K1.out.cell 4
    have z4 := K1.out.frozen 4
    have k5 : w1.cell? ⟨w.heap.size + 1, 5, none⟩ = some (.slice none 0 0) := K1.out.cell 5
    have z5 := K1.out.frozen 5
    have k6 : w1.cell? ⟨w.heap.size + 1, 6, none⟩ = some (.slice none 0 0) := K1.out.cell 6
    have z6 := K1.out.frozen 6
    have k7 : w1.cell? ⟨w.heap.size + 1, 7, none⟩ = some (.slice none 0 0) := K1.out.cell 7
    have z7 := K1.out.frozen 7
    have k8 : w1.cell? ⟨w.heap.size + 1, 8, none⟩ = some (.int .i64 0) := K1.out.cell 8
    have z8 := K1.out.frozen 8
    have lg := K1.out.lt
    go_wp2_with fail
    refine bodyPost_ret (v := .tuple #[zState, .bool false]) (by simp [zState, results, Try.results28, go_sem, k0, k1, k2, k3, k4, k5, k6, k7, k8]; done) rfl ⟨rfl, ?_⟩
    iterate 9 (refine Below.setCell ?_ (by show w.heap.size ≤ w.heap.size + 1; omega) _)
    exact B1.out
  · rw [hB, Bool.true_and] at hno
    have hsz : p.ts.length ≤ 3 := by
      have h := hB
      unfold progB sizesB at h
      simp only [Bool.and_eq_true, decide_eq_true_eq] at h
      omega
    have g0 : w1.cell? ⟨w.heap.size, 0, none⟩ = some (.slice A1 p.init.length c1) := G1.out.cell 0
    have g1 : w1.cell? ⟨w.heap.size, 1, none⟩ = some (.slice A2 p.ts.length c2) := G1.out.cell 1
    have lg1 := G1.out.lt
    go_wp2_with fail
    refine (kindStart_no p kd A1 A2 c1 c2 w1 hsz hno).mono ?_
    rintro e w2 ⟨rfl, hb2⟩
    have B2 := hide (below_then B1.out hb2)
    have K2 := hide (K1.out.below hb2 K1.out.lt)
    clear g0 g1 lg1 hb2
    go_wp2_with fail
    refine (stateOf_no w2).mono ?_
    rintro e w3 ⟨rfl, hb3⟩
    have B3 := hide (below_then B2.out hb3)
    have K3 := hide (K2.out.below hb3 K2.out.lt)
    clear hb3
    unfold zState
    have k0 : w3.cell? ⟨w.heap.size + 1, 0, none⟩ = some (.int .i64 0) := K3.out.cell 0
    have z0 := K3.out.frozen 0
    have k1 : w3.cell? ⟨w.heap.size + 1, 1, none⟩ = some (.slice none 0 0) := K3.out.cell 1
    have z1 := K3.out.frozen 1
    have k2 : w3.cell? ⟨w.heap.size + 1, 2, none⟩ = some (.slice none 0 0) := K3.out.cell 2
    have z2 := K3.out.frozen 2
    have k3 : w3.cell? ⟨w.heap.size + 1, 3, none⟩ = some (.slice none 0 0) := K3.out.cell 3
    have z3 := K3.out.frozen 3
    have k4 : w3.cell? ⟨w.heap.size + 1, 4, none⟩ = some (.slice none 0 0) := K3.out.cell 4
    have z4 := K3.out.frozen 4
    have k5 : w3.cell? ⟨w.heap.size + 1, 5, none⟩ = some (.slice none 0 0) := K3.out.cell 5
    have z5 := K3.out.frozen 5
    have k6 : w3.cell? ⟨w.heap.size + 1, 6, none⟩ = some (.slice none 0 0) := K3.out.cell 6
    have z6 := K3.out.frozen 6
    have k7 : w3.cell? ⟨w.heap.size + 1, 7, none⟩ = some (.slice none 0 0) := K3.out.cell 7
    have z7 := K3.out.frozen 7
    have k8 : w3.cell? ⟨w.heap.size + 1, 8, none⟩ = some (.int .i64 0) := K3.out.cell 8
    have z8 := K3.out.frozen 8
    have lg := K3.out.lt
    go_wp2_with fail
    refine bodyPost_ret (v := .tuple #[zState, .bool false]) (by simp [zState, results, Try.results28, go_sem, k0, k1, k2, k3, k4, k5, k6, k7, k8]; done) rfl ⟨rfl, ?_⟩
    iterate 9 (refine Below.setCell ?_ (by show w.heap.size ≤ w.heap.size + 1; omega) _)
    exact B3.out
end Go.Proofs.Ytfkaacfeikmabaa

namespace Go.Proofs.Ytfkaacfeikmabaa
open Go.RowKit

def cellB (x : Int) (m : Nat) : Bool := decide (0 ≤ x ∧ x < m)
theorem cellB_yes {x : Int} {m : Nat} (h : 0 ≤ x ∧ x < m) : cellB x m = true := decide_eq_true h
theorem cellB_no {x : Int} {m : Nat} (h : ¬ (0 ≤ x ∧ x < m)) : cellB x m = false := decide_eq_false h

set_option maxHeartbeats 800000 in
theorem isCell_any (x : Int) (m : Nat) (w : World) : Calls Try.prog 162 #[.int .i64 x, .int .i64 m] w fun e w' => e = .returned (.bool (cellB x m)) ∧ w = w' := by
  by_cases h0 : 0 ≤ x
  · by_cases h1 : x < m
    · rw [cellB_yes ⟨h0, h1⟩]
      go_enter Try.func162, Try.ntmps162
      go_wp2
      go_ret
      exact ⟨rfl, rfl⟩
    · rw [cellB_no (by omega)]
      have h2 : decide (x < (m : Int)) = false := by simpa using h1
      go_enter Try.func162, Try.ntmps162
      go_wp2
      go_ret
      exact ⟨rfl, rfl⟩
  · rw [cellB_no (by omega)]
    have h2 : decide (0 ≤ x) = false := by simpa using h0
    go_enter Try.func162, Try.ntmps162
    go_wp2
    go_ret
    exact ⟨rfl, rfl⟩
end Go.Proofs.Ytfkaacfeikmabaa
