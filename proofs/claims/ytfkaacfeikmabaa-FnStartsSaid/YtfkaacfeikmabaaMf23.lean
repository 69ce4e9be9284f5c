/- The model's l2start and Start: a beginning of KdView. -/
import Derived.Test.YtfkaacfeikmabaaMf0
import Derived.Test.YtfkaacfeikmabaaMf12
import Derived.Test.YtfkaacfeikmabaaMf14
import Derived.Test.YtfkaacfeikmabaaMf22
namespace Go.Proofs.Ytfkaacfeikmabaa
open Go.RowKit

def zState : Value := .agg #[.int .i64 0, .slice none 0 0, .slice none 0 0, .slice none 0 0, .slice none 0 0, .slice none 0 0, .slice none 0 0, .slice none 0 0, .int .i64 0]
set_option maxRecDepth 100000 in
set_option maxHeartbeats 3200000 in
theorem sstart_no (p : ProgD) (kd : Int) (A1 A2 : Option Addr) (c1 c2 n : Nat) (w : World) (hn : n ≤ w.heap.size) (hcc : p.init.length ≤ c1 ∧ p.ts.length ≤ c2) (hi : IntsAt w (Old n) A1 p.init) (ht : ThreadsAt w (Old n) A2 p.ts) (hno : (progB p && kindB kd) = false) :
    Calls Try.prog 27 #[.agg #[.slice A1 p.init.length c1, .slice A2 p.ts.length c2], .int .i64 kd] w fun e w' => e = .returned (.tuple #[zState, .bool false]) ∧ Below w.heap.size w w' := by
  have hS : ∀ b, Old n b → b < w.heap.size := fun _ h => Nat.lt_of_lt_of_le h hn
  have hb0 := below2 w (Obj.cells #[.slice A1 p.init.length c1, .slice A2 p.ts.length c2] 31) (Obj.cells #[.int .i64 0, .slice none 0 0, .slice none 0 0, .slice none 0 0, .slice none 0 0, .slice none 0 0, .slice none 0 0, .slice none 0 0, .int .i64 0] 48)
  have hok := hide (sprogOk_any (.agg #[.slice A1 p.init.length c1, .slice A2 p.ts.length c2]) p (Old n) _ (fun b h => Nat.lt_of_lt_of_le (hS b h) hb0.size) ⟨A1, c1, A2, c2, rfl, hcc, hi.below hb0 hS, ht.below hb0 hS⟩)
  have K0 := Blk.new (w.alloc (Obj.cells #[.slice A1 p.init.length c1, .slice A2 p.ts.length c2] 31)) 48 #[.int .i64 0, .slice none 0 0, .slice none 0 0, .slice none 0 0, .slice none 0 0, .slice none 0 0, .slice none 0 0, .slice none 0 0, .int .i64 0]
  simp only [World.size_alloc] at K0
  replace K0 := hide K0
  replace hb0 := hide hb0
  clear hi ht
  go_enter Try.func27, Try.ntmps27
  go_wp2_with fail
  refine hok.out.mono ?_
  rintro e w1 ⟨rfl, hb1⟩
  have B1 := hide (below_then hb0.out hb1)
  have K1 := hide (K0.out.below hb1 K0.out.lt)
  clear hok hb1 hb0 K0
  cases hB : progB p
  · have k0 : w1.cell? ⟨w.heap.size + 1, 0, none⟩ = some (.int .i64 0) := K1.out.cell 0
    have z0 := K1.out.frozen 0
    have k1 : w1.cell? ⟨w.heap.size + 1, 1, none⟩ = some (.slice none 0 0) := K1.out.cell 1
    have z1 := K1.out.frozen 1
    have k2 : w1.cell? ⟨w.heap.size + 1, 2, none⟩ = some (.slice none 0 0) := K1.out.cell 2
    have z2 := K1.out.frozen 2
    have k3 : w1.cell? ⟨w.heap.size + 1, 3, none⟩ = some (.slice none 0 0) := K1.out.cell 3
    have z3 := K1.out.frozen 3
    have k4 : w1.cell? ⟨w.heap.size + 1, 4, none⟩ = some (.slice none 0 0) := K1.out.cell 4
    have z4 := K1.out.frozen 4
    have k5 : w1.cell? ⟨w.heap.size + 1, 5, none⟩ = some (.slice none 0 0) := K1.out.cell 5
    have z5 := K1.out.frozen 5
    have k6 : w1.cell? ⟨w.heap.size + 1, 6, none⟩ = some (.slice none 0 0) := K1.out.cell 6
    have z6 := K1.out.frozen 6
    have k7 : w1.cell? ⟨w.heap.size + 1, 7, none⟩ = some (.slice none 0 0) := K1.out.cell 7
    have z7 := K1.out.frozen 7
    have k8 : w1.cell? ⟨w.heap.size + 1, 8, none⟩ = some (.int .i64 0) := K1.out.cell 8
    have z8 := K1.out.frozen 8
    have lg := K1.out.lt
    go_wp2_with fail
    refine bodyPost_ret (v := .tuple #[zState, .bool false]) (by simp [zState, results, Try.results27, go_sem, k0, k1, k2, k3, k4, k5, k6, k7, k8]; done) rfl ⟨rfl, ?_⟩
    iterate 9 (refine Below.setCell ?_ (by show w.heap.size ≤ w.heap.size + 1; omega) _)
    exact B1.out
  · rw [hB, Bool.true_and] at hno
    go_wp2_with fail
    refine (l2kind_any kd w1).mono ?_
    rintro e w2 ⟨rfl, rfl⟩
    rw [hno]
    have k0 : w1.cell? ⟨w.heap.size + 1, 0, none⟩ = some (.int .i64 0) := K1.out.cell 0
    have z0 := K1.out.frozen 0
    have k1 : w1.cell? ⟨w.heap.size + 1, 1, none⟩ = some (.slice none 0 0) := K1.out.cell 1
    have z1 := K1.out.frozen 1
    have k2 : w1.cell? ⟨w.heap.size + 1, 2, none⟩ = some (.slice none 0 0) := K1.out.cell 2
    have z2 := K1.out.frozen 2
    have k3 : w1.cell? ⟨w.heap.size + 1, 3, none⟩ = some (.slice none 0 0) := K1.out.cell 3
    have z3 := K1.out.frozen 3
    have k4 : w1.cell? ⟨w.heap.size + 1, 4, none⟩ = some (.slice none 0 0) := K1.out.cell 4
    have z4 := K1.out.frozen 4
    have k5 : w1.cell? ⟨w.heap.size + 1, 5, none⟩ = some (.slice none 0 0) := K1.out.cell 5
    have z5 := K1.out.frozen 5
    have k6 : w1.cell? ⟨w.heap.size + 1, 6, none⟩ = some (.slice none 0 0) := K1.out.cell 6
    have z6 := K1.out.frozen 6
    have k7 : w1.cell? ⟨w.heap.size + 1, 7, none⟩ = some (.slice none 0 0) := K1.out.cell 7
    have z7 := K1.out.frozen 7
    have k8 : w1.cell? ⟨w.heap.size + 1, 8, none⟩ = some (.int .i64 0) := K1.out.cell 8
    have z8 := K1.out.frozen 8
    have lg := K1.out.lt
    go_wp2_with fail
    refine bodyPost_ret (v := .tuple #[zState, .bool false]) (by simp [zState, results, Try.results27, go_sem, k0, k1, k2, k3, k4, k5, k6, k7, k8]; done) rfl ⟨rfl, ?_⟩
    iterate 9 (refine Below.setCell ?_ (by show w.heap.size ≤ w.heap.size + 1; omega) _)
    exact B1.out

set_option maxRecDepth 100000 in
set_option maxHeartbeats 6400000 in
theorem sstart_01 (p : ProgD) (kd : Int) (A1 A2 : Option Addr) (c1 c2 n : Nat) (w : World) (hn : n ≤ w.heap.size) (hcc : p.init.length ≤ c1 ∧ p.ts.length ≤ c2) (hi : IntsAt w (Old n) A1 p.init) (ht : ThreadsAt w (Old n) A2 p.ts) (hB : progB p = true) (hk : kd = 0 ∨ kd = 1) :
    Calls Try.prog 27 #[.agg #[.slice A1 p.init.length c1, .slice A2 p.ts.length c2], .int .i64 kd] w fun e w' => ∃ d : StD, e = .returned (.tuple #[.agg d.cells, .bool true]) ∧ StIn w' d ∧ (∀ i, i < 7 → w.heap.size ≤ (d.iv i).1) ∧ SameSt (startC p kd) d ∧ Below w.heap.size w w' := by
  have hS : ∀ b, Old n b → b < w.heap.size := fun _ h => Nat.lt_of_lt_of_le h hn
  have hsz : p.init.length ≤ 6 ∧ p.ts.length ≤ 3 := by
    have h := hB
    unfold progB sizesB at h
    simp only [Bool.and_eq_true, decide_eq_true_eq] at h
    omega
  have hb0 := below2 w (Obj.cells #[.slice A1 p.init.length c1, .slice A2 p.ts.length c2] 31) (Obj.cells #[.int .i64 0, .slice none 0 0, .slice none 0 0, .slice none 0 0, .slice none 0 0, .slice none 0 0, .slice none 0 0, .slice none 0 0, .int .i64 0] 48)
  have hok := hide (sprogOk_any (.agg #[.slice A1 p.init.length c1, .slice A2 p.ts.length c2]) p (Old n) _ (fun b h => Nat.lt_of_lt_of_le (hS b h) hb0.size) ⟨A1, c1, A2, c2, rfl, hcc, hi.below hb0 hS, ht.below hb0 hS⟩)
  have K0 := Blk.new (w.alloc (Obj.cells #[.slice A1 p.init.length c1, .slice A2 p.ts.length c2] 31)) 48 #[.int .i64 0, .slice none 0 0, .slice none 0 0, .slice none 0 0, .slice none 0 0, .slice none 0 0, .slice none 0 0, .slice none 0 0, .int .i64 0]
  have G0 := (Blk.new w 31 #[.slice A1 p.init.length c1, .slice A2 p.ts.length c2]).alloc (Obj.cells #[.int .i64 0, .slice none 0 0, .slice none 0 0, .slice none 0 0, .slice none 0 0, .slice none 0 0, .slice none 0 0, .slice none 0 0, .int .i64 0] 48)
  simp only [World.size_alloc] at K0
  replace K0 := hide K0
  replace G0 := hide G0
  replace hb0 := hide hb0
  replace hi := hide hi
  clear ht
  go_enter Try.func27, Try.ntmps27
  go_wp2_with fail
  refine hok.out.mono ?_
  rintro e w1 ⟨rfl, hb1⟩
  have B1 := hide (below_then hb0.out hb1)
  have K1 := hide (K0.out.below hb1 K0.out.lt)
  have G1 := hide (G0.out.below hb1 G0.out.lt)
  have hz1 := hb1.size
  simp only [World.size_alloc] at hz1
  clear hok hb1 hb0 K0 G0
  rw [hB]
  have hkb : kindB kd = true := by rcases hk with rfl | rfl <;> decide
  have g0 : w1.cell? ⟨w.heap.size, 0, none⟩ = some (.slice A1 p.init.length c1) := G1.out.cell 0
  have g1 : w1.cell? ⟨w.heap.size, 1, none⟩ = some (.slice A2 p.ts.length c2) := G1.out.cell 1
  go_wp2_with fail
  refine (l2kind_any kd w1).mono ?_
  rintro e w2 ⟨rfl, rfl⟩
  rw [hkb]
  go_wp2_with fail
  refine (l2start_01 p kd A1 A2 c1 c2 n w1 hsz.2 (by omega) hsz.1 (hi.out.below B1.out hS) hk).mono ?_
  rintro e w3 ⟨d, rfl, hIn, hlo, hsame, hb3⟩
  have K3 := hide (K1.out.below hb3 K1.out.lt)
  have B3 := hide (below_then B1.out hb3)
  replace hIn := hide hIn
  replace hlo := hide hlo
  have hdc := hide (show d.cells = #[.int .i64 d.kind, .slice d.pc.A d.pc.n d.pc.c, .slice d.F.A d.F.n d.F.c, .slice d.mem.A d.mem.n d.mem.c, .slice d.bufs.A d.bufs.n d.bufs.c, .slice d.H.A d.H.n d.H.c, .slice d.view.A d.view.n d.view.c, .slice d.sc.A d.sc.n d.sc.c, .int .i64 d.next] from rfl)
  rw [hdc.out]
  clear g0 g1 G1 K1 hb3
  have k0 : w3.cell? ⟨w.heap.size + 1, 0, none⟩ = some (.int .i64 0) := K3.out.cell 0
  have z0 := K3.out.frozen 0
  have k1 : w3.cell? ⟨w.heap.size + 1, 1, none⟩ = some (.slice none 0 0) := K3.out.cell 1
  have z1 := K3.out.frozen 1
  have k2 : w3.cell? ⟨w.heap.size + 1, 2, none⟩ = some (.slice none 0 0) := K3.out.cell 2
  have z2 := K3.out.frozen 2
  have k3 : w3.cell? ⟨w.heap.size + 1, 3, none⟩ = some (.slice none 0 0) := K3.out.cell 3
  have z3 := K3.out.frozen 3
  have k4 : w3.cell? ⟨w.heap.size + 1, 4, none⟩ = some (.slice none 0 0) := K3.out.cell 4
  have z4 := K3.out.frozen 4
  have k5 : w3.cell? ⟨w.heap.size + 1, 5, none⟩ = some (.slice none 0 0) := K3.out.cell 5
  have z5 := K3.out.frozen 5
  have k6 : w3.cell? ⟨w.heap.size + 1, 6, none⟩ = some (.slice none 0 0) := K3.out.cell 6
  have z6 := K3.out.frozen 6
  have k7 : w3.cell? ⟨w.heap.size + 1, 7, none⟩ = some (.slice none 0 0) := K3.out.cell 7
  have z7 := K3.out.frozen 7
  have k8 : w3.cell? ⟨w.heap.size + 1, 8, none⟩ = some (.int .i64 0) := K3.out.cell 8
  have z8 := K3.out.frozen 8
  have lg := K3.out.lt
  go_wp2_with fail
  obtain ⟨wF, hwF⟩ : ∃ q, q = s2Set w3 (w.heap.size + 1) (.int .i64 d.kind) (.slice d.pc.A d.pc.n d.pc.c) (.slice d.F.A d.F.n d.F.c) (.slice d.mem.A d.mem.n d.mem.c) (.slice d.bufs.A d.bufs.n d.bufs.c) (.slice d.H.A d.H.n d.H.c) (.slice d.view.A d.view.n d.view.c) (.slice d.sc.A d.sc.n d.sc.c) (.int .i64 d.next) := ⟨_, rfl⟩
  have hF := s2Set_blk K3.out (v0 := .int .i64 d.kind) (v1 := .slice d.pc.A d.pc.n d.pc.c) (v2 := .slice d.F.A d.F.n d.F.c) (v3 := .slice d.mem.A d.mem.n d.mem.c) (v4 := .slice d.bufs.A d.bufs.n d.bufs.c) (v5 := .slice d.H.A d.H.n d.H.c) (v6 := .slice d.view.A d.view.n d.view.c) (v7 := .slice d.sc.A d.sc.n d.sc.c) (v8 := .int .i64 d.next)
  have hF1 := s2Set_size w3 (w.heap.size + 1) (.int .i64 d.kind) (.slice d.pc.A d.pc.n d.pc.c) (.slice d.F.A d.F.n d.F.c) (.slice d.mem.A d.mem.n d.mem.c) (.slice d.bufs.A d.bufs.n d.bufs.c) (.slice d.H.A d.H.n d.H.c) (.slice d.view.A d.view.n d.view.c) (.slice d.sc.A d.sc.n d.sc.c) (.int .i64 d.next)
  have hF2 := fun b => s2Set_heap w3 (w.heap.size + 1) (.int .i64 d.kind) (.slice d.pc.A d.pc.n d.pc.c) (.slice d.F.A d.F.n d.F.c) (.slice d.mem.A d.mem.n d.mem.c) (.slice d.bufs.A d.bufs.n d.bufs.c) (.slice d.H.A d.H.n d.H.c) (.slice d.view.A d.view.n d.view.c) (.slice d.sc.A d.sc.n d.sc.c) (.int .i64 d.next) b
  have hF3 := s2Set_below (w0 := w) B3.out (show w.heap.size ≤ w.heap.size + 1 by omega) (.int .i64 d.kind) (.slice d.pc.A d.pc.n d.pc.c) (.slice d.F.A d.F.n d.F.c) (.slice d.mem.A d.mem.n d.mem.c) (.slice d.bufs.A d.bufs.n d.bufs.c) (.slice d.H.A d.H.n d.H.c) (.slice d.view.A d.view.n d.view.c) (.slice d.sc.A d.sc.n d.sc.c) (.int .i64 d.next)
  rw [← hwF] at hF hF1 hF2 hF3
  unfold s2Set at hwF
  rw [← hwF]
  clear hwF k0 k1 k2 k3 k4 k5 k6 k7 k8 z0 z1 z2 z3 z4 z5 z6 z7 z8
  have q0 : wF.cell? ⟨w.heap.size + 1, 0, none⟩ = some (.int .i64 d.kind) := hF.cell 0
  have q1 : wF.cell? ⟨w.heap.size + 1, 1, none⟩ = some (.slice d.pc.A d.pc.n d.pc.c) := hF.cell 1
  have q2 : wF.cell? ⟨w.heap.size + 1, 2, none⟩ = some (.slice d.F.A d.F.n d.F.c) := hF.cell 2
  have q3 : wF.cell? ⟨w.heap.size + 1, 3, none⟩ = some (.slice d.mem.A d.mem.n d.mem.c) := hF.cell 3
  have q4 : wF.cell? ⟨w.heap.size + 1, 4, none⟩ = some (.slice d.bufs.A d.bufs.n d.bufs.c) := hF.cell 4
  have q5 : wF.cell? ⟨w.heap.size + 1, 5, none⟩ = some (.slice d.H.A d.H.n d.H.c) := hF.cell 5
  have q6 : wF.cell? ⟨w.heap.size + 1, 6, none⟩ = some (.slice d.view.A d.view.n d.view.c) := hF.cell 6
  have q7 : wF.cell? ⟨w.heap.size + 1, 7, none⟩ = some (.slice d.sc.A d.sc.n d.sc.c) := hF.cell 7
  have q8 : wF.cell? ⟨w.heap.size + 1, 8, none⟩ = some (.int .i64 d.next) := hF.cell 8
  refine bodyPost_ret (v := .tuple #[.agg #[.int .i64 d.kind, .slice d.pc.A d.pc.n d.pc.c, .slice d.F.A d.F.n d.F.c, .slice d.mem.A d.mem.n d.mem.c, .slice d.bufs.A d.bufs.n d.bufs.c, .slice d.H.A d.H.n d.H.c, .slice d.view.A d.view.n d.view.c, .slice d.sc.A d.sc.n d.sc.c, .int .i64 d.next], .bool true]) (by simp [results, Try.results27, go_sem, q0, q1, q2, q3, q4, q5, q6, q7, q8]; done) rfl ⟨d, rfl, hIn.out.keepIv (by rw [hF1]; exact Nat.le_refl _) (fun i hi' b h1 h2 _ => hF2 b (by have := hlo.out i hi'; omega)), fun i hi' => by have := hlo.out i hi'; omega, hsame, hF3⟩
end Go.Proofs.Ytfkaacfeikmabaa

namespace Go.Proofs.Ytfkaacfeikmabaa
open Go.RowKit

attribute [local go_sem ↓] Go.wp_at_zero Go.wp_at_succ

def startV (p : ProgD) : StD := ⟨2, ⟨0, 0, none, p.ts.length, 0, zerosS p.ts.length⟩, ⟨0, 0, none, p.ts.length, 0, List.replicate p.ts.length (zrowD 0 6)⟩, nilRow 0, nilRows 0, ⟨0, 0, none, p.init.length, 0, histK p.init p.init.length, fun _ => 0, fun _ => 0, fun _ => 0, fun _ _ => 0⟩, ⟨0, 0, none, p.ts.length, 0, List.replicate p.ts.length ⟨0, 0, none, p.init.length, 0, idsL p.init.length⟩⟩, ⟨0, 0, none, p.init.length, 0, idsL p.init.length⟩, p.init.length⟩
theorem histK_sum (init : List Int) (k : Nat) : (postLens (histK init k)).sum = k * (1 + init.length) := by
  induction k with
  | zero => simp [histK, postLens]
  | succ k ih =>
    rw [histK_succ]
    unfold postLens at ih ⊢
    rw [List.map_append, List.sum_append, ih]
    simp [postSize, viewLens, idsL_len]
    rw [Nat.add_mul]
    omega
theorem histK_small (init : List Int) (h : init.length ≤ 6) : histSize (histK init init.length) ≤ 1048576 := by
  unfold histSize
  rw [histK_sum, histK_len]
  have : init.length * (1 + init.length) ≤ 6 * 7 := Nat.mul_le_mul h (by omega)
  omega

set_option maxRecDepth 100000 in
set_option maxHeartbeats 12800000 in
theorem l2start_2 (p : ProgD) (A1 A2 : Option Addr) (c1 c2 n : Nat) (w : World) (hn : p.ts.length ≤ 3) (hs : n ≤ w.heap.size) (hz : p.init.length ≤ 6) (hz1 : 1 ≤ p.init.length) (hi : IntsAt w (Old n) A1 p.init) :
    Calls Try.prog 81 #[.agg #[.slice A1 p.init.length c1, .slice A2 p.ts.length c2], .int .i64 2] w fun e w' => ∃ d : StD, e = .returned (.agg d.cells) ∧ StIn w' d ∧ (∀ i, i < 7 → w.heap.size ≤ (d.iv i).1) ∧ SameSt (startV p) d ∧ Below w.heap.size w w' := by
  have hmk := make_ints p.ts.length (by omega)
  have hm6 : ∀ W : World, (Instr.makeSlice 22 (.int .i64 6) (.int .i64 6)).run Try.prog W = .ok (.slice (some ⟨W.heap.size, 0, none⟩) 6 6) (W.alloc (.cells (zrow #[.int .i64 0] 6) 3)) := fun W => make_ints 6 (by omega) W
  obtain ⟨i2, hi2, hx0, hx1, hx2⟩ := info_parts Try.infoFileS
  have hi2 := hide hi2
  go_enter Try.func81, Try.ntmps81
  go_wp2_with fail
  have S0 := S2At.start w 2 p.ts.length #[.slice A1 p.init.length c1, .slice A2 p.ts.length c2]
  obtain ⟨w4, hw4⟩ : ∃ wq, wq = s2W w 2 p.ts.length #[.slice A1 p.init.length c1, .slice A2 p.ts.length c2] := ⟨_, rfl⟩
  rw [← hw4] at S0
  unfold s2W s2C at hw4
  rw [← hw4]
  clear hw4
  go_loopw [6] (fun k wr => ∃ (rs : List RowD) (fv : Value), k = .int .i64 rs.length ∧ rs.length ≤ p.ts.length ∧ S2At w 2 p.ts.length #[.slice A1 p.init.length c1, .slice A2 p.ts.length c2] fv rs wr) (fun k _ => (p.ts.length - intOf k).toNat)
  case atStart => exact ⟨[], _, rfl, Nat.zero_le _, S0⟩
  case round =>
    obtain ⟨rs, fv, rfl, hfl, h1⟩ := hrel
    have hs1 := h1.blk.lt
    have hs2 : w.heap.size + 1 + 1 < wr.heap.size := by omega
    have hs3 : w.heap.size + 1 < wr.heap.size := by omega
    have hbx1 := h1.box.lt
    have g1 : wr.cell? ⟨w.heap.size, 1, none⟩ = some (.slice A2 p.ts.length c2) := h1.box.cell 1
    obtain ⟨d1, d2⟩ := h1.cells
    clear S0
    by_cases hlt : rs.length < p.ts.length
    · have hlt' : (rs.length : Int) < (p.ts.length : Int) := by omega
      have h2 := h1.drew
      have hnew : ((wr.drew.alloc (.cells (zrow #[.int .i64 0] 6) 3)).alloc (.cells #[.slice (some ⟨wr.heap.size, 0, none⟩) 6 6] 69)).heap[wr.heap.size + 1]? = some (.cells #[.slice (some ⟨wr.heap.size, 0, none⟩) 6 6] 69 (0, 0)) := by
        have := heap_alloc_new (wr.drew.alloc (.cells (zrow #[.int .i64 0] 6) 3)) (.cells #[.slice (some ⟨wr.heap.size, 0, none⟩) 6 6] 69)
        rw [World.size_alloc] at this
        exact this
      go_wp2_with fail
      go_region_law (first
        | (refine step_append_lies _ (by rfl) _ _ _ (by rfl) (w.heap.size + 1 + 1 + 1 + 1) 69 i2 _ 1 24 Try.underlying44 hi2.out hx0 hx1 hx2 rfl (by omega) fv rs.length (rs.map RowD.val) (by rfl) ((h2.alloc (.cells (zrow #[.int .i64 0] 6) 3)).alloc _).up.own _ 1 1 [.slice (some ⟨wr.heap.size, 0, none⟩) 6 6] (by rfl) ?hl (World.news_of_block hnew) ?h1 (by omega) ?h63 ?hby ?hb _ (by rfl) ?_
           case hl => rfl
           case h1 => simp [Value.oneCell']
           case h63 => (have : maxLen = 9223372036854775807 := rfl); omega
           case hby => omega
           case hb => simp; omega
           intro gg cap w4 hown hgrow hat hlt4
           obtain ⟨⟨g0, g1⟩, h3⟩ := S2At.grow ((h2.alloc (.cells (zrow #[.int .i64 0] 6) 3)).alloc _) (rowT_zeros ((Blk.new wr.drew 3 (zrow #[.int .i64 0] 6)).alloc _)) (fun k hk => (h1.up.rng k hk).2) (by show w.heap.size + 1 + 1 + 1 + 1 ≤ wr.heap.size; omega) rfl hown hgrow))
      all_goals
        go_wp2_with fail
        go_roundw
        case rel => exact ⟨_, _, by simp, by simp; omega, h3⟩
        case measure => simp [intOf]; omega
    · obtain hre : rs.length = p.ts.length := by omega
      obtain ⟨A5, c5, rfl, hrow⟩ := h1.up.toI (Nat.le_refl _)
      have g0 : wr.cell? ⟨w.heap.size, 0, none⟩ = some (.slice A1 p.init.length c1) := h1.box.cell 0
      have hM0 := hi.below h1.below (fun b hb => Nat.lt_of_lt_of_le hb hs)
      have hl4 := hide (l4start_any p (w.heap.size + 1 + 1 + 1) n A1 A2 c1 c2 (.int .i64 2) (.slice (some ⟨w.heap.size + 1 + 1, 0, none⟩) p.ts.length p.ts.length) (.slice A5 rs.length c5) wr h1.blk (by omega) hM0 hz1 hz hn)
      have H1 := hide h1
      have hrow := hide hrow
      rw [hre] at d1 hl4
      clear h1 hM0 hi2 hx0 hx1 hx2 hm6 hmk
      go_wp2_with fail
      refine hl4.out.mono ?_
      rintro e w1 ⟨rfl, A7, A8, c7, c8, hm, los, his, pq, qs, rs2, hO, hB, hI, hH, hV, hv1, hv2, hm1, hm2⟩
      have hz1' := hO.size
      obtain ⟨rcs, rc0, rsz⟩ := H1.out.res
      have rc := rc0.only hO (by omega)
      obtain ⟨u0, u1, u2, u3, u4, u5, u6, u7, u8, rfl⟩ : ∃ u0 u1 u2 u3 u4 u5 u6 u7 u8 : Value, rcs = #[u0, u1, u2, u3, u4, u5, u6, u7, u8] := by
        obtain ⟨l⟩ := rcs
        match l, rsz with
        | [a, b, c, d, e, f, g, h, i], _ => exact ⟨a, b, c, d, e, f, g, h, i, rfl⟩
      have hpc : RowT 3 w1 (w.heap.size + 1 + 1) (zerosS p.ts.length) := H1.out.pcs.only hO (by omega)
      have hF : RowsI 69 3 w1 (w.heap.size + 1 + 1 + 1 + 1) wr.heap.size A5 rs := hrow.out.keep (fun b b1 b2 b3 => hO.block b b3 (by omega))
      have hlen : ∀ k, k < rs.length → (getr rs k).zs.length = (getr rs k).n ∧ (getr rs k).n ≤ 1048576 := fun k hk => by
        obtain ⟨e1, e2⟩ := H1.out.six k hk
        rw [e1, e2, zerosS_len]
        exact ⟨rfl, by omega⟩
      have hlen2 : ∀ k, k < rs2.length → (getr rs2 k).zs.length = (getr rs2 k).n ∧ (getr rs2 k).n ≤ 1048576 := fun k hk => by
        obtain ⟨e1, e2⟩ := hv2 k hk
        rw [e1, e2, idsL_len]
        exact ⟨rfl, by omega⟩
      have hsz4 : w.heap.size + 1 + 1 + 1 + 1 ≤ wr.heap.size := H1.out.blk.lt
      have hq2 : wr.heap.size + 1 < w1.heap.size := hI.lt
      obtain ⟨d, hd⟩ : ∃ d : StD, d = ⟨2, ⟨w.heap.size + 1 + 1, w.heap.size + 1 + 1 + 1, some ⟨w.heap.size + 1 + 1, 0, none⟩, p.ts.length, p.ts.length, zerosS p.ts.length⟩, ⟨w.heap.size + 1 + 1 + 1 + 1, wr.heap.size, A5, p.ts.length, c5, rs⟩, nilRow w.heap.size, nilRows w.heap.size, ⟨wr.heap.size + 1 + 1, hm, A7, p.init.length, c7, histK p.init p.init.length, los, his, pq, qs⟩, ⟨hm, w1.heap.size, A8, p.ts.length, c8, rs2⟩, ⟨wr.heap.size + 1, wr.heap.size + 1 + 1, some ⟨wr.heap.size + 1, 0, none⟩, p.init.length, p.init.length, idsL p.init.length⟩, p.init.length⟩ := ⟨_, rfl⟩
      have hIn := hide (show StIn w1 d from by
        subst hd
        refine ⟨⟨⟨.inr ⟨_, _, rfl, hpc, Nat.le_refl _⟩, fun b hb => ?_⟩, zerosS_len _, by show p.ts.length ≤ 1048576; omega⟩, ⟨hF, hre, by show p.ts.length ≤ 1048576; omega, hlen⟩, nilRow_ok _ _, nilRows_okB _ _, ⟨hH, histK_len _ _, histK_small _ hz⟩, ⟨hV, hv1, by show p.ts.length ≤ 1048576; omega, hlen2⟩, ⟨⟨.inr ⟨_, _, rfl, hI, Nat.le_refl _⟩, fun b hb => ?_⟩, idsL_len _, by show p.init.length ≤ 1048576; omega⟩, ?_, ?_⟩
        · simp [Value.ownBlock] at hb
          show b < w.heap.size + 1 + 1 + 1
          omega
        · simp [Value.ownBlock] at hb
          show b < wr.heap.size + 1 + 1
          omega
        · refine fun i j hij hj => iv_pair ?_ i j hij (by simpa using hj)
          simp [nilRow, nilRows]
          omega
        · intro i hi
          have h7 : i = 0 ∨ i = 1 ∨ i = 2 ∨ i = 3 ∨ i = 4 ∨ i = 5 ∨ i = 6 := by omega
          rcases h7 with rfl | rfl | rfl | rfl | rfl | rfl | rfl <;> simp [StD.iv, nilRow, nilRows] <;> omega)
      have hSame := hide (show SameSt (startV p) d from by
        subst hd
        refine ⟨rfl, ⟨rfl, rfl⟩, ⟨by simp [startV, hre], fun k hk => ?_⟩, ⟨rfl, rfl⟩, ⟨rfl, fun k hk => by simp [startV, nilRows] at hk⟩, rfl, ⟨by simp [startV, hv1], fun k hk => ?_⟩, ⟨rfl, rfl⟩, rfl⟩
        · have hk' : k < p.ts.length := by simpa [startV] using hk
          obtain ⟨e1, e2⟩ := H1.out.six k (by omega)
          show (getr (List.replicate p.ts.length (zrowD 0 6)) k).n = (getr rs k).n ∧ (getr (List.replicate p.ts.length (zrowD 0 6)) k).zs = (getr rs k).zs
          rw [getr_rep _ _ _ hk', e1, e2]
          exact ⟨rfl, rfl⟩
        · have hk' : k < p.ts.length := by simpa [startV] using hk
          obtain ⟨e1, e2⟩ := hv2 k (by omega)
          show (getr (List.replicate p.ts.length (RowD.mk 0 0 none p.init.length 0 (idsL p.init.length))) k).n = (getr rs2 k).n ∧ (getr (List.replicate p.ts.length (RowD.mk 0 0 none p.init.length 0 (idsL p.init.length))) k).zs = (getr rs2 k).zs
          rw [getr_rep _ _ _ hk', e1, e2]
          exact ⟨rfl, rfl⟩)
      have hlo := hide (show ∀ i, i < 7 → w.heap.size ≤ (d.iv i).1 ∧ (((d.iv i).2 ≤ (d.iv i).1) ∨ (w.heap.size + 1 + 1 ≤ (d.iv i).1)) from by
        subst hd
        intro i hi
        have h7 : i = 0 ∨ i = 1 ∨ i = 2 ∨ i = 3 ∨ i = 4 ∨ i = 5 ∨ i = 6 := by omega
        rcases h7 with rfl | rfl | rfl | rfl | rfl | rfl | rfl <;> simp [StD.iv, nilRow, nilRows] <;> omega)
      have hdc := hide (show d.cells = #[.int .i64 2, .slice (some ⟨w.heap.size + 1 + 1, 0, none⟩) p.ts.length p.ts.length, .slice A5 p.ts.length c5, .slice none 0 0, .slice none 0 0, .slice A7 p.init.length c7, .slice A8 p.ts.length c8, .slice (some ⟨wr.heap.size + 1, 0, none⟩) p.init.length p.init.length, .int .i64 (p.init.length : Int)] from by subst hd; rfl)
      have hBw := hide (show Below w.heap.size w w1 from H1.out.below.trans (Only.below hO |>.mono (by rw [Nat.le_min]; omega)))
      have t0 : w1.cell? ⟨w.heap.size + 1 + 1 + 1, 0, none⟩ = some (.int .i64 2) := hB.cell 0
      have t1 : w1.cell? ⟨w.heap.size + 1 + 1 + 1, 1, none⟩ = some (.slice (some ⟨w.heap.size + 1 + 1, 0, none⟩) p.ts.length p.ts.length) := hB.cell 1
      have t2 : w1.cell? ⟨w.heap.size + 1 + 1 + 1, 2, none⟩ = some (.slice A5 p.ts.length c5) := hB.cell 2
      have t3 : w1.cell? ⟨w.heap.size + 1 + 1 + 1, 3, none⟩ = some (.slice none 0 0) := hB.cell 3
      have t4 : w1.cell? ⟨w.heap.size + 1 + 1 + 1, 4, none⟩ = some (.slice none 0 0) := hB.cell 4
      have t5 : w1.cell? ⟨w.heap.size + 1 + 1 + 1, 5, none⟩ = some (.slice A7 p.init.length c7) := hB.cell 5
      have t6 : w1.cell? ⟨w.heap.size + 1 + 1 + 1, 6, none⟩ = some (.slice A8 p.ts.length c8) := hB.cell 6
      have t7 : w1.cell? ⟨w.heap.size + 1 + 1 + 1, 7, none⟩ = some (.slice (some ⟨wr.heap.size + 1, 0, none⟩) p.init.length p.init.length) := hB.cell 7
      have t8 : w1.cell? ⟨w.heap.size + 1 + 1 + 1, 8, none⟩ = some (.int .i64 (p.init.length : Int)) := hB.cell 8
      have r0 : w1.cell? ⟨w.heap.size + 1, 0, none⟩ = some u0 := rc.cell 0
      have z0 := rc.frozen 0
      have r1 : w1.cell? ⟨w.heap.size + 1, 1, none⟩ = some u1 := rc.cell 1
      have z1 := rc.frozen 1
      have r2 : w1.cell? ⟨w.heap.size + 1, 2, none⟩ = some u2 := rc.cell 2
      have z2 := rc.frozen 2
      have r3 : w1.cell? ⟨w.heap.size + 1, 3, none⟩ = some u3 := rc.cell 3
      have z3 := rc.frozen 3
      have r4 : w1.cell? ⟨w.heap.size + 1, 4, none⟩ = some u4 := rc.cell 4
      have z4 := rc.frozen 4
      have r5 : w1.cell? ⟨w.heap.size + 1, 5, none⟩ = some u5 := rc.cell 5
      have z5 := rc.frozen 5
      have r6 : w1.cell? ⟨w.heap.size + 1, 6, none⟩ = some u6 := rc.cell 6
      have z6 := rc.frozen 6
      have r7 : w1.cell? ⟨w.heap.size + 1, 7, none⟩ = some u7 := rc.cell 7
      have z7 := rc.frozen 7
      have r8 : w1.cell? ⟨w.heap.size + 1, 8, none⟩ = some u8 := rc.cell 8
      have z8 := rc.frozen 8
      have lg := rc.lt
      have lt1 := hB.lt
      clear hd hlen hlen2 hpc hF hH hV hI hB rc rc0 hl4 hrow hO g0 d1 d2 g1
      go_wp2_with fail
      refine bodyPost_ret (v := .agg #[.int .i64 2, .slice (some ⟨w.heap.size + 1 + 1, 0, none⟩) p.ts.length p.ts.length, .slice A5 p.ts.length c5, .slice none 0 0, .slice none 0 0, .slice A7 p.init.length c7, .slice A8 p.ts.length c8, .slice (some ⟨wr.heap.size + 1, 0, none⟩) p.init.length p.init.length, .int .i64 (p.init.length : Int)]) (by simp [results, Try.results81, go_sem, r0, r1, r2, r3, r4, r5, r6, r7, r8]; done) rfl ⟨d, by rw [hdc.out], hIn.out.keepIv (by simp [World.setCell]) (fun i hi b h1 h2 _ => ?_), fun i hi => (hlo.out i hi).1, hSame.out, ?_⟩
      · have hb := hlo.out i hi
        have h1 : b ≠ w.heap.size + 1 := by omega
        iterate 8 (refine (Below.heap_setCell _ _ _ _ (by exact h1)).trans ?_)
        exact Below.heap_setCell _ _ _ _ (by exact h1)
      · iterate 9 (refine Below.setCell ?_ (by show w.heap.size ≤ w.heap.size + 1; omega) _)
        exact hBw.out

set_option maxRecDepth 100000 in
set_option maxHeartbeats 6400000 in
theorem sstart_2 (p : ProgD) (A1 A2 : Option Addr) (c1 c2 n : Nat) (w : World) (hn : n ≤ w.heap.size) (hcc : p.init.length ≤ c1 ∧ p.ts.length ≤ c2) (hi : IntsAt w (Old n) A1 p.init) (ht : ThreadsAt w (Old n) A2 p.ts) (hB : progB p = true) :
    Calls Try.prog 27 #[.agg #[.slice A1 p.init.length c1, .slice A2 p.ts.length c2], .int .i64 2] w fun e w' => ∃ d : StD, e = .returned (.tuple #[.agg d.cells, .bool true]) ∧ StIn w' d ∧ (∀ i, i < 7 → w.heap.size ≤ (d.iv i).1) ∧ SameSt (startV p) d ∧ Below w.heap.size w w' := by
  have hS : ∀ b, Old n b → b < w.heap.size := fun _ h => Nat.lt_of_lt_of_le h hn
  have hsz : p.init.length ≤ 6 ∧ p.ts.length ≤ 3 ∧ 1 ≤ p.init.length := by
    have h := hB
    unfold progB sizesB at h
    simp only [Bool.and_eq_true, decide_eq_true_eq] at h
    omega
  have hb0 := below2 w (Obj.cells #[.slice A1 p.init.length c1, .slice A2 p.ts.length c2] 31) (Obj.cells #[.int .i64 0, .slice none 0 0, .slice none 0 0, .slice none 0 0, .slice none 0 0, .slice none 0 0, .slice none 0 0, .slice none 0 0, .int .i64 0] 48)
  have hok := hide (sprogOk_any (.agg #[.slice A1 p.init.length c1, .slice A2 p.ts.length c2]) p (Old n) _ (fun b h => Nat.lt_of_lt_of_le (hS b h) hb0.size) ⟨A1, c1, A2, c2, rfl, hcc, hi.below hb0 hS, ht.below hb0 hS⟩)
  have K0 := Blk.new (w.alloc (Obj.cells #[.slice A1 p.init.length c1, .slice A2 p.ts.length c2] 31)) 48 #[.int .i64 0, .slice none 0 0, .slice none 0 0, .slice none 0 0, .slice none 0 0, .slice none 0 0, .slice none 0 0, .slice none 0 0, .int .i64 0]
  have G0 := (Blk.new w 31 #[.slice A1 p.init.length c1, .slice A2 p.ts.length c2]).alloc (Obj.cells #[.int .i64 0, .slice none 0 0, .slice none 0 0, .slice none 0 0, .slice none 0 0, .slice none 0 0, .slice none 0 0, .slice none 0 0, .int .i64 0] 48)
  simp only [World.size_alloc] at K0
  replace K0 := hide K0
  replace G0 := hide G0
  replace hb0 := hide hb0
  replace hi := hide hi
  clear ht
  go_enter Try.func27, Try.ntmps27
  go_wp2_with fail
  refine hok.out.mono ?_
  rintro e w1 ⟨rfl, hb1⟩
  have B1 := hide (below_then hb0.out hb1)
  have K1 := hide (K0.out.below hb1 K0.out.lt)
  have G1 := hide (G0.out.below hb1 G0.out.lt)
  have hz1 := hb1.size
  simp only [World.size_alloc] at hz1
  clear hok hb1 hb0 K0 G0
  rw [hB]
  have hkb : kindB 2 = true := by decide
  have g0 : w1.cell? ⟨w.heap.size, 0, none⟩ = some (.slice A1 p.init.length c1) := G1.out.cell 0
  have g1 : w1.cell? ⟨w.heap.size, 1, none⟩ = some (.slice A2 p.ts.length c2) := G1.out.cell 1
  go_wp2_with fail
  refine (l2kind_any 2 w1).mono ?_
  rintro e w2 ⟨rfl, rfl⟩
  rw [hkb]
  go_wp2_with fail
  refine (l2start_2 p A1 A2 c1 c2 n w1 hsz.2.1 (by omega) hsz.1 hsz.2.2 (hi.out.below B1.out hS)).mono ?_
  rintro e w3 ⟨d, rfl, hIn, hlo, hsame, hb3⟩
  have K3 := hide (K1.out.below hb3 K1.out.lt)
  have B3 := hide (below_then B1.out hb3)
  replace hIn := hide hIn
  replace hlo := hide hlo
  have hdc := hide (show d.cells = #[.int .i64 d.kind, .slice d.pc.A d.pc.n d.pc.c, .slice d.F.A d.F.n d.F.c, .slice d.mem.A d.mem.n d.mem.c, .slice d.bufs.A d.bufs.n d.bufs.c, .slice d.H.A d.H.n d.H.c, .slice d.view.A d.view.n d.view.c, .slice d.sc.A d.sc.n d.sc.c, .int .i64 d.next] from rfl)
  rw [hdc.out]
  clear g0 g1 G1 K1 hb3
  have k0 : w3.cell? ⟨w.heap.size + 1, 0, none⟩ = some (.int .i64 0) := K3.out.cell 0
  have z0 := K3.out.frozen 0
  have k1 : w3.cell? ⟨w.heap.size + 1, 1, none⟩ = some (.slice none 0 0) := K3.out.cell 1
  have z1 := K3.out.frozen 1
  have k2 : w3.cell? ⟨w.heap.size + 1, 2, none⟩ = some (.slice none 0 0) := K3.out.cell 2
  have z2 := K3.out.frozen 2
  have k3 : w3.cell? ⟨w.heap.size + 1, 3, none⟩ = some (.slice none 0 0) := K3.out.cell 3
  have z3 := K3.out.frozen 3
  have k4 : w3.cell? ⟨w.heap.size + 1, 4, none⟩ = some (.slice none 0 0) := K3.out.cell 4
  have z4 := K3.out.frozen 4
  have k5 : w3.cell? ⟨w.heap.size + 1, 5, none⟩ = some (.slice none 0 0) := K3.out.cell 5
  have z5 := K3.out.frozen 5
  have k6 : w3.cell? ⟨w.heap.size + 1, 6, none⟩ = some (.slice none 0 0) := K3.out.cell 6
  have z6 := K3.out.frozen 6
  have k7 : w3.cell? ⟨w.heap.size + 1, 7, none⟩ = some (.slice none 0 0) := K3.out.cell 7
  have z7 := K3.out.frozen 7
  have k8 : w3.cell? ⟨w.heap.size + 1, 8, none⟩ = some (.int .i64 0) := K3.out.cell 8
  have z8 := K3.out.frozen 8
  have lg := K3.out.lt
  go_wp2_with fail
  obtain ⟨wF, hwF⟩ : ∃ q, q = s2Set w3 (w.heap.size + 1) (.int .i64 d.kind) (.slice d.pc.A d.pc.n d.pc.c) (.slice d.F.A d.F.n d.F.c) (.slice d.mem.A d.mem.n d.mem.c) (.slice d.bufs.A d.bufs.n d.bufs.c) (.slice d.H.A d.H.n d.H.c) (.slice d.view.A d.view.n d.view.c) (.slice d.sc.A d.sc.n d.sc.c) (.int .i64 d.next) := ⟨_, rfl⟩
  have hF := s2Set_blk K3.out (v0 := .int .i64 d.kind) (v1 := .slice d.pc.A d.pc.n d.pc.c) (v2 := .slice d.F.A d.F.n d.F.c) (v3 := .slice d.mem.A d.mem.n d.mem.c) (v4 := .slice d.bufs.A d.bufs.n d.bufs.c) (v5 := .slice d.H.A d.H.n d.H.c) (v6 := .slice d.view.A d.view.n d.view.c) (v7 := .slice d.sc.A d.sc.n d.sc.c) (v8 := .int .i64 d.next)
  have hF1 := s2Set_size w3 (w.heap.size + 1) (.int .i64 d.kind) (.slice d.pc.A d.pc.n d.pc.c) (.slice d.F.A d.F.n d.F.c) (.slice d.mem.A d.mem.n d.mem.c) (.slice d.bufs.A d.bufs.n d.bufs.c) (.slice d.H.A d.H.n d.H.c) (.slice d.view.A d.view.n d.view.c) (.slice d.sc.A d.sc.n d.sc.c) (.int .i64 d.next)
  have hF2 := fun b => s2Set_heap w3 (w.heap.size + 1) (.int .i64 d.kind) (.slice d.pc.A d.pc.n d.pc.c) (.slice d.F.A d.F.n d.F.c) (.slice d.mem.A d.mem.n d.mem.c) (.slice d.bufs.A d.bufs.n d.bufs.c) (.slice d.H.A d.H.n d.H.c) (.slice d.view.A d.view.n d.view.c) (.slice d.sc.A d.sc.n d.sc.c) (.int .i64 d.next) b
  have hF3 := s2Set_below (w0 := w) B3.out (show w.heap.size ≤ w.heap.size + 1 by omega) (.int .i64 d.kind) (.slice d.pc.A d.pc.n d.pc.c) (.slice d.F.A d.F.n d.F.c) (.slice d.mem.A d.mem.n d.mem.c) (.slice d.bufs.A d.bufs.n d.bufs.c) (.slice d.H.A d.H.n d.H.c) (.slice d.view.A d.view.n d.view.c) (.slice d.sc.A d.sc.n d.sc.c) (.int .i64 d.next)
  rw [← hwF] at hF hF1 hF2 hF3
  unfold s2Set at hwF
  rw [← hwF]
  clear hwF k0 k1 k2 k3 k4 k5 k6 k7 k8 z0 z1 z2 z3 z4 z5 z6 z7 z8
  have q0 : wF.cell? ⟨w.heap.size + 1, 0, none⟩ = some (.int .i64 d.kind) := hF.cell 0
  have q1 : wF.cell? ⟨w.heap.size + 1, 1, none⟩ = some (.slice d.pc.A d.pc.n d.pc.c) := hF.cell 1
  have q2 : wF.cell? ⟨w.heap.size + 1, 2, none⟩ = some (.slice d.F.A d.F.n d.F.c) := hF.cell 2
  have q3 : wF.cell? ⟨w.heap.size + 1, 3, none⟩ = some (.slice d.mem.A d.mem.n d.mem.c) := hF.cell 3
  have q4 : wF.cell? ⟨w.heap.size + 1, 4, none⟩ = some (.slice d.bufs.A d.bufs.n d.bufs.c) := hF.cell 4
  have q5 : wF.cell? ⟨w.heap.size + 1, 5, none⟩ = some (.slice d.H.A d.H.n d.H.c) := hF.cell 5
  have q6 : wF.cell? ⟨w.heap.size + 1, 6, none⟩ = some (.slice d.view.A d.view.n d.view.c) := hF.cell 6
  have q7 : wF.cell? ⟨w.heap.size + 1, 7, none⟩ = some (.slice d.sc.A d.sc.n d.sc.c) := hF.cell 7
  have q8 : wF.cell? ⟨w.heap.size + 1, 8, none⟩ = some (.int .i64 d.next) := hF.cell 8
  refine bodyPost_ret (v := .tuple #[.agg #[.int .i64 d.kind, .slice d.pc.A d.pc.n d.pc.c, .slice d.F.A d.F.n d.F.c, .slice d.mem.A d.mem.n d.mem.c, .slice d.bufs.A d.bufs.n d.bufs.c, .slice d.H.A d.H.n d.H.c, .slice d.view.A d.view.n d.view.c, .slice d.sc.A d.sc.n d.sc.c, .int .i64 d.next], .bool true]) (by simp [results, Try.results27, go_sem, q0, q1, q2, q3, q4, q5, q6, q7, q8]; done) rfl ⟨d, rfl, hIn.out.keepIv (by rw [hF1]; exact Nat.le_refl _) (fun i hi' b h1 h2 _ => hF2 b (by have := hlo.out i hi'; omega)), fun i hi' => by have := hlo.out i hi'; omega, hsame, hF3⟩
end Go.Proofs.Ytfkaacfeikmabaa
