/- DrawCellOf: an instruction of a bent program, and a file. -/
import Derived.Test.YtaiklooffkmjjaaDIOk
import Derived.Test.YtaiklooffkmjjaaBeG
import Derived.Test.YtaiklooffkmjjaaL2f
import Derived.Deep.RegionLaw
namespace Go.Proofs.Ytaiklooffkmjjaa
open Go.RowKit

attribute [local go_sem ↓] Go.wp_at_zero Go.wp_at_succ

set_option maxRecDepth 100000 in
set_option maxHeartbeats 6400000 in
theorem drawCell_any (A : Option Addr) (n c : Nat) (w : World) (hn : n ≤ c) (ha : BytesAt w (Old w.heap.size) A n) :
    Calls Try.prog 11 #[.slice A n c] w fun e w' => ∃ (d : InsD) (A' : Option Addr) (zs : List Int) (c' : Nat), e = .returned (.tuple #[d.val, .agg #[.slice A' zs.length c']]) ∧ Small d ∧ (zs.length = 6 ∨ zs.length = 5) ∧ IntsAt w' (Old w'.heap.size) A' zs ∧ Below w.heap.size w w' := by
  have hb0 := below2 w (Obj.cells #[Value.int .i64 0, Value.int .i64 0, Value.int .i64 0, Value.int .i64 0, Value.int .i64 0, Value.int .i64 0] 24) (Obj.cells #[Value.slice none 0 0] 32)
  have K0 := hide ((Blk.new w 24 #[Value.int .i64 0, Value.int .i64 0, Value.int .i64 0, Value.int .i64 0, Value.int .i64 0, Value.int .i64 0]).alloc (Obj.cells #[Value.slice none 0 0] 32))
  have F0 := Blk.new (w.alloc (Obj.cells #[Value.int .i64 0, Value.int .i64 0, Value.int .i64 0, Value.int .i64 0, Value.int .i64 0, Value.int .i64 0] 24)) 32 #[Value.slice none 0 0]
  simp only [World.size_alloc] at F0
  replace F0 := hide F0
  have ha0 := ha.old hb0 (by simp; omega)
  go_enter Try.func11, Try.ntmps11
  go_wp2_with fail
  refine (drawIns_any A n c _ hn ha0).mono ?_
  rintro e w1 ⟨⟨o, r, a, b, x, nn⟩, i, cells, m, rfl, hs, -, hb1⟩
  simp only [InsD.val]
  have hl1 := hb1.size
  simp only [World.size_alloc] at hl1
  have B1 := (below_then hb0 hb1).alloc (by omega) (Obj.cells #[Value.int .i64 o, Value.int .i64 r, Value.int .i64 a, Value.int .i64 b, Value.int .i64 x, Value.int .i64 nn] 24)
  have K1 := (K0.out.below hb1 K0.out.lt).alloc (Obj.cells #[Value.int .i64 o, Value.int .i64 r, Value.int .i64 a, Value.int .i64 b, Value.int .i64 x, Value.int .i64 nn] 24)
  have F1 := (F0.out.below hb1 F0.out.lt).alloc (Obj.cells #[Value.int .i64 o, Value.int .i64 r, Value.int .i64 a, Value.int .i64 b, Value.int .i64 x, Value.int .i64 nn] 24)
  have J1 := Blk.new w1 24 #[Value.int .i64 o, Value.int .i64 r, Value.int .i64 a, Value.int .i64 b, Value.int .i64 x, Value.int .i64 nn]
  clear hb1 hb0 ha0 K0 F0
  go_wp2_with fail
  obtain ⟨wq, hwq⟩ : ∃ wq, wq = w1.alloc (Obj.cells #[Value.int .i64 o, Value.int .i64 r, Value.int .i64 a, Value.int .i64 b, Value.int .i64 x, Value.int .i64 nn] 24) := ⟨_, rfl⟩
  have hsq : w.heap.size + 1 + 1 < wq.heap.size := by rw [hwq, World.size_alloc]; omega
  rw [← hwq] at B1 K1 J1 F1 ⊢
  clear hwq
  obtain ⟨⟨j0, j1, j2, j3, j4, j5⟩, jl⟩ := ins6 J1
  obtain ⟨⟨k0, k1, k2, k3, k4, k5⟩, kl⟩ := ins6 K1
  have z0 := K1.frozen 0
  have z1 := K1.frozen 1
  have z2 := K1.frozen 2
  have z3 := K1.frozen 3
  have z4 := K1.frozen 4
  have z5 := K1.frozen 5
  have u0 : wq.cell? ⟨w.heap.size + 1, 0, none⟩ = some (.slice none 0 0) := F1.cell 0
  have v0 := F1.frozen 0
  replace B1 := hide B1.drew
  replace J1 := hide J1.drew
  replace K1 := hide K1.drew
  have hF1 : w.heap.size + 1 < wq.heap.size := by omega
  replace F1 := hide F1.drew
  go_region_law (first
    | (go_simp; refine (l1New_any A n c _ hn (ha.old B1.out B1.out.size)).mono ?_; rintro e w2 ⟨g, rfl, hg0, hc2, hb2⟩; have hg0 : wq.heap.size ≤ g := hg0; have J2 := hide (J1.out.below hb2 jl); have K2 := hide (K1.out.below hb2 kl); have F2 := hide (F1.out.below hb2 hF1); have B2 := hide (B1.out.trans (hb2.mono B1.out.size)); have hs2 : wq.heap.size ≤ w2.heap.size := hb2.size; obtain ⟨⟨m0, m1, m2, m3, m4, m5⟩, ml⟩ := ins6 J2.out; go_simp)
    | (go_simp; refine (l2file_any g _ hc2).mono ?_; rintro e w3 ⟨A3, zs, c3, rfl, hzl, hi3, hc3, ho3⟩; have J3 := hide (J2.out.only ho3 (by omega)); have K3 := hide (K2.out.only ho3 (by omega)); have F3 := hide (F2.out.only ho3 (by omega)); have B3 := hide (B2.out.trans (ho3.toBelow (by omega) B2.out.size)); obtain ⟨⟨p0, p1, p2, p3, p4, p5⟩, pl⟩ := ins6 J3.out; obtain ⟨⟨q0, q1, q2, q3, q4, q5⟩, ql⟩ := ins6 K3.out; have y0 := K3.out.frozen 0; have y1 := K3.out.frozen 1; have y2 := K3.out.frozen 2; have y3 := K3.out.frozen 3; have y4 := K3.out.frozen 4; have y5 := K3.out.frozen 5; have q6 : w3.cell? ⟨w.heap.size + 1, 0, none⟩ = some (.slice none 0 0) := F3.out.cell 0; have y6 := F3.out.frozen 0; have hlf := F3.out.lt; go_simp)
    | fail)
  all_goals
    go_wp2_with fail
    refine bodyPost_ret (v := .tuple #[.agg #[.int .i64 o, .int .i64 r, .int .i64 a, .int .i64 b, .int .i64 x, .int .i64 nn], .agg #[.slice A3 zs.length c3]]) (by simp [results, Try.results11, go_sem, q0, q1, q2, q3, q4, q5, q6]; done) rfl ⟨⟨o, r, a, b, x, nn⟩, A3, zs, c3, rfl, hs, hzl, ?_, ?_⟩
    · refine IntsAt.more (S := New w2.heap.size w3.heap.size) ?_ (fun b h => by show b < _; simp only [World.size_setCell]; exact h.2)
      iterate 7 (refine IntsAt.set ?_ _ (fun h => by have h := h.1; first | (have h : w2.heap.size ≤ w.heap.size := h; omega) | (have h : w2.heap.size ≤ w.heap.size + 1 := h; omega)))
      exact hi3
    · iterate 7 (refine Below.setCell ?_ (by first | (show w.heap.size ≤ w.heap.size; omega) | (show w.heap.size ≤ w.heap.size + 1; omega)) _)
      exact B3.out
end Go.Proofs.Ytaiklooffkmjjaa
