/- DrawTouches: an instruction of a bent program, and a cell. -/
import Derived.Test.YtbchiiggfhdnkaaDIOk
import Derived.Test.YtbchiiggfhdnkaaOpenCode
import Derived.Deep.RegionLaw
namespace Go.Proofs.Ytbchiiggfhdnkaa
open Go.RowKit

attribute [local go_sem ↓] Go.wp_at_zero Go.wp_at_succ

set_option maxRecDepth 100000 in
set_option maxHeartbeats 6400000 in
theorem drawTouches_any (A : Option Addr) (n c : Nat) (w : World) (hn : n ≤ c) (ha : BytesAt w (Old w.heap.size) A n) :
    Calls Try.prog 20 #[.slice A n c] w fun e w' => ∃ (d : InsD) (y : Int), e = .returned (.tuple #[d.val, .int .i64 y]) ∧ Small d ∧ (-1 ≤ y ∧ y ≤ 6) ∧ Below w.heap.size w w' := by
  have hb0 := below1 w (Obj.cells #[Value.int .i64 0, Value.int .i64 0, Value.int .i64 0, Value.int .i64 0, Value.int .i64 0, Value.int .i64 0] 24)
  have K0 := hide (Blk.new w 24 #[Value.int .i64 0, Value.int .i64 0, Value.int .i64 0, Value.int .i64 0, Value.int .i64 0, Value.int .i64 0])
  have ha0 := ha.old hb0 (by simp)
  go_enter Try.func20, Try.ntmps20
  go_wp2_with fail
  refine (drawIns_any A n c _ hn ha0).mono ?_
  rintro e w1 ⟨⟨o, r, a, b, x, nn⟩, i, cells, m, rfl, hs, -, hb1⟩
  simp only [InsD.val]
  have hl1 := size_step hb1
  have B1 := (below_step hb1).alloc (below_step hb1).size (Obj.cells #[Value.int .i64 o, Value.int .i64 r, Value.int .i64 a, Value.int .i64 b, Value.int .i64 x, Value.int .i64 nn] 24)
  have K1 := (K0.out.below hb1 (by simp)).alloc (Obj.cells #[Value.int .i64 o, Value.int .i64 r, Value.int .i64 a, Value.int .i64 b, Value.int .i64 x, Value.int .i64 nn] 24)
  have J1 := Blk.new w1 24 #[Value.int .i64 o, Value.int .i64 r, Value.int .i64 a, Value.int .i64 b, Value.int .i64 x, Value.int .i64 nn]
  clear hb1 hb0 ha0 K0
  go_wp2_with fail
  obtain ⟨wq, hwq⟩ : ∃ wq, wq = w1.alloc (Obj.cells #[Value.int .i64 o, Value.int .i64 r, Value.int .i64 a, Value.int .i64 b, Value.int .i64 x, Value.int .i64 nn] 24) := ⟨_, rfl⟩
  rw [← hwq] at B1 K1 J1 ⊢
  clear hwq
  obtain ⟨⟨j0, j1, j2, j3, j4, j5⟩, jl⟩ := ins6 J1
  obtain ⟨⟨k0, k1, k2, k3, k4, k5⟩, kl⟩ := ins6 K1
  have z0 := K1.frozen 0
  have z1 := K1.frozen 1
  have z2 := K1.frozen 2
  have z3 := K1.frozen 3
  have z4 := K1.frozen 4
  have z5 := K1.frozen 5
  replace B1 := hide B1.drew
  replace J1 := hide J1.drew
  replace K1 := hide K1.drew
  go_region_law (first
    | (go_simp; refine (l1New_any A n c _ hn (ha.old B1.out B1.out.size)).mono ?_; rintro e w2 ⟨g, rfl, hg0, hc2, hb2⟩; have hg0 : wq.heap.size ≤ g := hg0; have J2 := hide (J1.out.below hb2 jl); have K2 := hide (K1.out.below hb2 kl); have B2 := hide (B1.out.trans (hb2.mono B1.out.size)); obtain ⟨⟨m0, m1, m2, m3, m4, m5⟩, ml⟩ := ins6 J2.out; obtain ⟨⟨n0, n1, n2, n3, n4, n5⟩, nl⟩ := ins6 K2.out; go_simp)
    | (go_simp; refine (l1Below_any g 8 _ (by omega) (by omega) hc2).mono ?_; rintro e w3 ⟨y, rfl, hy, hc3, ho3⟩; have J3 := hide (J2.out.only ho3 (by omega)); have K3 := hide (K2.out.only ho3 (by omega)); have B3 := hide (B2.out.trans (ho3.toBelow (by omega) B2.out.size)); obtain ⟨⟨p0, p1, p2, p3, p4, p5⟩, pl⟩ := ins6 J3.out; obtain ⟨⟨q0, q1, q2, q3, q4, q5⟩, ql⟩ := ins6 K3.out; have y0 := K3.out.frozen 0; have y1 := K3.out.frozen 1; have y2 := K3.out.frozen 2; have y3 := K3.out.frozen 3; have y4 := K3.out.frozen 4; have y5 := K3.out.frozen 5; have hyy := belowP hy (by omega); have hw : IntKind.i64.wrap (y - 1) = y - 1 := (by rw [IntKind.wrap_i64]; omega); go_simp))
  all_goals
    go_wp2_with fail
    refine bodyPost_ret (v := .tuple #[.agg #[.int .i64 o, .int .i64 r, .int .i64 a, .int .i64 b, .int .i64 x, .int .i64 nn], .int .i64 (y - 1)]) (by simp [results, Try.results20, go_sem, Act.put, q0, q1, q2, q3, q4, q5]; done) rfl ⟨⟨o, r, a, b, x, nn⟩, y - 1, rfl, hs, by omega, ?_⟩
    iterate 6 (refine Below.setCell ?_ (by show w.heap.size ≤ w.heap.size; omega) _)
    exact B3.out
end Go.Proofs.Ytbchiiggfhdnkaa
