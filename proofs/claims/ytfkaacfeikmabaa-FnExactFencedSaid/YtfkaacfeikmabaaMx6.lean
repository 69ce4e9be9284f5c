/- l1ins: an instruction drawn. -/
import Derived.Test.YtfkaacfeikmabaaMx0
import Derived.Test.YtfkaacfeikmabaaMx5
namespace Go.Proofs.Ytfkaacfeikmabaa
open Go.RowKit

set_option maxRecDepth 100000 in
set_option maxHeartbeats 20000000 in
theorem l1ins_any (g : Nat) (i cells n : Int) (w : World) (hi : 0 ≤ i ∧ i < n) (hn : n ≤ 30) (hcl : 1 ≤ cells ∧ cells ≤ 6) (hc : Cur w g) :
    Calls Try.prog 207 #[.pointer (some ⟨g, 0, none⟩), .int .i64 i, .int .i64 cells, .int .i64 n] w fun e w' => ∃ d : InsD, e = .returned (.agg #[.int .i64 d.o, .int .i64 d.r, .int .i64 d.a, .int .i64 d.b, .int .i64 d.x, .int .i64 d.n]) ∧ Small d ∧ Cur w' g ∧ Only g w w' := by
  obtain ⟨hi0, hi1⟩ := hi
  obtain ⟨hcl0, hcl1⟩ := hcl
  have hg := hc.lt
  go_enter Try.func207, Try.ntmps207
  go_wp2_with fail
  have kz := Blk.new (w.alloc (Obj.cells #[Value.int IntKind.i64 0, Value.int IntKind.i64 0, Value.int IntKind.i64 0, Value.int IntKind.i64 0, Value.int IntKind.i64 0, Value.int IntKind.i64 0] 72)) 3 ([7, 7, 7, 8, 8, 8, 8, 11, 12, 1, 3, 13, 9, 10].map (Value.int .i64)).toArray
  have K8 := (Blk.new w 72 #[Value.int IntKind.i64 0, Value.int IntKind.i64 0, Value.int IntKind.i64 0, Value.int IntKind.i64 0, Value.int IntKind.i64 0, Value.int IntKind.i64 0]).alloc (Obj.cells ([7, 7, 7, 8, 8, 8, 8, 11, 12, 1, 3, 13, 9, 10].map (Value.int .i64)).toArray 3)
  simp only [World.size_alloc] at kz
  refine (l1PickInt_any g (some ⟨w.heap.size + 1, 0, none⟩) [7, 7, 7, 8, 8, 8, 8, 11, 12, 1, 3, 13, 9, 10] 14 _ (by decide) (by decide) (ints_of_blk kz (by decide) ⟨by simp, by omega⟩) ((hc.alloc _).alloc _)).mono ?_
  rintro e w1 ⟨k, hk, rfl, hc1, ho1⟩
  have hO1 : Only g w w1 := (((Only.refl g w).alloc _).alloc _).trans ho1
  have K8 := K8.only ho1 (by omega)
  have hs1 := ho1.size
  simp at hs1
  have hp := picked k hk
  generalize geti [7, 7, 7, 8, 8, 8, 8, 11, 12, 1, 3, 13, 9, 10] k = o at hp ⊢
  clear kz ho1 hc
  rcases hp with rfl | rfl | rfl | rfl | rfl | rfl | rfl | rfl | rfl
  · have ku := fun w => l1uses_any 7 w
    simp only [show uR 7 = true from rfl, show uA 7 = false from rfl, show uB 7 = false from rfl, show uX 7 = true from rfl, show uN 7 = false from rfl] at ku
    have KU := hide ku
    clear ku
    go_wp2_with fail
    have K9a := Blk.new w1 72 #[Value.int IntKind.i64 7, Value.int IntKind.i64 0, Value.int IntKind.i64 0, Value.int IntKind.i64 0, Value.int IntKind.i64 0, Value.int IntKind.i64 0]
    refine (KU.out _).mono ?_
    rintro e w2 ⟨rfl, hb2⟩
    have hs2 : w1.heap.size + 1 ≤ w2.heap.size := by have := hb2.size; simpa using this
    have K9 := K9a.below hb2 (by simp)
    have hc2 : Cur w2 g := (hc1.alloc _).below (hb2.mono (by simp; omega))
    have hO2 : Only g w w2 := (hO1.alloc _).trans (Only.of_below hb2)
    have K8 := (K8.alloc _).below hb2 (by simp; omega)
    obtain ⟨⟨e0, e1, e2, e3, e4, e5⟩, f0, f1, f2, f3, f4, f5⟩ := blk6 K9
    clear K9a hb2 hO1 hc1
    go_wp2_with fail
    clear e0 e1 e2 e3 e4 e5 f0 f1 f2 f3 f4 f5
    have KF := Blk.new w2 151 #[Value.bool true, Value.bool false, Value.bool false, Value.bool true, Value.bool false]
    have K9 := K9.alloc (Obj.cells #[Value.bool true, Value.bool false, Value.bool false, Value.bool true, Value.bool false] 151)
    have K8 := K8.alloc (Obj.cells #[Value.bool true, Value.bool false, Value.bool false, Value.bool true, Value.bool false] 151)
    have hcx := hc2.alloc (Obj.cells #[Value.bool true, Value.bool false, Value.bool false, Value.bool true, Value.bool false] 151)
    have hox := hO2.alloc (Obj.cells #[Value.bool true, Value.bool false, Value.bool false, Value.bool true, Value.bool false] 151)
    refine (l1Below_any g 3 _ (by omega) (by omega) hcx).mono ?_
    rintro e w3 ⟨x3, rfl, hx3, hc3, ho3⟩
    obtain ⟨ha3, hb3⟩ := below3 hx3
    have K9 := K9.only ho3 (by omega)
    have K8 := K8.only ho3 (by omega)
    have KF := KF.only ho3 (by omega)
    have hox := hox.trans ho3
    have hs3 := ho3.size
    simp at hs3
    obtain ⟨⟨e0, e1, e2, e3, e4, e5⟩, f0, f1, f2, f3, f4, f5⟩ := blk6 K9
    obtain ⟨g0, g1, g2, g3, g4⟩ := blk5 KF
    clear hx3 ho3 hcx
    go_wp2_with fail
    clear e0 e1 e2 e3 e4 e5 f0 f1 f2 f3 f4 f5 g0 g1 g2 g3 g4
    have K9 := K9.set_ 1 (.int .i64 (x3))
    have K8 := K8.far (p := ⟨w1.heap.size, 1, none⟩) (by simp; omega) (.int .i64 (x3))
    have KF := KF.far (p := ⟨w1.heap.size, 1, none⟩) (by simp; omega) (.int .i64 (x3))
    have hcx := hc3.setCell (p := ⟨w1.heap.size, 1, none⟩) (by simp; omega) (.int .i64 (x3))
    have hox := hox.setCell (p := ⟨w1.heap.size, 1, none⟩) (.inr (by simp; omega)) (.int .i64 (x3))
    simp only [List.setIfInBounds_toArray, List.set_cons_zero, List.set_cons_succ] at K9
    refine (l1Below_any g cells _ (by omega) (by omega) hcx).mono ?_
    rintro e w4 ⟨x4, rfl, hx4, hc4, ho4⟩
    obtain ⟨ha4, hb4⟩ := belowP hx4 (by omega)
    have K9 := K9.only ho4 (by omega)
    have K8 := K8.only ho4 (by omega)
    have KF := KF.only ho4 (by omega)
    have hox := hox.trans ho4
    have hs4 := ho4.size
    simp [World.setCell] at hs4
    obtain ⟨⟨e0, e1, e2, e3, e4, e5⟩, f0, f1, f2, f3, f4, f5⟩ := blk6 K9
    obtain ⟨g0, g1, g2, g3, g4⟩ := blk5 KF
    clear hx4 ho4 hcx
    obtain ⟨⟨h0, h1, h2, h3, h4, h5⟩, z0, z1, z2, z3, z4, z5⟩ := blk6 K8
    go_wp2_with fail
    refine bodyPost_ret (v := .agg #[Value.int IntKind.i64 7, Value.int IntKind.i64 (x3), Value.int IntKind.i64 0, Value.int IntKind.i64 0, Value.int IntKind.i64 (x4), Value.int IntKind.i64 0]) (by simp [results, Try.results207, go_sem, h0, h1, h2, h3, h4, h5]; done) rfl ⟨⟨7, x3, 0, 0, x4, 0⟩, rfl, ⟨by simp <;> omega, by simp <;> omega, by simp <;> omega, by simp <;> omega, by simp <;> omega, by simp <;> omega⟩, ?_, ?_⟩
    · iterate 7 (refine Cur.setCell ?_ (by simp <;> omega) _)
      exact hc4
    · iterate 7 (refine Only.setCell ?_ (.inr (by simp <;> omega)) _)
      exact hox
  · have ku := fun w => l1uses_any 8 w
    simp only [show uR 8 = false from rfl, show uA 8 = true from rfl, show uB 8 = false from rfl, show uX 8 = true from rfl, show uN 8 = false from rfl] at ku
    have KU := hide ku
    clear ku
    go_wp2_with fail
    have K9a := Blk.new w1 72 #[Value.int IntKind.i64 8, Value.int IntKind.i64 0, Value.int IntKind.i64 0, Value.int IntKind.i64 0, Value.int IntKind.i64 0, Value.int IntKind.i64 0]
    refine (KU.out _).mono ?_
    rintro e w2 ⟨rfl, hb2⟩
    have hs2 : w1.heap.size + 1 ≤ w2.heap.size := by have := hb2.size; simpa using this
    have K9 := K9a.below hb2 (by simp)
    have hc2 : Cur w2 g := (hc1.alloc _).below (hb2.mono (by simp; omega))
    have hO2 : Only g w w2 := (hO1.alloc _).trans (Only.of_below hb2)
    have K8 := (K8.alloc _).below hb2 (by simp; omega)
    obtain ⟨⟨e0, e1, e2, e3, e4, e5⟩, f0, f1, f2, f3, f4, f5⟩ := blk6 K9
    clear K9a hb2 hO1 hc1
    go_wp2_with fail
    clear e0 e1 e2 e3 e4 e5 f0 f1 f2 f3 f4 f5
    have KF := Blk.new w2 151 #[Value.bool false, Value.bool true, Value.bool false, Value.bool true, Value.bool false]
    have K9 := K9.alloc (Obj.cells #[Value.bool false, Value.bool true, Value.bool false, Value.bool true, Value.bool false] 151)
    have K8 := K8.alloc (Obj.cells #[Value.bool false, Value.bool true, Value.bool false, Value.bool true, Value.bool false] 151)
    have hcx := hc2.alloc (Obj.cells #[Value.bool false, Value.bool true, Value.bool false, Value.bool true, Value.bool false] 151)
    have hox := hO2.alloc (Obj.cells #[Value.bool false, Value.bool true, Value.bool false, Value.bool true, Value.bool false] 151)
    refine (l1Below_any g 2 _ (by omega) (by omega) hcx).mono ?_
    rintro e w3 ⟨x3, rfl, hx3, hc3, ho3⟩
    obtain ⟨ha3, hb3⟩ := below2' hx3
    have K9 := K9.only ho3 (by omega)
    have K8 := K8.only ho3 (by omega)
    have KF := KF.only ho3 (by omega)
    have hox := hox.trans ho3
    have hs3 := ho3.size
    simp at hs3
    obtain ⟨⟨e0, e1, e2, e3, e4, e5⟩, f0, f1, f2, f3, f4, f5⟩ := blk6 K9
    obtain ⟨g0, g1, g2, g3, g4⟩ := blk5 KF
    clear hx3 ho3 hcx
    go_wp2_with fail
    clear e0 e1 e2 e3 e4 e5 f0 f1 f2 f3 f4 f5 g0 g1 g2 g3 g4
    have K9 := K9.set_ 2 (.int .i64 (3 + x3))
    have K8 := K8.far (p := ⟨w1.heap.size, 2, none⟩) (by simp; omega) (.int .i64 (3 + x3))
    have KF := KF.far (p := ⟨w1.heap.size, 2, none⟩) (by simp; omega) (.int .i64 (3 + x3))
    have hcx := hc3.setCell (p := ⟨w1.heap.size, 2, none⟩) (by simp; omega) (.int .i64 (3 + x3))
    have hox := hox.setCell (p := ⟨w1.heap.size, 2, none⟩) (.inr (by simp; omega)) (.int .i64 (3 + x3))
    simp only [List.setIfInBounds_toArray, List.set_cons_zero, List.set_cons_succ] at K9
    refine (l1Below_any g cells _ (by omega) (by omega) hcx).mono ?_
    rintro e w4 ⟨x4, rfl, hx4, hc4, ho4⟩
    obtain ⟨ha4, hb4⟩ := belowP hx4 (by omega)
    have K9 := K9.only ho4 (by omega)
    have K8 := K8.only ho4 (by omega)
    have KF := KF.only ho4 (by omega)
    have hox := hox.trans ho4
    have hs4 := ho4.size
    simp [World.setCell] at hs4
    obtain ⟨⟨e0, e1, e2, e3, e4, e5⟩, f0, f1, f2, f3, f4, f5⟩ := blk6 K9
    obtain ⟨g0, g1, g2, g3, g4⟩ := blk5 KF
    clear hx4 ho4 hcx
    obtain ⟨⟨h0, h1, h2, h3, h4, h5⟩, z0, z1, z2, z3, z4, z5⟩ := blk6 K8
    go_wp2_with fail
    refine bodyPost_ret (v := .agg #[Value.int IntKind.i64 8, Value.int IntKind.i64 0, Value.int IntKind.i64 (3 + x3), Value.int IntKind.i64 0, Value.int IntKind.i64 (x4), Value.int IntKind.i64 0]) (by simp [results, Try.results207, go_sem, h0, h1, h2, h3, h4, h5]; done) rfl ⟨⟨8, 0, 3 + x3, 0, x4, 0⟩, rfl, ⟨by simp <;> omega, by simp <;> omega, by simp <;> omega, by simp <;> omega, by simp <;> omega, by simp <;> omega⟩, ?_, ?_⟩
    · iterate 7 (refine Cur.setCell ?_ (by simp <;> omega) _)
      exact hc4
    · iterate 7 (refine Only.setCell ?_ (.inr (by simp <;> omega)) _)
      exact hox
  · have ku := fun w => l1uses_any 11 w
    simp only [show uR 11 = true from rfl, show uA 11 = true from rfl, show uB 11 = true from rfl, show uX 11 = true from rfl, show uN 11 = false from rfl] at ku
    have KU := hide ku
    clear ku
    go_wp2_with fail
    have K9a := Blk.new w1 72 #[Value.int IntKind.i64 11, Value.int IntKind.i64 0, Value.int IntKind.i64 0, Value.int IntKind.i64 0, Value.int IntKind.i64 0, Value.int IntKind.i64 0]
    refine (KU.out _).mono ?_
    rintro e w2 ⟨rfl, hb2⟩
    have hs2 : w1.heap.size + 1 ≤ w2.heap.size := by have := hb2.size; simpa using this
    have K9 := K9a.below hb2 (by simp)
    have hc2 : Cur w2 g := (hc1.alloc _).below (hb2.mono (by simp; omega))
    have hO2 : Only g w w2 := (hO1.alloc _).trans (Only.of_below hb2)
    have K8 := (K8.alloc _).below hb2 (by simp; omega)
    obtain ⟨⟨e0, e1, e2, e3, e4, e5⟩, f0, f1, f2, f3, f4, f5⟩ := blk6 K9
    clear K9a hb2 hO1 hc1
    go_wp2_with fail
    clear e0 e1 e2 e3 e4 e5 f0 f1 f2 f3 f4 f5
    have KF := Blk.new w2 151 #[Value.bool true, Value.bool true, Value.bool true, Value.bool true, Value.bool false]
    have K9 := K9.alloc (Obj.cells #[Value.bool true, Value.bool true, Value.bool true, Value.bool true, Value.bool false] 151)
    have K8 := K8.alloc (Obj.cells #[Value.bool true, Value.bool true, Value.bool true, Value.bool true, Value.bool false] 151)
    have hcx := hc2.alloc (Obj.cells #[Value.bool true, Value.bool true, Value.bool true, Value.bool true, Value.bool false] 151)
    have hox := hO2.alloc (Obj.cells #[Value.bool true, Value.bool true, Value.bool true, Value.bool true, Value.bool false] 151)
    refine (l1Below_any g 3 _ (by omega) (by omega) hcx).mono ?_
    rintro e w3 ⟨x3, rfl, hx3, hc3, ho3⟩
    obtain ⟨ha3, hb3⟩ := below3 hx3
    have K9 := K9.only ho3 (by omega)
    have K8 := K8.only ho3 (by omega)
    have KF := KF.only ho3 (by omega)
    have hox := hox.trans ho3
    have hs3 := ho3.size
    simp at hs3
    obtain ⟨⟨e0, e1, e2, e3, e4, e5⟩, f0, f1, f2, f3, f4, f5⟩ := blk6 K9
    obtain ⟨g0, g1, g2, g3, g4⟩ := blk5 KF
    clear hx3 ho3 hcx
    go_wp2_with fail
    clear e0 e1 e2 e3 e4 e5 f0 f1 f2 f3 f4 f5 g0 g1 g2 g3 g4
    have K9 := K9.set_ 1 (.int .i64 (x3))
    have K8 := K8.far (p := ⟨w1.heap.size, 1, none⟩) (by simp; omega) (.int .i64 (x3))
    have KF := KF.far (p := ⟨w1.heap.size, 1, none⟩) (by simp; omega) (.int .i64 (x3))
    have hcx := hc3.setCell (p := ⟨w1.heap.size, 1, none⟩) (by simp; omega) (.int .i64 (x3))
    have hox := hox.setCell (p := ⟨w1.heap.size, 1, none⟩) (.inr (by simp; omega)) (.int .i64 (x3))
    simp only [List.setIfInBounds_toArray, List.set_cons_zero, List.set_cons_succ] at K9
    refine (l1Below_any g 2 _ (by omega) (by omega) hcx).mono ?_
    rintro e w4 ⟨x4, rfl, hx4, hc4, ho4⟩
    obtain ⟨ha4, hb4⟩ := below2' hx4
    have K9 := K9.only ho4 (by omega)
    have K8 := K8.only ho4 (by omega)
    have KF := KF.only ho4 (by omega)
    have hox := hox.trans ho4
    have hs4 := ho4.size
    simp [World.setCell] at hs4
    obtain ⟨⟨e0, e1, e2, e3, e4, e5⟩, f0, f1, f2, f3, f4, f5⟩ := blk6 K9
    obtain ⟨g0, g1, g2, g3, g4⟩ := blk5 KF
    clear hx4 ho4 hcx
    go_wp2_with fail
    clear e0 e1 e2 e3 e4 e5 f0 f1 f2 f3 f4 f5 g0 g1 g2 g3 g4
    have K9 := K9.set_ 2 (.int .i64 (3 + x4))
    have K8 := K8.far (p := ⟨w1.heap.size, 2, none⟩) (by simp; omega) (.int .i64 (3 + x4))
    have KF := KF.far (p := ⟨w1.heap.size, 2, none⟩) (by simp; omega) (.int .i64 (3 + x4))
    have hcx := hc4.setCell (p := ⟨w1.heap.size, 2, none⟩) (by simp; omega) (.int .i64 (3 + x4))
    have hox := hox.setCell (p := ⟨w1.heap.size, 2, none⟩) (.inr (by simp; omega)) (.int .i64 (3 + x4))
    simp only [List.setIfInBounds_toArray, List.set_cons_zero, List.set_cons_succ] at K9
    refine (l1Below_any g 3 _ (by omega) (by omega) hcx).mono ?_
    rintro e w5 ⟨x5, rfl, hx5, hc5, ho5⟩
    obtain ⟨ha5, hb5⟩ := below3 hx5
    have K9 := K9.only ho5 (by omega)
    have K8 := K8.only ho5 (by omega)
    have KF := KF.only ho5 (by omega)
    have hox := hox.trans ho5
    have hs5 := ho5.size
    simp [World.setCell] at hs5
    obtain ⟨⟨e0, e1, e2, e3, e4, e5⟩, f0, f1, f2, f3, f4, f5⟩ := blk6 K9
    obtain ⟨g0, g1, g2, g3, g4⟩ := blk5 KF
    clear hx5 ho5 hcx
    go_wp2_with fail
    clear e0 e1 e2 e3 e4 e5 f0 f1 f2 f3 f4 f5 g0 g1 g2 g3 g4
    have K9 := K9.set_ 3 (.int .i64 (3 + x5))
    have K8 := K8.far (p := ⟨w1.heap.size, 3, none⟩) (by simp; omega) (.int .i64 (3 + x5))
    have KF := KF.far (p := ⟨w1.heap.size, 3, none⟩) (by simp; omega) (.int .i64 (3 + x5))
    have hcx := hc5.setCell (p := ⟨w1.heap.size, 3, none⟩) (by simp; omega) (.int .i64 (3 + x5))
    have hox := hox.setCell (p := ⟨w1.heap.size, 3, none⟩) (.inr (by simp; omega)) (.int .i64 (3 + x5))
    simp only [List.setIfInBounds_toArray, List.set_cons_zero, List.set_cons_succ] at K9
    refine (l1Below_any g cells _ (by omega) (by omega) hcx).mono ?_
    rintro e w6 ⟨x6, rfl, hx6, hc6, ho6⟩
    obtain ⟨ha6, hb6⟩ := belowP hx6 (by omega)
    have K9 := K9.only ho6 (by omega)
    have K8 := K8.only ho6 (by omega)
    have KF := KF.only ho6 (by omega)
    have hox := hox.trans ho6
    have hs6 := ho6.size
    simp [World.setCell] at hs6
    obtain ⟨⟨e0, e1, e2, e3, e4, e5⟩, f0, f1, f2, f3, f4, f5⟩ := blk6 K9
    obtain ⟨g0, g1, g2, g3, g4⟩ := blk5 KF
    clear hx6 ho6 hcx
    obtain ⟨⟨h0, h1, h2, h3, h4, h5⟩, z0, z1, z2, z3, z4, z5⟩ := blk6 K8
    go_wp2_with fail
    refine bodyPost_ret (v := .agg #[Value.int IntKind.i64 11, Value.int IntKind.i64 (x3), Value.int IntKind.i64 (3 + x4), Value.int IntKind.i64 (3 + x5), Value.int IntKind.i64 (x6), Value.int IntKind.i64 0]) (by simp [results, Try.results207, go_sem, h0, h1, h2, h3, h4, h5]; done) rfl ⟨⟨11, x3, 3 + x4, 3 + x5, x6, 0⟩, rfl, ⟨by simp <;> omega, by simp <;> omega, by simp <;> omega, by simp <;> omega, by simp <;> omega, by simp <;> omega⟩, ?_, ?_⟩
    · iterate 7 (refine Cur.setCell ?_ (by simp <;> omega) _)
      exact hc6
    · iterate 7 (refine Only.setCell ?_ (.inr (by simp <;> omega)) _)
      exact hox
  · have ku := fun w => l1uses_any 12 w
    simp only [show uR 12 = false from rfl, show uA 12 = false from rfl, show uB 12 = false from rfl, show uX 12 = false from rfl, show uN 12 = false from rfl] at ku
    have KU := hide ku
    clear ku
    go_wp2_with fail
    have K9a := Blk.new w1 72 #[Value.int IntKind.i64 12, Value.int IntKind.i64 0, Value.int IntKind.i64 0, Value.int IntKind.i64 0, Value.int IntKind.i64 0, Value.int IntKind.i64 0]
    refine (KU.out _).mono ?_
    rintro e w2 ⟨rfl, hb2⟩
    have hs2 : w1.heap.size + 1 ≤ w2.heap.size := by have := hb2.size; simpa using this
    have K9 := K9a.below hb2 (by simp)
    have hc2 : Cur w2 g := (hc1.alloc _).below (hb2.mono (by simp; omega))
    have hO2 : Only g w w2 := (hO1.alloc _).trans (Only.of_below hb2)
    have K8 := (K8.alloc _).below hb2 (by simp; omega)
    obtain ⟨⟨e0, e1, e2, e3, e4, e5⟩, f0, f1, f2, f3, f4, f5⟩ := blk6 K9
    clear K9a hb2 hO1 hc1
    obtain ⟨⟨h0, h1, h2, h3, h4, h5⟩, z0, z1, z2, z3, z4, z5⟩ := blk6 K8
    have hlt8 : w.heap.size < w2.heap.size := by omega
    have hlt9 : w1.heap.size < w2.heap.size := by omega
    have K8w := K8
    go_wp2_with fail
    clear e0 e1 e2 e3 e4 e5 f0 f1 f2 f3 f4 f5
    have KF := Blk.new w2 151 #[Value.bool false, Value.bool false, Value.bool false, Value.bool false, Value.bool false]
    have K9 := K9.alloc (Obj.cells #[Value.bool false, Value.bool false, Value.bool false, Value.bool false, Value.bool false] 151)
    have K8 := K8.alloc (Obj.cells #[Value.bool false, Value.bool false, Value.bool false, Value.bool false, Value.bool false] 151)
    have HK := ((((((K8w.set_ 0 (.int .i64 12)).set_ 1 (.int .i64 0)).set_ 2 (.int .i64 0)).set_ 3 (.int .i64 0)).set_ 4 (.int .i64 0)).set_ 5 (.int .i64 0)).alloc (Obj.cells #[Value.bool false, Value.bool false, Value.bool false, Value.bool false, Value.bool false] 151)
    simp only [List.setIfInBounds_toArray, List.set_cons_zero, List.set_cons_succ] at HK
    clear h0 h1 h2 h3 h4 h5 z0 z1 z2 z3 z4 z5
    obtain ⟨⟨h0, h1, h2, h3, h4, h5⟩, z0, z1, z2, z3, z4, z5⟩ := blk6 HK
    refine bodyPost_ret (v := .agg #[Value.int IntKind.i64 12, Value.int IntKind.i64 0, Value.int IntKind.i64 0, Value.int IntKind.i64 0, Value.int IntKind.i64 0, Value.int IntKind.i64 0]) (by simp [results, Try.results207, go_sem, h0, h1, h2, h3, h4, h5]; done) rfl ⟨⟨12, 0, 0, 0, 0, 0⟩, rfl, ⟨by simp <;> omega, by simp <;> omega, by simp <;> omega, by simp <;> omega, by simp <;> omega, by simp <;> omega⟩, ?_, ?_⟩
    · refine Cur.alloc ?_ _
      iterate 6 (refine Cur.setCell ?_ (by simp <;> omega) _)
      exact hc2
    · refine Only.alloc ?_ _
      iterate 6 (refine Only.setCell ?_ (.inr (by simp <;> omega)) _)
      exact hO2
  · have ku := fun w => l1uses_any 1 w
    simp only [show uR 1 = true from rfl, show uA 1 = false from rfl, show uB 1 = false from rfl, show uX 1 = false from rfl, show uN 1 = true from rfl] at ku
    have KU := hide ku
    clear ku
    go_wp2_with fail
    have K9a := Blk.new w1 72 #[Value.int IntKind.i64 1, Value.int IntKind.i64 0, Value.int IntKind.i64 0, Value.int IntKind.i64 0, Value.int IntKind.i64 0, Value.int IntKind.i64 0]
    refine (KU.out _).mono ?_
    rintro e w2 ⟨rfl, hb2⟩
    have hs2 : w1.heap.size + 1 ≤ w2.heap.size := by have := hb2.size; simpa using this
    have K9 := K9a.below hb2 (by simp)
    have hc2 : Cur w2 g := (hc1.alloc _).below (hb2.mono (by simp; omega))
    have hO2 : Only g w w2 := (hO1.alloc _).trans (Only.of_below hb2)
    have K8 := (K8.alloc _).below hb2 (by simp; omega)
    obtain ⟨⟨e0, e1, e2, e3, e4, e5⟩, f0, f1, f2, f3, f4, f5⟩ := blk6 K9
    clear K9a hb2 hO1 hc1
    go_wp2_with fail
    clear e0 e1 e2 e3 e4 e5 f0 f1 f2 f3 f4 f5
    have KF := Blk.new w2 151 #[Value.bool true, Value.bool false, Value.bool false, Value.bool false, Value.bool true]
    have K9 := K9.alloc (Obj.cells #[Value.bool true, Value.bool false, Value.bool false, Value.bool false, Value.bool true] 151)
    have K8 := K8.alloc (Obj.cells #[Value.bool true, Value.bool false, Value.bool false, Value.bool false, Value.bool true] 151)
    have hcx := hc2.alloc (Obj.cells #[Value.bool true, Value.bool false, Value.bool false, Value.bool false, Value.bool true] 151)
    have hox := hO2.alloc (Obj.cells #[Value.bool true, Value.bool false, Value.bool false, Value.bool false, Value.bool true] 151)
    refine (l1Below_any g 3 _ (by omega) (by omega) hcx).mono ?_
    rintro e w3 ⟨x3, rfl, hx3, hc3, ho3⟩
    obtain ⟨ha3, hb3⟩ := below3 hx3
    have K9 := K9.only ho3 (by omega)
    have K8 := K8.only ho3 (by omega)
    have KF := KF.only ho3 (by omega)
    have hox := hox.trans ho3
    have hs3 := ho3.size
    simp at hs3
    obtain ⟨⟨e0, e1, e2, e3, e4, e5⟩, f0, f1, f2, f3, f4, f5⟩ := blk6 K9
    obtain ⟨g0, g1, g2, g3, g4⟩ := blk5 KF
    clear hx3 ho3 hcx
    go_wp2_with fail
    clear e0 e1 e2 e3 e4 e5 f0 f1 f2 f3 f4 f5 g0 g1 g2 g3 g4
    have K9 := K9.set_ 1 (.int .i64 (x3))
    have K8 := K8.far (p := ⟨w1.heap.size, 1, none⟩) (by simp; omega) (.int .i64 (x3))
    have KF := KF.far (p := ⟨w1.heap.size, 1, none⟩) (by simp; omega) (.int .i64 (x3))
    have hcx := hc3.setCell (p := ⟨w1.heap.size, 1, none⟩) (by simp; omega) (.int .i64 (x3))
    have hox := hox.setCell (p := ⟨w1.heap.size, 1, none⟩) (.inr (by simp; omega)) (.int .i64 (x3))
    simp only [List.setIfInBounds_toArray, List.set_cons_zero, List.set_cons_succ] at K9
    refine (l1Below_any g 3 _ (by omega) (by omega) hcx).mono ?_
    rintro e w4 ⟨x4, rfl, hx4, hc4, ho4⟩
    obtain ⟨ha4, hb4⟩ := below3 hx4
    have K9 := K9.only ho4 (by omega)
    have K8 := K8.only ho4 (by omega)
    have KF := KF.only ho4 (by omega)
    have hox := hox.trans ho4
    have hs4 := ho4.size
    simp [World.setCell] at hs4
    obtain ⟨⟨e0, e1, e2, e3, e4, e5⟩, f0, f1, f2, f3, f4, f5⟩ := blk6 K9
    obtain ⟨g0, g1, g2, g3, g4⟩ := blk5 KF
    clear hx4 ho4 hcx
    go_wp2_with fail
    clear e0 e1 e2 e3 e4 e5 f0 f1 f2 f3 f4 f5 g0 g1 g2 g3 g4
    have K9 := K9.set_ 5 (.int .i64 (x4))
    have K8 := K8.far (p := ⟨w1.heap.size, 5, none⟩) (by simp; omega) (.int .i64 (x4))
    have KF := KF.far (p := ⟨w1.heap.size, 5, none⟩) (by simp; omega) (.int .i64 (x4))
    have hcx := hc4.setCell (p := ⟨w1.heap.size, 5, none⟩) (by simp; omega) (.int .i64 (x4))
    have hox := hox.setCell (p := ⟨w1.heap.size, 5, none⟩) (.inr (by simp; omega)) (.int .i64 (x4))
    simp only [List.setIfInBounds_toArray, List.set_cons_zero, List.set_cons_succ] at K9
    refine (l1Below_any g 2 _ (by omega) (by omega) hcx).mono ?_
    rintro e w5 ⟨x5, rfl, hx5, hc5, ho5⟩
    obtain ⟨ha5, hb5⟩ := below2' hx5
    have K9 := K9.only ho5 (by omega)
    have K8 := K8.only ho5 (by omega)
    have KF := KF.only ho5 (by omega)
    have hox := hox.trans ho5
    have hs5 := ho5.size
    simp [World.setCell] at hs5
    obtain ⟨⟨e0, e1, e2, e3, e4, e5⟩, f0, f1, f2, f3, f4, f5⟩ := blk6 K9
    obtain ⟨g0, g1, g2, g3, g4⟩ := blk5 KF
    clear hx5 ho5 hcx
    obtain ⟨⟨h0, h1, h2, h3, h4, h5⟩, z0, z1, z2, z3, z4, z5⟩ := blk6 K8
    go_wp2_with fail
    refine bodyPost_ret (v := .agg #[Value.int IntKind.i64 1, Value.int IntKind.i64 (3 + x5), Value.int IntKind.i64 0, Value.int IntKind.i64 0, Value.int IntKind.i64 0, Value.int IntKind.i64 (x4)]) (by simp [results, Try.results207, go_sem, h0, h1, h2, h3, h4, h5]; done) rfl ⟨⟨1, 3 + x5, 0, 0, 0, x4⟩, rfl, ⟨by simp <;> omega, by simp <;> omega, by simp <;> omega, by simp <;> omega, by simp <;> omega, by simp <;> omega⟩, ?_, ?_⟩
    · iterate 7 (refine Cur.setCell ?_ (by simp <;> omega) _)
      exact hc5
    · iterate 7 (refine Only.setCell ?_ (.inr (by simp <;> omega)) _)
      exact hox
  · have ku := fun w => l1uses_any 3 w
    simp only [show uR 3 = true from rfl, show uA 3 = true from rfl, show uB 3 = true from rfl, show uX 3 = false from rfl, show uN 3 = false from rfl] at ku
    have KU := hide ku
    clear ku
    go_wp2_with fail
    have K9a := Blk.new w1 72 #[Value.int IntKind.i64 3, Value.int IntKind.i64 0, Value.int IntKind.i64 0, Value.int IntKind.i64 0, Value.int IntKind.i64 0, Value.int IntKind.i64 0]
    refine (KU.out _).mono ?_
    rintro e w2 ⟨rfl, hb2⟩
    have hs2 : w1.heap.size + 1 ≤ w2.heap.size := by have := hb2.size; simpa using this
    have K9 := K9a.below hb2 (by simp)
    have hc2 : Cur w2 g := (hc1.alloc _).below (hb2.mono (by simp; omega))
    have hO2 : Only g w w2 := (hO1.alloc _).trans (Only.of_below hb2)
    have K8 := (K8.alloc _).below hb2 (by simp; omega)
    obtain ⟨⟨e0, e1, e2, e3, e4, e5⟩, f0, f1, f2, f3, f4, f5⟩ := blk6 K9
    clear K9a hb2 hO1 hc1
    go_wp2_with fail
    clear e0 e1 e2 e3 e4 e5 f0 f1 f2 f3 f4 f5
    have KF := Blk.new w2 151 #[Value.bool true, Value.bool true, Value.bool true, Value.bool false, Value.bool false]
    have K9 := K9.alloc (Obj.cells #[Value.bool true, Value.bool true, Value.bool true, Value.bool false, Value.bool false] 151)
    have K8 := K8.alloc (Obj.cells #[Value.bool true, Value.bool true, Value.bool true, Value.bool false, Value.bool false] 151)
    have hcx := hc2.alloc (Obj.cells #[Value.bool true, Value.bool true, Value.bool true, Value.bool false, Value.bool false] 151)
    have hox := hO2.alloc (Obj.cells #[Value.bool true, Value.bool true, Value.bool true, Value.bool false, Value.bool false] 151)
    refine (l1Below_any g 3 _ (by omega) (by omega) hcx).mono ?_
    rintro e w3 ⟨x3, rfl, hx3, hc3, ho3⟩
    obtain ⟨ha3, hb3⟩ := below3 hx3
    have K9 := K9.only ho3 (by omega)
    have K8 := K8.only ho3 (by omega)
    have KF := KF.only ho3 (by omega)
    have hox := hox.trans ho3
    have hs3 := ho3.size
    simp at hs3
    obtain ⟨⟨e0, e1, e2, e3, e4, e5⟩, f0, f1, f2, f3, f4, f5⟩ := blk6 K9
    obtain ⟨g0, g1, g2, g3, g4⟩ := blk5 KF
    clear hx3 ho3 hcx
    go_wp2_with fail
    clear e0 e1 e2 e3 e4 e5 f0 f1 f2 f3 f4 f5 g0 g1 g2 g3 g4
    have K9 := K9.set_ 1 (.int .i64 (x3))
    have K8 := K8.far (p := ⟨w1.heap.size, 1, none⟩) (by simp; omega) (.int .i64 (x3))
    have KF := KF.far (p := ⟨w1.heap.size, 1, none⟩) (by simp; omega) (.int .i64 (x3))
    have hcx := hc3.setCell (p := ⟨w1.heap.size, 1, none⟩) (by simp; omega) (.int .i64 (x3))
    have hox := hox.setCell (p := ⟨w1.heap.size, 1, none⟩) (.inr (by simp; omega)) (.int .i64 (x3))
    simp only [List.setIfInBounds_toArray, List.set_cons_zero, List.set_cons_succ] at K9
    refine (l1Below_any g 2 _ (by omega) (by omega) hcx).mono ?_
    rintro e w4 ⟨x4, rfl, hx4, hc4, ho4⟩
    obtain ⟨ha4, hb4⟩ := below2' hx4
    have K9 := K9.only ho4 (by omega)
    have K8 := K8.only ho4 (by omega)
    have KF := KF.only ho4 (by omega)
    have hox := hox.trans ho4
    have hs4 := ho4.size
    simp [World.setCell] at hs4
    obtain ⟨⟨e0, e1, e2, e3, e4, e5⟩, f0, f1, f2, f3, f4, f5⟩ := blk6 K9
    obtain ⟨g0, g1, g2, g3, g4⟩ := blk5 KF
    clear hx4 ho4 hcx
    go_wp2_with fail
    clear e0 e1 e2 e3 e4 e5 f0 f1 f2 f3 f4 f5 g0 g1 g2 g3 g4
    have K9 := K9.set_ 2 (.int .i64 (3 + x4))
    have K8 := K8.far (p := ⟨w1.heap.size, 2, none⟩) (by simp; omega) (.int .i64 (3 + x4))
    have KF := KF.far (p := ⟨w1.heap.size, 2, none⟩) (by simp; omega) (.int .i64 (3 + x4))
    have hcx := hc4.setCell (p := ⟨w1.heap.size, 2, none⟩) (by simp; omega) (.int .i64 (3 + x4))
    have hox := hox.setCell (p := ⟨w1.heap.size, 2, none⟩) (.inr (by simp; omega)) (.int .i64 (3 + x4))
    simp only [List.setIfInBounds_toArray, List.set_cons_zero, List.set_cons_succ] at K9
    refine (l1Below_any g 3 _ (by omega) (by omega) hcx).mono ?_
    rintro e w5 ⟨x5, rfl, hx5, hc5, ho5⟩
    obtain ⟨ha5, hb5⟩ := below3 hx5
    have K9 := K9.only ho5 (by omega)
    have K8 := K8.only ho5 (by omega)
    have KF := KF.only ho5 (by omega)
    have hox := hox.trans ho5
    have hs5 := ho5.size
    simp [World.setCell] at hs5
    obtain ⟨⟨e0, e1, e2, e3, e4, e5⟩, f0, f1, f2, f3, f4, f5⟩ := blk6 K9
    obtain ⟨g0, g1, g2, g3, g4⟩ := blk5 KF
    clear hx5 ho5 hcx
    obtain ⟨⟨h0, h1, h2, h3, h4, h5⟩, z0, z1, z2, z3, z4, z5⟩ := blk6 K8
    go_wp2_with fail
    refine bodyPost_ret (v := .agg #[Value.int IntKind.i64 3, Value.int IntKind.i64 (x3), Value.int IntKind.i64 (3 + x4), Value.int IntKind.i64 (3 + x5), Value.int IntKind.i64 0, Value.int IntKind.i64 0]) (by simp [results, Try.results207, go_sem, h0, h1, h2, h3, h4, h5]; done) rfl ⟨⟨3, x3, 3 + x4, 3 + x5, 0, 0⟩, rfl, ⟨by simp <;> omega, by simp <;> omega, by simp <;> omega, by simp <;> omega, by simp <;> omega, by simp <;> omega⟩, ?_, ?_⟩
    · iterate 7 (refine Cur.setCell ?_ (by simp <;> omega) _)
      exact hc5
    · iterate 7 (refine Only.setCell ?_ (.inr (by simp <;> omega)) _)
      exact hox
  · have ku := fun w => l1uses_any 13 w
    simp only [show uR 13 = false from rfl, show uA 13 = true from rfl, show uB 13 = false from rfl, show uX 13 = false from rfl, show uN 13 = true from rfl] at ku
    have KU := hide ku
    clear ku
    go_wp2_with fail
    have K9a := Blk.new w1 72 #[Value.int IntKind.i64 13, Value.int IntKind.i64 0, Value.int IntKind.i64 0, Value.int IntKind.i64 0, Value.int IntKind.i64 0, Value.int IntKind.i64 0]
    refine (KU.out _).mono ?_
    rintro e w2 ⟨rfl, hb2⟩
    have hs2 : w1.heap.size + 1 ≤ w2.heap.size := by have := hb2.size; simpa using this
    have K9 := K9a.below hb2 (by simp)
    have hc2 : Cur w2 g := (hc1.alloc _).below (hb2.mono (by simp; omega))
    have hO2 : Only g w w2 := (hO1.alloc _).trans (Only.of_below hb2)
    have K8 := (K8.alloc _).below hb2 (by simp; omega)
    obtain ⟨⟨e0, e1, e2, e3, e4, e5⟩, f0, f1, f2, f3, f4, f5⟩ := blk6 K9
    clear K9a hb2 hO1 hc1
    go_wp2_with fail
    clear e0 e1 e2 e3 e4 e5 f0 f1 f2 f3 f4 f5
    have KF := Blk.new w2 151 #[Value.bool false, Value.bool true, Value.bool false, Value.bool false, Value.bool true]
    have K9 := K9.alloc (Obj.cells #[Value.bool false, Value.bool true, Value.bool false, Value.bool false, Value.bool true] 151)
    have K8 := K8.alloc (Obj.cells #[Value.bool false, Value.bool true, Value.bool false, Value.bool false, Value.bool true] 151)
    have hcx := hc2.alloc (Obj.cells #[Value.bool false, Value.bool true, Value.bool false, Value.bool false, Value.bool true] 151)
    have hox := hO2.alloc (Obj.cells #[Value.bool false, Value.bool true, Value.bool false, Value.bool false, Value.bool true] 151)
    refine (l1Below_any g 2 _ (by omega) (by omega) hcx).mono ?_
    rintro e w3 ⟨x3, rfl, hx3, hc3, ho3⟩
    obtain ⟨ha3, hb3⟩ := below2' hx3
    have K9 := K9.only ho3 (by omega)
    have K8 := K8.only ho3 (by omega)
    have KF := KF.only ho3 (by omega)
    have hox := hox.trans ho3
    have hs3 := ho3.size
    simp at hs3
    obtain ⟨⟨e0, e1, e2, e3, e4, e5⟩, f0, f1, f2, f3, f4, f5⟩ := blk6 K9
    obtain ⟨g0, g1, g2, g3, g4⟩ := blk5 KF
    clear hx3 ho3 hcx
    go_wp2_with fail
    clear e0 e1 e2 e3 e4 e5 f0 f1 f2 f3 f4 f5 g0 g1 g2 g3 g4
    have K9 := K9.set_ 2 (.int .i64 (3 + x3))
    have K8 := K8.far (p := ⟨w1.heap.size, 2, none⟩) (by simp; omega) (.int .i64 (3 + x3))
    have KF := KF.far (p := ⟨w1.heap.size, 2, none⟩) (by simp; omega) (.int .i64 (3 + x3))
    have hcx := hc3.setCell (p := ⟨w1.heap.size, 2, none⟩) (by simp; omega) (.int .i64 (3 + x3))
    have hox := hox.setCell (p := ⟨w1.heap.size, 2, none⟩) (.inr (by simp; omega)) (.int .i64 (3 + x3))
    simp only [List.setIfInBounds_toArray, List.set_cons_zero, List.set_cons_succ] at K9
    refine (l1Below_any g 3 _ (by omega) (by omega) hcx).mono ?_
    rintro e w4 ⟨x4, rfl, hx4, hc4, ho4⟩
    obtain ⟨ha4, hb4⟩ := below3 hx4
    have K9 := K9.only ho4 (by omega)
    have K8 := K8.only ho4 (by omega)
    have KF := KF.only ho4 (by omega)
    have hox := hox.trans ho4
    have hs4 := ho4.size
    simp [World.setCell] at hs4
    obtain ⟨⟨e0, e1, e2, e3, e4, e5⟩, f0, f1, f2, f3, f4, f5⟩ := blk6 K9
    obtain ⟨g0, g1, g2, g3, g4⟩ := blk5 KF
    clear hx4 ho4 hcx
    go_wp2_with fail
    clear e0 e1 e2 e3 e4 e5 f0 f1 f2 f3 f4 f5 g0 g1 g2 g3 g4
    have K9 := K9.set_ 2 (.int .i64 (x4))
    have K8 := K8.far (p := ⟨w1.heap.size, 2, none⟩) (by simp; omega) (.int .i64 (x4))
    have KF := KF.far (p := ⟨w1.heap.size, 2, none⟩) (by simp; omega) (.int .i64 (x4))
    have hcx := hc4.setCell (p := ⟨w1.heap.size, 2, none⟩) (by simp; omega) (.int .i64 (x4))
    have hox := hox.setCell (p := ⟨w1.heap.size, 2, none⟩) (.inr (by simp; omega)) (.int .i64 (x4))
    simp only [List.setIfInBounds_toArray, List.set_cons_zero, List.set_cons_succ] at K9
    refine (l1Below_any g (n - i) _ (by omega) (by omega) hcx).mono ?_
    rintro e w5 ⟨x5, rfl, hx5, hc5, ho5⟩
    obtain ⟨ha5, hb5⟩ := belowP hx5 (by omega)
    have K9 := K9.only ho5 (by omega)
    have K8 := K8.only ho5 (by omega)
    have KF := KF.only ho5 (by omega)
    have hox := hox.trans ho5
    have hs5 := ho5.size
    simp [World.setCell] at hs5
    obtain ⟨⟨e0, e1, e2, e3, e4, e5⟩, f0, f1, f2, f3, f4, f5⟩ := blk6 K9
    obtain ⟨g0, g1, g2, g3, g4⟩ := blk5 KF
    clear hx5 ho5 hcx
    obtain ⟨⟨h0, h1, h2, h3, h4, h5⟩, z0, z1, z2, z3, z4, z5⟩ := blk6 K8
    go_wp2_with fail
    refine bodyPost_ret (v := .agg #[Value.int IntKind.i64 13, Value.int IntKind.i64 0, Value.int IntKind.i64 (x4), Value.int IntKind.i64 0, Value.int IntKind.i64 0, Value.int IntKind.i64 (i + 1 + x5)]) (by simp [results, Try.results207, go_sem, h0, h1, h2, h3, h4, h5]; done) rfl ⟨⟨13, 0, x4, 0, 0, i + 1 + x5⟩, rfl, ⟨by simp <;> omega, by simp <;> omega, by simp <;> omega, by simp <;> omega, by simp <;> omega, by simp <;> omega⟩, ?_, ?_⟩
    · iterate 7 (refine Cur.setCell ?_ (by simp <;> omega) _)
      exact hc5
    · iterate 7 (refine Only.setCell ?_ (.inr (by simp <;> omega)) _)
      exact hox
  · have ku := fun w => l1uses_any 9 w
    simp only [show uR 9 = true from rfl, show uA 9 = true from rfl, show uB 9 = false from rfl, show uX 9 = true from rfl, show uN 9 = true from rfl] at ku
    have KU := hide ku
    clear ku
    go_wp2_with fail
    have K9a := Blk.new w1 72 #[Value.int IntKind.i64 9, Value.int IntKind.i64 0, Value.int IntKind.i64 0, Value.int IntKind.i64 0, Value.int IntKind.i64 0, Value.int IntKind.i64 0]
    refine (KU.out _).mono ?_
    rintro e w2 ⟨rfl, hb2⟩
    have hs2 : w1.heap.size + 1 ≤ w2.heap.size := by have := hb2.size; simpa using this
    have K9 := K9a.below hb2 (by simp)
    have hc2 : Cur w2 g := (hc1.alloc _).below (hb2.mono (by simp; omega))
    have hO2 : Only g w w2 := (hO1.alloc _).trans (Only.of_below hb2)
    have K8 := (K8.alloc _).below hb2 (by simp; omega)
    obtain ⟨⟨e0, e1, e2, e3, e4, e5⟩, f0, f1, f2, f3, f4, f5⟩ := blk6 K9
    clear K9a hb2 hO1 hc1
    go_wp2_with fail
    clear e0 e1 e2 e3 e4 e5 f0 f1 f2 f3 f4 f5
    have KF := Blk.new w2 151 #[Value.bool true, Value.bool true, Value.bool false, Value.bool true, Value.bool true]
    have K9 := K9.alloc (Obj.cells #[Value.bool true, Value.bool true, Value.bool false, Value.bool true, Value.bool true] 151)
    have K8 := K8.alloc (Obj.cells #[Value.bool true, Value.bool true, Value.bool false, Value.bool true, Value.bool true] 151)
    have hcx := hc2.alloc (Obj.cells #[Value.bool true, Value.bool true, Value.bool false, Value.bool true, Value.bool true] 151)
    have hox := hO2.alloc (Obj.cells #[Value.bool true, Value.bool true, Value.bool false, Value.bool true, Value.bool true] 151)
    refine (l1Below_any g 3 _ (by omega) (by omega) hcx).mono ?_
    rintro e w3 ⟨x3, rfl, hx3, hc3, ho3⟩
    obtain ⟨ha3, hb3⟩ := below3 hx3
    have K9 := K9.only ho3 (by omega)
    have K8 := K8.only ho3 (by omega)
    have KF := KF.only ho3 (by omega)
    have hox := hox.trans ho3
    have hs3 := ho3.size
    simp at hs3
    obtain ⟨⟨e0, e1, e2, e3, e4, e5⟩, f0, f1, f2, f3, f4, f5⟩ := blk6 K9
    obtain ⟨g0, g1, g2, g3, g4⟩ := blk5 KF
    clear hx3 ho3 hcx
    go_wp2_with fail
    clear e0 e1 e2 e3 e4 e5 f0 f1 f2 f3 f4 f5 g0 g1 g2 g3 g4
    have K9 := K9.set_ 1 (.int .i64 (x3))
    have K8 := K8.far (p := ⟨w1.heap.size, 1, none⟩) (by simp; omega) (.int .i64 (x3))
    have KF := KF.far (p := ⟨w1.heap.size, 1, none⟩) (by simp; omega) (.int .i64 (x3))
    have hcx := hc3.setCell (p := ⟨w1.heap.size, 1, none⟩) (by simp; omega) (.int .i64 (x3))
    have hox := hox.setCell (p := ⟨w1.heap.size, 1, none⟩) (.inr (by simp; omega)) (.int .i64 (x3))
    simp only [List.setIfInBounds_toArray, List.set_cons_zero, List.set_cons_succ] at K9
    refine (l1Below_any g 2 _ (by omega) (by omega) hcx).mono ?_
    rintro e w4 ⟨x4, rfl, hx4, hc4, ho4⟩
    obtain ⟨ha4, hb4⟩ := below2' hx4
    have K9 := K9.only ho4 (by omega)
    have K8 := K8.only ho4 (by omega)
    have KF := KF.only ho4 (by omega)
    have hox := hox.trans ho4
    have hs4 := ho4.size
    simp [World.setCell] at hs4
    obtain ⟨⟨e0, e1, e2, e3, e4, e5⟩, f0, f1, f2, f3, f4, f5⟩ := blk6 K9
    obtain ⟨g0, g1, g2, g3, g4⟩ := blk5 KF
    clear hx4 ho4 hcx
    go_wp2_with fail
    clear e0 e1 e2 e3 e4 e5 f0 f1 f2 f3 f4 f5 g0 g1 g2 g3 g4
    have K9 := K9.set_ 2 (.int .i64 (3 + x4))
    have K8 := K8.far (p := ⟨w1.heap.size, 2, none⟩) (by simp; omega) (.int .i64 (3 + x4))
    have KF := KF.far (p := ⟨w1.heap.size, 2, none⟩) (by simp; omega) (.int .i64 (3 + x4))
    have hcx := hc4.setCell (p := ⟨w1.heap.size, 2, none⟩) (by simp; omega) (.int .i64 (3 + x4))
    have hox := hox.setCell (p := ⟨w1.heap.size, 2, none⟩) (.inr (by simp; omega)) (.int .i64 (3 + x4))
    simp only [List.setIfInBounds_toArray, List.set_cons_zero, List.set_cons_succ] at K9
    refine (l1Below_any g cells _ (by omega) (by omega) hcx).mono ?_
    rintro e w5 ⟨x5, rfl, hx5, hc5, ho5⟩
    obtain ⟨ha5, hb5⟩ := belowP hx5 (by omega)
    have K9 := K9.only ho5 (by omega)
    have K8 := K8.only ho5 (by omega)
    have KF := KF.only ho5 (by omega)
    have hox := hox.trans ho5
    have hs5 := ho5.size
    simp [World.setCell] at hs5
    obtain ⟨⟨e0, e1, e2, e3, e4, e5⟩, f0, f1, f2, f3, f4, f5⟩ := blk6 K9
    obtain ⟨g0, g1, g2, g3, g4⟩ := blk5 KF
    clear hx5 ho5 hcx
    go_wp2_with fail
    clear e0 e1 e2 e3 e4 e5 f0 f1 f2 f3 f4 f5 g0 g1 g2 g3 g4
    have K9 := K9.set_ 4 (.int .i64 (x5))
    have K8 := K8.far (p := ⟨w1.heap.size, 4, none⟩) (by simp; omega) (.int .i64 (x5))
    have KF := KF.far (p := ⟨w1.heap.size, 4, none⟩) (by simp; omega) (.int .i64 (x5))
    have hcx := hc5.setCell (p := ⟨w1.heap.size, 4, none⟩) (by simp; omega) (.int .i64 (x5))
    have hox := hox.setCell (p := ⟨w1.heap.size, 4, none⟩) (.inr (by simp; omega)) (.int .i64 (x5))
    simp only [List.setIfInBounds_toArray, List.set_cons_zero, List.set_cons_succ] at K9
    refine (l1Below_any g (cells - x5) _ (by omega) (by omega) hcx).mono ?_
    rintro e w6 ⟨x6, rfl, hx6, hc6, ho6⟩
    obtain ⟨ha6, hb6⟩ := belowP hx6 (by omega)
    have K9 := K9.only ho6 (by omega)
    have K8 := K8.only ho6 (by omega)
    have KF := KF.only ho6 (by omega)
    have hox := hox.trans ho6
    have hs6 := ho6.size
    simp [World.setCell] at hs6
    obtain ⟨⟨e0, e1, e2, e3, e4, e5⟩, f0, f1, f2, f3, f4, f5⟩ := blk6 K9
    obtain ⟨g0, g1, g2, g3, g4⟩ := blk5 KF
    clear hx6 ho6 hcx
    obtain ⟨⟨h0, h1, h2, h3, h4, h5⟩, z0, z1, z2, z3, z4, z5⟩ := blk6 K8
    go_wp2_with fail
    refine bodyPost_ret (v := .agg #[Value.int IntKind.i64 9, Value.int IntKind.i64 (x3), Value.int IntKind.i64 (3 + x4), Value.int IntKind.i64 0, Value.int IntKind.i64 (x5), Value.int IntKind.i64 (1 + x6)]) (by simp [results, Try.results207, go_sem, h0, h1, h2, h3, h4, h5]; done) rfl ⟨⟨9, x3, 3 + x4, 0, x5, 1 + x6⟩, rfl, ⟨by simp <;> omega, by simp <;> omega, by simp <;> omega, by simp <;> omega, by simp <;> omega, by simp <;> omega⟩, ?_, ?_⟩
    · iterate 7 (refine Cur.setCell ?_ (by simp <;> omega) _)
      exact hc6
    · iterate 7 (refine Only.setCell ?_ (.inr (by simp <;> omega)) _)
      exact hox
  · have ku := fun w => l1uses_any 10 w
    simp only [show uR 10 = false from rfl, show uA 10 = true from rfl, show uB 10 = true from rfl, show uX 10 = true from rfl, show uN 10 = true from rfl] at ku
    have KU := hide ku
    clear ku
    go_wp2_with fail
    have K9a := Blk.new w1 72 #[Value.int IntKind.i64 10, Value.int IntKind.i64 0, Value.int IntKind.i64 0, Value.int IntKind.i64 0, Value.int IntKind.i64 0, Value.int IntKind.i64 0]
    refine (KU.out _).mono ?_
    rintro e w2 ⟨rfl, hb2⟩
    have hs2 : w1.heap.size + 1 ≤ w2.heap.size := by have := hb2.size; simpa using this
    have K9 := K9a.below hb2 (by simp)
    have hc2 : Cur w2 g := (hc1.alloc _).below (hb2.mono (by simp; omega))
    have hO2 : Only g w w2 := (hO1.alloc _).trans (Only.of_below hb2)
    have K8 := (K8.alloc _).below hb2 (by simp; omega)
    obtain ⟨⟨e0, e1, e2, e3, e4, e5⟩, f0, f1, f2, f3, f4, f5⟩ := blk6 K9
    clear K9a hb2 hO1 hc1
    go_wp2_with fail
    clear e0 e1 e2 e3 e4 e5 f0 f1 f2 f3 f4 f5
    have KF := Blk.new w2 151 #[Value.bool false, Value.bool true, Value.bool true, Value.bool true, Value.bool true]
    have K9 := K9.alloc (Obj.cells #[Value.bool false, Value.bool true, Value.bool true, Value.bool true, Value.bool true] 151)
    have K8 := K8.alloc (Obj.cells #[Value.bool false, Value.bool true, Value.bool true, Value.bool true, Value.bool true] 151)
    have hcx := hc2.alloc (Obj.cells #[Value.bool false, Value.bool true, Value.bool true, Value.bool true, Value.bool true] 151)
    have hox := hO2.alloc (Obj.cells #[Value.bool false, Value.bool true, Value.bool true, Value.bool true, Value.bool true] 151)
    refine (l1Below_any g 2 _ (by omega) (by omega) hcx).mono ?_
    rintro e w3 ⟨x3, rfl, hx3, hc3, ho3⟩
    obtain ⟨ha3, hb3⟩ := below2' hx3
    have K9 := K9.only ho3 (by omega)
    have K8 := K8.only ho3 (by omega)
    have KF := KF.only ho3 (by omega)
    have hox := hox.trans ho3
    have hs3 := ho3.size
    simp at hs3
    obtain ⟨⟨e0, e1, e2, e3, e4, e5⟩, f0, f1, f2, f3, f4, f5⟩ := blk6 K9
    obtain ⟨g0, g1, g2, g3, g4⟩ := blk5 KF
    clear hx3 ho3 hcx
    go_wp2_with fail
    clear e0 e1 e2 e3 e4 e5 f0 f1 f2 f3 f4 f5 g0 g1 g2 g3 g4
    have K9 := K9.set_ 2 (.int .i64 (3 + x3))
    have K8 := K8.far (p := ⟨w1.heap.size, 2, none⟩) (by simp; omega) (.int .i64 (3 + x3))
    have KF := KF.far (p := ⟨w1.heap.size, 2, none⟩) (by simp; omega) (.int .i64 (3 + x3))
    have hcx := hc3.setCell (p := ⟨w1.heap.size, 2, none⟩) (by simp; omega) (.int .i64 (3 + x3))
    have hox := hox.setCell (p := ⟨w1.heap.size, 2, none⟩) (.inr (by simp; omega)) (.int .i64 (3 + x3))
    simp only [List.setIfInBounds_toArray, List.set_cons_zero, List.set_cons_succ] at K9
    refine (l1Below_any g 3 _ (by omega) (by omega) hcx).mono ?_
    rintro e w4 ⟨x4, rfl, hx4, hc4, ho4⟩
    obtain ⟨ha4, hb4⟩ := below3 hx4
    have K9 := K9.only ho4 (by omega)
    have K8 := K8.only ho4 (by omega)
    have KF := KF.only ho4 (by omega)
    have hox := hox.trans ho4
    have hs4 := ho4.size
    simp [World.setCell] at hs4
    obtain ⟨⟨e0, e1, e2, e3, e4, e5⟩, f0, f1, f2, f3, f4, f5⟩ := blk6 K9
    obtain ⟨g0, g1, g2, g3, g4⟩ := blk5 KF
    clear hx4 ho4 hcx
    go_wp2_with fail
    clear e0 e1 e2 e3 e4 e5 f0 f1 f2 f3 f4 f5 g0 g1 g2 g3 g4
    have K9 := K9.set_ 3 (.int .i64 (3 + x4))
    have K8 := K8.far (p := ⟨w1.heap.size, 3, none⟩) (by simp; omega) (.int .i64 (3 + x4))
    have KF := KF.far (p := ⟨w1.heap.size, 3, none⟩) (by simp; omega) (.int .i64 (3 + x4))
    have hcx := hc4.setCell (p := ⟨w1.heap.size, 3, none⟩) (by simp; omega) (.int .i64 (3 + x4))
    have hox := hox.setCell (p := ⟨w1.heap.size, 3, none⟩) (.inr (by simp; omega)) (.int .i64 (3 + x4))
    simp only [List.setIfInBounds_toArray, List.set_cons_zero, List.set_cons_succ] at K9
    refine (l1Below_any g cells _ (by omega) (by omega) hcx).mono ?_
    rintro e w5 ⟨x5, rfl, hx5, hc5, ho5⟩
    obtain ⟨ha5, hb5⟩ := belowP hx5 (by omega)
    have K9 := K9.only ho5 (by omega)
    have K8 := K8.only ho5 (by omega)
    have KF := KF.only ho5 (by omega)
    have hox := hox.trans ho5
    have hs5 := ho5.size
    simp [World.setCell] at hs5
    obtain ⟨⟨e0, e1, e2, e3, e4, e5⟩, f0, f1, f2, f3, f4, f5⟩ := blk6 K9
    obtain ⟨g0, g1, g2, g3, g4⟩ := blk5 KF
    clear hx5 ho5 hcx
    go_wp2_with fail
    clear e0 e1 e2 e3 e4 e5 f0 f1 f2 f3 f4 f5 g0 g1 g2 g3 g4
    have K9 := K9.set_ 4 (.int .i64 (x5))
    have K8 := K8.far (p := ⟨w1.heap.size, 4, none⟩) (by simp; omega) (.int .i64 (x5))
    have KF := KF.far (p := ⟨w1.heap.size, 4, none⟩) (by simp; omega) (.int .i64 (x5))
    have hcx := hc5.setCell (p := ⟨w1.heap.size, 4, none⟩) (by simp; omega) (.int .i64 (x5))
    have hox := hox.setCell (p := ⟨w1.heap.size, 4, none⟩) (.inr (by simp; omega)) (.int .i64 (x5))
    simp only [List.setIfInBounds_toArray, List.set_cons_zero, List.set_cons_succ] at K9
    refine (l1Below_any g (cells - x5) _ (by omega) (by omega) hcx).mono ?_
    rintro e w6 ⟨x6, rfl, hx6, hc6, ho6⟩
    obtain ⟨ha6, hb6⟩ := belowP hx6 (by omega)
    have K9 := K9.only ho6 (by omega)
    have K8 := K8.only ho6 (by omega)
    have KF := KF.only ho6 (by omega)
    have hox := hox.trans ho6
    have hs6 := ho6.size
    simp [World.setCell] at hs6
    obtain ⟨⟨e0, e1, e2, e3, e4, e5⟩, f0, f1, f2, f3, f4, f5⟩ := blk6 K9
    obtain ⟨g0, g1, g2, g3, g4⟩ := blk5 KF
    clear hx6 ho6 hcx
    obtain ⟨⟨h0, h1, h2, h3, h4, h5⟩, z0, z1, z2, z3, z4, z5⟩ := blk6 K8
    go_wp2_with fail
    refine bodyPost_ret (v := .agg #[Value.int IntKind.i64 10, Value.int IntKind.i64 0, Value.int IntKind.i64 (3 + x3), Value.int IntKind.i64 (3 + x4), Value.int IntKind.i64 (x5), Value.int IntKind.i64 (1 + x6)]) (by simp [results, Try.results207, go_sem, h0, h1, h2, h3, h4, h5]; done) rfl ⟨⟨10, 0, 3 + x3, 3 + x4, x5, 1 + x6⟩, rfl, ⟨by simp <;> omega, by simp <;> omega, by simp <;> omega, by simp <;> omega, by simp <;> omega, by simp <;> omega⟩, ?_, ?_⟩
    · iterate 7 (refine Cur.setCell ?_ (by simp <;> omega) _)
      exact hc6
    · iterate 7 (refine Only.setCell ?_ (.inr (by simp <;> omega)) _)
      exact hox
end Go.Proofs.Ytfkaacfeikmabaa
