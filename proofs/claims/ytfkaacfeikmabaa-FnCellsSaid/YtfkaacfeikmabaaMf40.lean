/- FnCells: for every code, the cell of the drawn instruction with the drawn file is what the model says, and one that the instruction may touch, where it is one. No condition. -/
import Derived.Test.YtfkaacfeikmabaaMf0
import Derived.Test.YtfkaacfeikmabaaMf6
import Derived.Test.YtfkaacfeikmabaaMf7
import Derived.Test.YtfkaacfeikmabaaMf32
import Derived.Test.YtfkaacfeikmabaaMf35
import Derived.Test.YtfkaacfeikmabaaMf36
import Derived.BigRegion
import Derived.Deep.RegionLaw
namespace Go.Proofs.Ytfkaacfeikmabaa
open Go.RowKit

attribute [local go_sem ↓] Go.wp_at_zero Go.wp_at_succ

set_option maxRecDepth 100000 in
set_option maxHeartbeats 6400000 in
theorem drawIns_any (A : Option Addr) (n c : Nat) (w : World) (hn : n ≤ c) (ha : BytesAt w (Old w.heap.size) A n) :
    Calls Try.prog 128 #[.slice A n c] w fun e w' => ∃ (d : InsD) (i cells m : Int), e = .returned (.tuple #[d.val, .int .i64 i, .int .i64 cells, .int .i64 m]) ∧ Small d ∧ ((0 ≤ i ∧ i ≤ 30) ∧ (0 ≤ cells ∧ cells ≤ 30) ∧ (0 ≤ m ∧ m ≤ 30)) ∧ Below w.heap.size w w' := by
  have hb0 := below1 w (Obj.cells #[Value.int .i64 0, Value.int .i64 0, Value.int .i64 0, Value.int .i64 0, Value.int .i64 0, Value.int .i64 0] 72)
  have K0 := hide (Blk.new w 72 #[Value.int .i64 0, Value.int .i64 0, Value.int .i64 0, Value.int .i64 0, Value.int .i64 0, Value.int .i64 0])
  have ha0 := ha.old hb0 (by simp)
  go_enter Try.func128, Try.ntmps128
  go_wp2_with fail
  refine (l1New_any A n c _ hn ha0).mono ?_
  rintro e w1 ⟨g, rfl, hg0, hc1, hb1⟩
  have hg0 : w.heap.size < g := by simp only [World.size_alloc] at hg0; omega
  have B1 := below_step hb1
  have K1 := hide (K0.out.below hb1 (by simp))
  have hg := hc1.lt
  clear ha ha0 K0 hb0 hb1
  go_wp2_with fail
  refine (l1bent_any g w1 hc1).mono ?_
  rintro e w2 ⟨v, tv, rfl, zs, ts, ⟨vs, hown⟩, hok, hc2, ho2⟩
  obtain ⟨A1, c1, rfl, -⟩ := own_form hown.ints
  obtain ⟨b, cb, rfl, hb0, hb1, hbc⟩ := rows_at hown.rows (by have := hok.2.1.1; omega)
  have hok := hide hok
  have ht4 := hok.out.2.1
  have hz3 := hok.out.1.1
  have h1 := PAt.start hc2 ho2 hown
  clear hown hbc hc2 ho2 hc1
  obtain ⟨⟨c0, c1'⟩, f0, f1⟩ := h1.cells
  go_wp2_with fail
  refine (l1Below_p ts.length (by omega) (by omega) hg h1).mono ?_
  rintro e w3 ⟨t, rfl, ⟨ht0, ht1⟩, h2, -⟩
  obtain ⟨t, rfl⟩ := Int.eq_ofNat_of_zero_le ht0
  have htt : t < ts.length := by omega
  clear c0 c1' f0 f1 h1
  obtain ⟨⟨c0, c1'⟩, f0, f1⟩ := h2.cells
  have hml := (hok.out.2.2 _ (mem_gett htt)).1
  obtain ⟨A2, c2, hv, -, hin⟩ := own_inss (h2.own.thr t htt)
  have r0 := rows_cell h2.own.rows htt
  rw [hv] at r0
  have hin := hide hin
  have hv := hide hv
  by_cases hL0 : (gett ts t).length = 0
  · have hL1 : ((gett ts t).length : Int) = 0 := by omega
    have K3 := K1.out.only h2.only (by omega)
    have e0 := K3.cell 0
    have e1 := K3.cell 1
    have e2 := K3.cell 2
    have e3 := K3.cell 3
    have e4 := K3.cell 4
    have e5 := K3.cell 5
    have z0 := K3.frozen 0
    have z1 := K3.frozen 1
    have z2 := K3.frozen 2
    have z3 := K3.frozen 3
    have z4 := K3.frozen 4
    have z5 := K3.frozen 5
    simp only [List.getElem?_toArray, List.getElem?_cons_zero, List.getElem?_cons_succ] at e0 e1 e2 e3 e4 e5
    have hB := B1.trans (h2.only.toBelow (by omega) B1.size)
    clear K3
    go_wp2_with fail
    refine bodyPost_ret (v := .tuple #[ins0.val, .int .i64 0, .int .i64 1, .int .i64 1]) (by simp [results, Try.results128, go_sem, e0, e1, e2, e3, e4, e5, InsD.val, ins0]; done) rfl ⟨ins0, 0, 1, 1, rfl, by unfold Small ins0; decide, by omega, ?_⟩
    iterate 6 (refine Below.setCell ?_ (by show w.heap.size ≤ w.heap.size; omega) _)
    exact hB
  · obtain ⟨q, off, rfl, hS, hci⟩ := hin.out.2 (by omega)
    have hLt : ¬ (((gett ts t).length : Int) = 0) := by omega
    go_wp2_with fail
    refine (l1Below_p ((gett ts t).length : Int) (by omega) (by omega) hg h2).mono ?_
    rintro e w4 ⟨i, rfl, ⟨hi0, hi1⟩, h3, hz4⟩
    obtain ⟨i, rfl⟩ := Int.eq_ofNat_of_zero_le hi0
    have hii : i < (gett ts t).length := by omega
    clear c0 c1' f0 f1 r0 hin hci hS
    obtain ⟨⟨c0, c1'⟩, f0, f1⟩ := h3.cells
    obtain ⟨A3, c3, hv3, -, hin⟩ := own_inss (h3.own.thr t htt)
    rw [hv.out] at hv3
    cases hv3
    obtain ⟨q', off', e, -, hci⟩ := hin.2 (by omega)
    cases e
    obtain ⟨y0, y1, y2, y3, y4, y5⟩ := hci i (by omega)
    have r0 := rows_cell h3.own.rows htt
    rw [hv.out] at r0
    have hsm := (hok.out.2.2 _ (mem_gett htt)).2 (getd (gett ts t) i) (by unfold getd; rw [List.getD_eq_getElem?_getD, List.getElem?_eq_getElem (by omega)]; exact List.getElem_mem _)
    have K3 := K1.out.only h3.only (by omega)
    have e0 := K3.cell 0
    have e1 := K3.cell 1
    have e2 := K3.cell 2
    have e3 := K3.cell 3
    have e4 := K3.cell 4
    have e5 := K3.cell 5
    have z0 := K3.frozen 0
    have z1 := K3.frozen 1
    have z2 := K3.frozen 2
    have z3 := K3.frozen 3
    have z4 := K3.frozen 4
    have z5 := K3.frozen 5
    simp only [List.getElem?_toArray, List.getElem?_cons_zero, List.getElem?_cons_succ] at e0 e1 e2 e3 e4 e5
    have hB := B1.trans (h3.only.toBelow (by omega) B1.size)
    have hii' : (i : Int) < ((gett ts t).length : Int) := by omega
    have htt' : (t : Int) < (ts.length : Int) := by omega
    clear hci hin K3 h2 h3
    generalize getd (gett ts t) i = d at *
    go_wp2_with fail
    go_region
    all_goals
      go_wp2_with fail
      refine bodyPost_ret (v := .tuple #[d.val, .int .i64 i, .int .i64 zs.length, .int .i64 (gett ts t).length]) (by simp [results, Try.results128, go_sem, e0, e1, e2, e3, e4, e5, InsD.val]; done) rfl ⟨d, i, _, _, rfl, hsm, by omega, ?_⟩
      refine Below.drew ?_
      iterate 6 (refine Below.setCell ?_ (by show w.heap.size ≤ w.heap.size; omega) _)
      exact hB
end Go.Proofs.Ytfkaacfeikmabaa

namespace Go.Proofs.Ytfkaacfeikmabaa
open Go.RowKit

attribute [local go_sem ↓] Go.wp_at_zero Go.wp_at_succ

set_option maxRecDepth 100000 in
set_option maxHeartbeats 6400000 in
theorem drawCell_any (A : Option Addr) (n c : Nat) (w : World) (hn : n ≤ c) (ha : BytesAt w (Old w.heap.size) A n) :
    Calls Try.prog 50 #[.slice A n c] w fun e w' => ∃ (d : InsD) (A' : Option Addr) (zs : List Int) (c' : Nat), e = .returned (.tuple #[d.val, .agg #[.slice A' zs.length c']]) ∧ Small d ∧ (zs.length = 6 ∨ zs.length = 5) ∧ IntsAt w' (Old w'.heap.size) A' zs ∧ Below w.heap.size w w' := by
  have hb0 := below2 w (Obj.cells #[Value.int .i64 0, Value.int .i64 0, Value.int .i64 0, Value.int .i64 0, Value.int .i64 0, Value.int .i64 0] 72) (Obj.cells #[Value.slice none 0 0] 69)
  have K0 := hide ((Blk.new w 72 #[Value.int .i64 0, Value.int .i64 0, Value.int .i64 0, Value.int .i64 0, Value.int .i64 0, Value.int .i64 0]).alloc (Obj.cells #[Value.slice none 0 0] 69))
  have F0 := Blk.new (w.alloc (Obj.cells #[Value.int .i64 0, Value.int .i64 0, Value.int .i64 0, Value.int .i64 0, Value.int .i64 0, Value.int .i64 0] 72)) 69 #[Value.slice none 0 0]
  simp only [World.size_alloc] at F0
  replace F0 := hide F0
  have ha0 := ha.old hb0 (by simp; omega)
  go_enter Try.func50, Try.ntmps50
  go_wp2_with fail
  refine (drawIns_any A n c _ hn ha0).mono ?_
  rintro e w1 ⟨⟨o, r, a, b, x, nn⟩, i, cells, m, rfl, hs, -, hb1⟩
  simp only [InsD.val]
  have hl1 := hb1.size
  simp only [World.size_alloc] at hl1
  have B1 := (below_then hb0 hb1).alloc (by omega) (Obj.cells #[Value.int .i64 o, Value.int .i64 r, Value.int .i64 a, Value.int .i64 b, Value.int .i64 x, Value.int .i64 nn] 72)
  have K1 := (K0.out.below hb1 K0.out.lt).alloc (Obj.cells #[Value.int .i64 o, Value.int .i64 r, Value.int .i64 a, Value.int .i64 b, Value.int .i64 x, Value.int .i64 nn] 72)
  have F1 := (F0.out.below hb1 F0.out.lt).alloc (Obj.cells #[Value.int .i64 o, Value.int .i64 r, Value.int .i64 a, Value.int .i64 b, Value.int .i64 x, Value.int .i64 nn] 72)
  have J1 := Blk.new w1 72 #[Value.int .i64 o, Value.int .i64 r, Value.int .i64 a, Value.int .i64 b, Value.int .i64 x, Value.int .i64 nn]
  clear hb1 hb0 ha0 K0 F0
  go_wp2_with fail
  obtain ⟨wq, hwq⟩ : ∃ wq, wq = w1.alloc (Obj.cells #[Value.int .i64 o, Value.int .i64 r, Value.int .i64 a, Value.int .i64 b, Value.int .i64 x, Value.int .i64 nn] 72) := ⟨_, rfl⟩
  have hsq : w.heap.size + 1 + 1 < wq.heap.size := by rw [hwq, World.size_alloc]; omega
  rw [← hwq] at B1 K1 J1 F1 ⊢
  clear hwq
  obtain ⟨⟨j0, j1, j2, j3, j4, j5⟩, jl⟩ := ins6 J1
  obtain ⟨⟨k0, k1, k2, k3, k4, k5⟩, kl⟩ := ins6 K1
  have z0 := K1.frozen 0
  have z1 := K1.frozen 1
  have z2 := K1.frozen 2
  have z3 := K1.frozen 3
  have z4 := K1.frozen 4
  have z5 := K1.frozen 5
  have u0 : wq.cell? ⟨w.heap.size + 1, 0, none⟩ = some (.slice none 0 0) := F1.cell 0
  have v0 := F1.frozen 0
  replace B1 := hide B1.drew
  replace J1 := hide J1.drew
  replace K1 := hide K1.drew
  have hF1 : w.heap.size + 1 < wq.heap.size := by omega
  replace F1 := hide F1.drew
  go_region_law (first
    | (go_simp; refine (l1New_any A n c _ hn (ha.old B1.out B1.out.size)).mono ?_; rintro e w2 ⟨g, rfl, hg0, hc2, hb2⟩; have hg0 : wq.heap.size ≤ g := hg0; have J2 := hide (J1.out.below hb2 jl); have K2 := hide (K1.out.below hb2 kl); have F2 := hide (F1.out.below hb2 hF1); have B2 := hide (B1.out.trans (hb2.mono B1.out.size)); have hs2 : wq.heap.size ≤ w2.heap.size := hb2.size; obtain ⟨⟨m0, m1, m2, m3, m4, m5⟩, ml⟩ := ins6 J2.out; go_simp)
    | (go_simp; refine (l2file_any g _ hc2).mono ?_; rintro e w3 ⟨A3, zs, c3, rfl, hzl, hi3, hc3, ho3⟩; have J3 := hide (J2.out.only ho3 (by omega)); have K3 := hide (K2.out.only ho3 (by omega)); have F3 := hide (F2.out.only ho3 (by omega)); have B3 := hide (B2.out.trans (ho3.toBelow (by omega) B2.out.size)); obtain ⟨⟨p0, p1, p2, p3, p4, p5⟩, pl⟩ := ins6 J3.out; obtain ⟨⟨q0, q1, q2, q3, q4, q5⟩, ql⟩ := ins6 K3.out; have y0 := K3.out.frozen 0; have y1 := K3.out.frozen 1; have y2 := K3.out.frozen 2; have y3 := K3.out.frozen 3; have y4 := K3.out.frozen 4; have y5 := K3.out.frozen 5; have q6 : w3.cell? ⟨w.heap.size + 1, 0, none⟩ = some (.slice none 0 0) := F3.out.cell 0; have y6 := F3.out.frozen 0; have hlf := F3.out.lt; go_simp)
    | fail)
  all_goals
    go_wp2_with fail
    refine bodyPost_ret (v := .tuple #[.agg #[.int .i64 o, .int .i64 r, .int .i64 a, .int .i64 b, .int .i64 x, .int .i64 nn], .agg #[.slice A3 zs.length c3]]) (by simp [results, Try.results50, go_sem, q0, q1, q2, q3, q4, q5, q6]; done) rfl ⟨⟨o, r, a, b, x, nn⟩, A3, zs, c3, rfl, hs, hzl, ?_, ?_⟩
    · refine IntsAt.more (S := New w2.heap.size w3.heap.size) ?_ (fun b h => by show b < _; simp only [World.size_setCell]; exact h.2)
      iterate 7 (refine IntsAt.set ?_ _ (fun h => by have h := h.1; first | (have h : w2.heap.size ≤ w.heap.size := h; omega) | (have h : w2.heap.size ≤ w.heap.size + 1 := h; omega)))
      exact hi3
    · iterate 7 (refine Below.setCell ?_ (by first | (show w.heap.size ≤ w.heap.size; omega) | (show w.heap.size ≤ w.heap.size + 1; omega)) _)
      exact B3.out
end Go.Proofs.Ytfkaacfeikmabaa

namespace Go.Proofs.Ytfkaacfeikmabaa
open Go.RowKit Go.ChangeShapes Go.WideShapes Go.ChangeAt

structure Fc (w1 : World) (o r a b x n : Int) (A : Option Addr) (c : Nat) (zs : List Int) (w : World) : Prop where
  I : Blk w w1.heap.size 72 #[.int .i64 o, .int .i64 r, .int .i64 a, .int .i64 b, .int .i64 x, .int .i64 n]
  F : Blk w (w1.heap.size + 1) 69 #[.slice A zs.length c]
  row : IntsAt w (Old w1.heap.size) A zs
  below : Below w1.heap.size w1 w
section
variable {w1 w w' : World} {o r a b x n : Int} {A : Option Addr} {c : Nat} {zs : List Int}
theorem Fc.next (h : Fc w1 o r a b x n A c zs w) (hb : Below w.heap.size w w') : Fc w1 o r a b x n A c zs w' :=
  ⟨h.I.below hb h.I.lt, h.F.below hb h.F.lt, h.row.below hb (fun _ k => Nat.lt_of_lt_of_le k h.below.size), below_then h.below hb⟩
theorem Fc.cells (h : Fc w1 o r a b x n A c zs w) : (w.cell? ⟨w1.heap.size, 0, none⟩ = some (.int .i64 o) ∧ w.cell? ⟨w1.heap.size, 1, none⟩ = some (.int .i64 r) ∧ w.cell? ⟨w1.heap.size, 2, none⟩ = some (.int .i64 a) ∧ w.cell? ⟨w1.heap.size, 3, none⟩ = some (.int .i64 b) ∧ w.cell? ⟨w1.heap.size, 4, none⟩ = some (.int .i64 x) ∧ w.cell? ⟨w1.heap.size, 5, none⟩ = some (.int .i64 n)) ∧ w.cell? ⟨w1.heap.size + 1, 0, none⟩ = some (.slice A zs.length c) :=
  ⟨⟨h.I.cell 0, h.I.cell 1, h.I.cell 2, h.I.cell 3, h.I.cell 4, h.I.cell 5⟩, h.F.cell 0⟩
theorem Fc.ints (h : Fc w1 o r a b x n A c zs w) : IntsAt w (Old w.heap.size) A zs := h.row.more (fun _ k => Nat.lt_of_lt_of_le k h.below.size)
theorem Fc.start (hi : IntsAt w1 (Old w1.heap.size) A zs) : Fc w1 o r a b x n A c zs ((w1.alloc (Obj.cells #[.int .i64 o, .int .i64 r, .int .i64 a, .int .i64 b, .int .i64 x, .int .i64 n] 72)).alloc (Obj.cells #[.slice A zs.length c] 69)) := by
  have hF := Blk.new (w1.alloc (Obj.cells #[Value.int .i64 o, Value.int .i64 r, Value.int .i64 a, Value.int .i64 b, Value.int .i64 x, Value.int .i64 n] 72)) 69 #[Value.slice A zs.length c]
  simp only [World.size_alloc] at hF
  exact ⟨(Blk.new w1 _ _).alloc _, hF, hi.below (below2 w1 _ _) (fun _ h => h), below2 w1 _ _⟩
end

set_option maxRecDepth 100000 in
set_option maxHeartbeats 3200000 in
theorem fnCells_walk (A : Option Addr) (n c : Nat) (w : World) (hn : n ≤ c) (ha : BytesAt w (Old w.heap.size) A n) :
    Calls Try.prog 11 #[.slice A n c] w fun e w' => e = .returned (.bool true) ∧ Below w.heap.size w w' := by
  go_enter Try.func11, Try.ntmps11
  go_wp2_with fail
  refine (drawCell_any A n c _ hn ha).mono ?_
  rintro e w1 ⟨⟨o, r, a, b, x, nn⟩, A3, zs, c3, rfl, hs, hzl, hi, hb1⟩
  simp only [InsD.val]
  unfold Small at hs
  simp only at hs
  obtain ⟨a, rfl⟩ := Int.eq_ofNat_of_zero_le hs.2.2.1.1
  have k1 := fun w hS => (cellOf_all o r x nn b a c3 A3 zs w (by omega) hzl hS).1
  have k2 := fun w hS => (cellOf_all o r x nn b a c3 A3 zs w (by omega) hzl hS).2
  have k3 := fun y w => stouch_any o r a b x nn y w (by omega) (by omega)
  have ht := fun h1 h2 => cellV_touch (o := o) (x := x) (n := nn) (y := geti zs a) (len := zs.length) h1 (by omega) (by omega) h2
  generalize cellV o x nn (geti zs a) zs.length = y at *
  replace k1 := hide k1
  replace k2 := hide k2
  have k3 := hide (k3 y)
  have hT : y = -1 ∨ (¬ y = -1 ∧ x < 0) ∨ (¬ y = -1 ∧ ¬ x < 0 ∧ 0 < touchD o x nn y) := by
    by_cases h1 : y = -1
    · exact .inl h1
    · by_cases h2 : x < 0
      · exact .inr (.inl ⟨h1, h2⟩)
      · exact .inr (.inr ⟨h1, h2, ht (by omega) h1⟩)
  clear ht hs hzl
  generalize touchD o x nn y = t at *
  have K := hide (Fc.start (o := o) (r := r) (a := a) (b := b) (x := x) (n := nn) (c := c3) hi)
  clear hi
  rcases hT with rfl | ⟨h7, h8⟩ | ⟨h7, h8, h9⟩
  all_goals
    go_wp2_with fail
    refine (k1.out _ K.out.ints).mono ?_
    rintro e w2 ⟨rfl, hb2⟩
    have K2 := hide (K.out.next hb2)
    obtain ⟨⟨e0, e1, e2, e3, e4, e5⟩, e6⟩ := K2.out.cells
    have hl2 := K2.out.I.lt
    go_wp2_with fail
    refine (k2.out _ K2.out.ints).mono ?_
    rintro e w3 ⟨rfl, hb3⟩
    have K3 := hide (K2.out.next hb3)
    clear e0 e1 e2 e3 e4 e5 e6
    obtain ⟨⟨e0, e1, e2, e3, e4, e5⟩, e6⟩ := K3.out.cells
    go_wp2_with fail
  iterate 2
    · refine (states_any _).mono ?_
      rintro e w4 ⟨rfl, hb4⟩
      go_wp2_with fail
      go_ret
      exact ⟨rfl, below_then (below_then hb1 K3.out.below) hb4⟩
  · refine (k3.out _).mono ?_
    rintro e w4 ⟨rfl, hb4⟩
    go_wp2_with fail
    refine (states_any _).mono ?_
    rintro e w5 ⟨rfl, hb5⟩
    go_wp2_with fail
    go_ret
    exact ⟨rfl, below_then (below_then (below_then hb1 K3.out.below) hb4) hb5⟩

-- LIFT (gen_law.py)
theorem laidOut_fnCells : laidOutB Try.prog = true := by kernel_rfl
theorem own_fnCells : ownKnob Try.prog.godebug = none := by kernel_rfl

set_option maxRecDepth 100000 in
theorem fnCells_lifted (os : Os) (started : os.Started) (H : Type) (enc : TypeId × Value → H) :
    ReturnsInHanded {} Try.checked os 11 .any (Rows.fnCellsSpec.pre6 enc Try.prog Try.f11 [] false) (Rows.fnCellsSpec.post enc Try.prog Try.f11 false true false false) := by
  refine returnsInHanded_of_change (C := Try.checked) own_fnCells started (by kernel_rfl) Try.func11
    (ChangeSpec.witness6 (enc := enc) (C := Try.checked) (os := os) false ⟨#[], #[.slice none 0 0], []⟩ 8 (by kernel_rfl) (by kernel_rfl) (by kernel_rfl) (by kernel_rfl)) ?_
  intro W base args ds gs before hval hW _ _
  have hW' := hW
  obtain ⟨p, q, hA0, hV, rfl, hfz, hnd⟩ := hW
  have hA : DataW.TrodAll enc Try.prog W 0 (fun _ => true) true Try.f11.params.toList args.toList ds p := hA0
  rw [Try.params11] at hA hval
  obtain ⟨v0, d0, rfl, rfl, h0⟩ := trodAll_one hA
  obtain ⟨A, n, c, rfl, hn, ha⟩ := open_code (hval 0 _ v0 rfl rfl) h0
  refine (fnCells_walk A n c W hn ha).mono fun e W' ⟨he, hb⟩ => ⟨_, he, ?_⟩
  refine law_post laidOut_fnCells (fun t ht => ?_) rfl (by kernel_rfl) Try.underlying4 (fun ds hds => ?_) hW' hb
  · rw [Try.params11] at ht
    simp at ht
    subst ht
    exact ⟨by kernel_rfl, of_decide_eq_true (by kernel_rfl)⟩
  · rw [Try.params11] at hds
    match ds, hds with
    | [_], _ => exact ⟨rfl, rfl, rfl⟩

theorem fnCells_holds : Rows.FnCellsSaid :=
  OpenClaim.holds_of_wide 11 Try.f11 rfl rfl rfl rfl rfl rfl rfl ⟨rfl, rfl, rfl, rfl, rfl⟩ rfl rfl rfl rfl rfl (by kernel_rfl) Try.func11 (by kernel_rfl)
    (of_decide_eq_true (by kernel_rfl)) (by unfold Func.isWrapper; first | (rw [if_pos (by decide +kernel)]; kernel_rfl) | (rw [if_neg (by decide +kernel)]; exact ⟨rfl, rfl⟩))
    (fun os started H enc _ => fnCells_lifted os started H enc)
#print axioms fnCells_holds
end Go.Proofs.Ytfkaacfeikmabaa
