/- DrawInsOk: an instruction of a bent program, where it stands, how many cells, how many instructions. -/
import Derived.Test.YtaiklooffkmjjaaBent
import Derived.Test.YtaiklooffkmjjaaBeG
import Derived.BigRegion
namespace Go.Proofs.Ytaiklooffkmjjaa
open Go.RowKit

attribute [local go_sem ↓] Go.wp_at_zero Go.wp_at_succ

set_option maxRecDepth 100000 in
set_option maxHeartbeats 6400000 in
theorem drawIns_any (A : Option Addr) (n c : Nat) (w : World) (hn : n ≤ c) (ha : BytesAt w (Old w.heap.size) A n) :
    Calls Try.prog 28 #[.slice A n c] w fun e w' => ∃ (d : InsD) (i cells m : Int), e = .returned (.tuple #[d.val, .int .i64 i, .int .i64 cells, .int .i64 m]) ∧ Small d ∧ ((0 ≤ i ∧ i ≤ 30) ∧ (0 ≤ cells ∧ cells ≤ 30) ∧ (0 ≤ m ∧ m ≤ 30)) ∧ Below w.heap.size w w' := by
  have hb0 := below1 w (Obj.cells #[Value.int .i64 0, Value.int .i64 0, Value.int .i64 0, Value.int .i64 0, Value.int .i64 0, Value.int .i64 0] 24)
  have K0 := hide (Blk.new w 24 #[Value.int .i64 0, Value.int .i64 0, Value.int .i64 0, Value.int .i64 0, Value.int .i64 0, Value.int .i64 0])
  have ha0 := ha.old hb0 (by simp)
  go_enter Try.func28, Try.ntmps28
  go_wp2_with fail
  refine (l1New_any A n c _ hn ha0).mono ?_
  rintro e w1 ⟨g, rfl, hg0, hc1, hb1⟩
  have hg0 : w.heap.size < g := by simp only [World.size_alloc] at hg0; omega
  have B1 := below_step hb1
  have K1 := hide (K0.out.below hb1 (by simp))
  have hg := hc1.lt
  clear ha ha0 K0 hb0 hb1
  go_wp2_with fail
  refine (l1bent_any g w1 hc1).mono ?_
  rintro e w2 ⟨v, tv, rfl, zs, ts, ⟨vs, hown⟩, hok, hc2, ho2⟩
  obtain ⟨A1, c1, rfl, -⟩ := own_form hown.ints
  obtain ⟨b, cb, rfl, hb0, hb1, hbc⟩ := rows_at hown.rows (by have := hok.2.1.1; omega)
  have hok := hide hok
  have ht4 := hok.out.2.1
  have hz3 := hok.out.1.1
  have h1 := PAt.start hc2 ho2 hown
  clear hown hbc hc2 ho2 hc1
  obtain ⟨⟨c0, c1'⟩, f0, f1⟩ := h1.cells
  go_wp2_with fail
  refine (l1Below_p ts.length (by omega) (by omega) hg h1).mono ?_
  rintro e w3 ⟨t, rfl, ⟨ht0, ht1⟩, h2, -⟩
  obtain ⟨t, rfl⟩ := Int.eq_ofNat_of_zero_le ht0
  have htt : t < ts.length := by omega
  clear c0 c1' f0 f1 h1
  obtain ⟨⟨c0, c1'⟩, f0, f1⟩ := h2.cells
  have hml := (hok.out.2.2 _ (mem_gett htt)).1
  obtain ⟨A2, c2, hv, -, hin⟩ := own_inss (h2.own.thr t htt)
  have r0 := rows_cell h2.own.rows htt
  rw [hv] at r0
  have hin := hide hin
  have hv := hide hv
  by_cases hL0 : (gett ts t).length = 0
  · have hL1 : ((gett ts t).length : Int) = 0 := by omega
    have K3 := K1.out.only h2.only (by omega)
    have e0 := K3.cell 0
    have e1 := K3.cell 1
    have e2 := K3.cell 2
    have e3 := K3.cell 3
    have e4 := K3.cell 4
    have e5 := K3.cell 5
    have z0 := K3.frozen 0
    have z1 := K3.frozen 1
    have z2 := K3.frozen 2
    have z3 := K3.frozen 3
    have z4 := K3.frozen 4
    have z5 := K3.frozen 5
    simp only [List.getElem?_toArray, List.getElem?_cons_zero, List.getElem?_cons_succ] at e0 e1 e2 e3 e4 e5
    have hB := B1.trans (h2.only.toBelow (by omega) B1.size)
    clear K3
    go_wp2_with fail
    refine bodyPost_ret (v := .tuple #[ins0.val, .int .i64 0, .int .i64 1, .int .i64 1]) (by simp [results, Try.results28, go_sem, e0, e1, e2, e3, e4, e5, InsD.val, ins0]; done) rfl ⟨ins0, 0, 1, 1, rfl, by unfold Small ins0; decide, by omega, ?_⟩
    iterate 6 (refine Below.setCell ?_ (by show w.heap.size ≤ w.heap.size; omega) _)
    exact hB
  · obtain ⟨q, off, rfl, hS, hci⟩ := hin.out.2 (by omega)
    have hLt : ¬ (((gett ts t).length : Int) = 0) := by omega
    go_wp2_with fail
    refine (l1Below_p ((gett ts t).length : Int) (by omega) (by omega) hg h2).mono ?_
    rintro e w4 ⟨i, rfl, ⟨hi0, hi1⟩, h3, hz4⟩
    obtain ⟨i, rfl⟩ := Int.eq_ofNat_of_zero_le hi0
    have hii : i < (gett ts t).length := by omega
    clear c0 c1' f0 f1 r0 hin hci hS
    obtain ⟨⟨c0, c1'⟩, f0, f1⟩ := h3.cells
    obtain ⟨A3, c3, hv3, -, hin⟩ := own_inss (h3.own.thr t htt)
    rw [hv.out] at hv3
    cases hv3
    obtain ⟨q', off', e, -, hci⟩ := hin.2 (by omega)
    cases e
    obtain ⟨y0, y1, y2, y3, y4, y5⟩ := hci i (by omega)
    have r0 := rows_cell h3.own.rows htt
    rw [hv.out] at r0
    have hsm := (hok.out.2.2 _ (mem_gett htt)).2 (getd (gett ts t) i) (by unfold getd; rw [List.getD_eq_getElem?_getD, List.getElem?_eq_getElem (by omega)]; exact List.getElem_mem _)
    have K3 := K1.out.only h3.only (by omega)
    have e0 := K3.cell 0
    have e1 := K3.cell 1
    have e2 := K3.cell 2
    have e3 := K3.cell 3
    have e4 := K3.cell 4
    have e5 := K3.cell 5
    have z0 := K3.frozen 0
    have z1 := K3.frozen 1
    have z2 := K3.frozen 2
    have z3 := K3.frozen 3
    have z4 := K3.frozen 4
    have z5 := K3.frozen 5
    simp only [List.getElem?_toArray, List.getElem?_cons_zero, List.getElem?_cons_succ] at e0 e1 e2 e3 e4 e5
    have hB := B1.trans (h3.only.toBelow (by omega) B1.size)
    have hii' : (i : Int) < ((gett ts t).length : Int) := by omega
    have htt' : (t : Int) < (ts.length : Int) := by omega
    clear hci hin K3 h2 h3
    generalize getd (gett ts t) i = d at *
    go_wp2_with fail
    go_region
    all_goals
      go_wp2_with fail
      refine bodyPost_ret (v := .tuple #[d.val, .int .i64 i, .int .i64 zs.length, .int .i64 (gett ts t).length]) (by simp [results, Try.results28, go_sem, e0, e1, e2, e3, e4, e5, InsD.val]; done) rfl ⟨d, i, _, _, rfl, hsm, by omega, ?_⟩
      refine Below.drew ?_
      iterate 6 (refine Below.setCell ?_ (by show w.heap.size ≤ w.heap.size; omega) _)
      exact hB
end Go.Proofs.Ytaiklooffkmjjaa
