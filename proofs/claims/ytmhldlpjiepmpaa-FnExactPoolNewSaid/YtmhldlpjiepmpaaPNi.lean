/- The program's PoolNew. -/
import Derived.Test.YtmhldlpjiepmpaaPnD
import Derived.Test.YtmhldlpjiepmpaaCoE
import Derived.Test.YtmhldlpjiepmpaaInvR
import Derived.Test.YtmhldlpjiepmpaaCrw
namespace Go.Proofs.Ytmhldlpjiepmpaa
open Go.RowKit

set_option maxRecDepth 100000 in
set_option maxHeartbeats 12800000 in
theorem poolNew_any (A : Option Addr) (l : List JobD) (c : Nat) (K : Int) (S : Nat → Prop) (w : World) (hl2 : l.length ≤ 1048576) (hsz : ∀ k, (getj l k).ks.length ≤ 1048576) (hS : ∀ b, S b → b < w.heap.size) (ha : Hid (JobsAt w S A l)) :
    Calls Try.prog 39 #[.slice A l.length c, .int .i64 K] w fun e w' => ∃ x f, e = .returned (.tuple #[.agg x.cells, .bool (newR l K).2]) ∧ PoolO w' f w.heap.size x (newR l K).1 ∧ Below w.heap.size w w' := by
  have hb0 := below1 w (Obj.cells #[.slice none 0 0, .slice none 0 0, .slice none 0 0, .slice none 0 0, .slice none 0 0, .slice none 0 0, .slice none 0 0] 28)
  have R0 := Blk.new w 28 #[.slice none 0 0, .slice none 0 0, .slice none 0 0, .slice none 0 0, .slice none 0 0, .slice none 0 0, .slice none 0 0]
  obtain ⟨w0, hw0⟩ : ∃ w0, w0 = w.alloc (Obj.cells #[.slice none 0 0, .slice none 0 0, .slice none 0 0, .slice none 0 0, .slice none 0 0, .slice none 0 0, .slice none 0 0] 28) := ⟨_, rfl⟩
  rw [← hw0] at hb0 R0
  obtain ⟨q, hq⟩ : ∃ q, q = w.heap.size := ⟨_, rfl⟩
  rw [← hq] at R0
  have kJ := hide (jobsOk_any A l c S w0 hsz (fun b h => Nat.lt_of_lt_of_le (hS b h) hb0.size) (ha.out.below hb0 hS))
  have kW := hide (fun w => workersOk_any K w)
  obtain ⟨pr, hpr⟩ : ∃ pr, pr = newR l K := ⟨_, rfl⟩
  rw [← hpr]
  replace hpr := hide hpr
  obtain ⟨bj, hbj⟩ : ∃ b, b = jobsB l := ⟨_, rfl⟩
  obtain ⟨bw, hbw⟩ : ∃ b, b = workB K := ⟨_, rfl⟩
  rw [← hbj] at kJ
  rw [← hbw] at kW
  replace hbj := hide hbj
  replace hbw := hide hbw
  replace hb0 := hide hb0
  replace R0 := hide R0
  go_enter Try.func39, Try.ntmps39
  go_upto_region 1 with fail
  rw [← hw0, ← hq]
  clear hw0
  replace hq := hide hq
  cases bj
  · have hE := hide (show pr = (pool0, false) from by rw [hpr.out]; exact newR_no (.inl hbj.out.symm))
    clear hpr
    go_upto_region 2 with (first | (go_at_call 33; refine kJ.out.mono ?_; rintro e w1 ⟨rfl, hb1⟩) | (go_at_call 61; refine (kW.out _).mono ?_; rintro e wx ⟨rfl, rfl⟩))
    have R1 := R0.out.below hb1 R0.out.lt
    obtain ⟨⟨r0, r1, r2, r3, r4, r5, r6⟩, rl⟩ := box7 R1
    obtain ⟨z0, z1, z2, z3, z4, z5, z6⟩ := froz7 R1
    clear R1
    replace hb1 := hide hb1
    go_wp2_with fail
    refine bodyPost_ret (v := .tuple #[.agg pv0.cells, .bool false]) (by simp [results, Try.results39, go_sem, pv0, PV.cells, r0, r1, r2, r3, r4, r5, r6]; done) rfl ?_
    rw [hE.out]
    refine ⟨pv0, fun _ => 0, rfl, PoolO.zero _ _ _, ?_⟩
    iterate 7 (refine Below.setCell ?_ (by show w.heap.size ≤ q; rw [hq.out]; exact Nat.le_refl _) _)
    exact below_then hb0.out hb1.out
  · cases bw
    · have hE := hide (show pr = (pool0, false) from by rw [hpr.out]; exact newR_no (.inr hbw.out.symm))
      clear hpr
      go_upto_region 2 with (first | (go_at_call 33; refine kJ.out.mono ?_; rintro e w1 ⟨rfl, hb1⟩) | (go_at_call 61; refine (kW.out _).mono ?_; rintro e wx ⟨rfl, rfl⟩))
      have R1 := R0.out.below hb1 R0.out.lt
      obtain ⟨⟨r0, r1, r2, r3, r4, r5, r6⟩, rl⟩ := box7 R1
      obtain ⟨z0, z1, z2, z3, z4, z5, z6⟩ := froz7 R1
      clear R1
      replace hb1 := hide hb1
      go_wp2_with fail
      refine bodyPost_ret (v := .tuple #[.agg pv0.cells, .bool false]) (by simp [results, Try.results39, go_sem, pv0, PV.cells, r0, r1, r2, r3, r4, r5, r6]; done) rfl ?_
      rw [hE.out]
      refine ⟨pv0, fun _ => 0, rfl, PoolO.zero _ _ _, ?_⟩
      iterate 7 (refine Below.setCell ?_ (by show w.heap.size ≤ q; rw [hq.out]; exact Nat.le_refl _) _)
      exact below_then hb0.out hb1.out
    · have hE := hide (show pr = (newP l K.toNat, true) from by rw [hpr.out]; exact newR_yes hbj.out.symm hbw.out.symm)
      have hKw := hide (show 1 ≤ K ∧ K ≤ 4 from by
        have h := hbw.out.symm
        unfold workB at h
        simpa using h)
      clear hpr
      go_upto_region 4 with (first | (go_at_call 33; refine kJ.out.mono ?_; rintro e w1 ⟨rfl, hb1⟩) | (go_at_call 61; refine (kW.out _).mono ?_; rintro e wx ⟨rfl, rfl⟩))
      obtain ⟨k, rfl⟩ : ∃ k : Nat, K = k := ⟨K.toNat, by have := hKw.out; omega⟩
      have hk4 := hide (show 1 ≤ k ∧ k ≤ 4 from by have := hKw.out; omega)
      clear hKw kW kJ
      have hbw1 := hide (below_then hb0.out hb1)
      have hRl := hide (show q < w1.heap.size from Nat.lt_of_lt_of_le R0.out.lt hb1.size)
      have hRx := hide (fun wx (h : Below w1.heap.size w1 wx) => (R0.out.below hb1 R0.out.lt).below h (Nat.lt_of_lt_of_le R0.out.lt hb1.size))
      have hSz := hide (show ∀ wx, Below w1.heap.size w1 wx → w.heap.size ≤ wx.heap.size from fun wx h => Nat.le_trans (below_then hb0.out hb1).size h.size)
      have hJx := hide (show ∀ wx, Below w1.heap.size w1 wx → JobsAt wx S A l from fun wx h => (ha.out.below (below_then hb0.out hb1) hS).below h (fun b hb => Nat.lt_of_lt_of_le (hS b hb) (below_then hb0.out hb1).size))
      clear hb1
      refine wp_region_facts 6 (by kernel_rfl) (by kernel_rfl) (by kernel_rfl) (fun us => #[.slice A l.length c, .int .i64 (k : Int), undef, undef, .pointer (some ⟨q, 0, none⟩), .bool false, .int .i64 (l.length : Int), us 7, .slice A l.length c, .bool true, .bool false, .bool false, .int .i64 (k : Int), .bool true, .bool false, .bool false, undef, .slice A l.length c, .int .i64 (l.length : Int), us 19, us 20, us 21, us 22, us 23, undef, undef, undef, undef, undef, undef, undef, undef, undef, undef, undef, undef, undef, undef, undef, undef, undef, undef, undef, undef, undef]) (fun _ => undef) (fun _ => 0) rfl (fun i => match i with | 0 => 19 | 1 => 20 | 2 => 21 | 3 => 22 | 4 => 23 | _ => 7) ?_ (fun i v f w' => match i with | 0 => v = .slice A l.length c | 1 => ∃ kv, JobsO w' f w.heap.size v l kv | 2 => v = .int .i64 (k : Int) | 3 => ∃ qd, v = .slice (some ⟨qd, 0, none⟩) k k ∧ Sl 35 1 w' f 2 w.heap.size (.slice (some ⟨qd, 0, none⟩) k k) k (fun _ => .slice none 0 0) ∧ f qd = 2 ∧ qd < w'.heap.size | 4 => ∃ u kv qd, v = .agg #[u, .slice (some ⟨qd, 0, none⟩) k k, .slice none 0 0, .slice none 0 0, .slice none 0 0, .slice none 0 0, .slice none 0 0] ∧ JobsO w' f w.heap.size u l kv ∧ Sl 35 1 w' f 2 w.heap.size (.slice (some ⟨qd, 0, none⟩) k k) k (fun _ => .slice none 0 0) ∧ f qd = 2 ∧ qd < w'.heap.size | _ => ∃ q7, v = .pointer (some ⟨q7, 0, none⟩) ∧ Blk w' q7 28 #[.slice none 0 0, .slice none 0 0, .slice none 0 0, .slice none 0 0, .slice none 0 0, .slice none 0 0, .slice none 0 0] ∧ f q7 = 0 ∧ w1.heap.size ≤ q7) ?_ ?_ ?_
      · decide
      · intro i v f wx f2 wy hi hf hb h
        have hi2 : i = 0 ∨ i = 1 ∨ i = 2 ∨ i = 3 ∨ i = 4 ∨ i = 5 := by omega
        rcases hi2 with rfl | rfl | rfl | rfl | rfl | rfl
        · exact h
        · exact h.elim fun u hk => ⟨u, (hk.relab hf).next hb⟩
        · exact h
        · exact h.elim fun qd h => ⟨qd, h.1, (h.2.1.relab hf).next hb, (hf qd h.2.2.2).trans h.2.2.1, Nat.lt_of_lt_of_le h.2.2.2 hb.size⟩
        · exact h.elim fun u h => h.elim fun kv h => h.elim fun qd h => ⟨u, kv, qd, h.1, (h.2.1.relab hf).next hb, (h.2.2.1.relab hf).next hb, (hf qd h.2.2.2.2).trans h.2.2.2.1, Nat.lt_of_lt_of_le h.2.2.2.2 hb.size⟩
        · exact h.elim fun q hq => ⟨q, hq.1, hq.2.1.below hb hq.2.1.lt, (hf q hq.2.1.lt).trans hq.2.2.1, hq.2.2.2⟩
      · intro i o hi ho us f wx hB hf hdep K hK
        have hi2 : i = 0 ∨ i = 1 ∨ i = 2 ∨ i = 3 ∨ i = 4 ∨ i = 5 := by omega
        rcases hi2 with rfl | rfl | rfl | rfl | rfl | rfl
        · simp only [List.getElem?_toArray, List.getElem?_cons_zero, Option.some.injEq] at ho
          subst ho
          refine step_value (a := ⟨_, []⟩) (w' := wx) (v := ?_) ?_ ?_ ?_
          rotate_left
          · rfl
          · try dsimp only
            skip
            first | (go_simp; done) | (go_simp; with_reducible rfl)
          · exact hK _ f wx (fun _ _ => rfl) (Below.refl _ _) (by rfl)
        · simp only [List.getElem?_toArray, List.getElem?_cons_zero, List.getElem?_cons_succ, Option.some.injEq] at ho
          subst ho
          have e0 : (us 19) = .slice A l.length c := hdep ⟨0, .data⟩ (by simp) (by rfl)
          refine step_call (a := ⟨_, []⟩) (g := 79) (args := #[.slice A l.length c]) ?_ ?_ (eachJob_any f A l c S wx hl2 hsz (hJx.out wx hB)) ?_
          · rfl
          · try dsimp only
            simp only [e0]
            first | (go_simp; done) | (go_simp; with_reducible rfl)
          · rintro e wy ⟨v, f2, u, rfl, hJ, hb, hf2⟩
            exact ⟨v, rfl, hK v f2 wy hf2 hb ⟨u, hJ.base (hSz.out wx hB)⟩⟩
        · simp only [List.getElem?_toArray, List.getElem?_cons_zero, List.getElem?_cons_succ, Option.some.injEq] at ho
          subst ho
          refine step_value (a := ⟨_, []⟩) (w' := wx) (v := ?_) ?_ ?_ ?_
          rotate_left
          · rfl
          · try dsimp only
            skip
            first | (go_simp; done) | (go_simp; with_reducible rfl)
          · exact hK _ f wx (fun _ _ => rfl) (Below.refl _ _) (by rfl)
        · simp only [List.getElem?_toArray, List.getElem?_cons_zero, List.getElem?_cons_succ, Option.some.injEq] at ho
          subst ho
          have e2 : (us 21) = .int .i64 (k : Int) := hdep ⟨2, .data⟩ (by simp) (by rfl)
          have e2 : (us 21) = .int .i64 (k : Int) := hdep ⟨2, .data⟩ (by simp) (by rfl)
          have hmk := make_rows k (by have := hk4.out; omega) wx
          refine step_value (a := ⟨_, []⟩) (w' := wx.alloc (.cells (zrow #[.slice none 0 0] k) 35)) (v := .slice (some ⟨wx.heap.size, 0, none⟩) k k) ?_ ?_ ?_
          · rfl
          · try dsimp only
            simp only [e2]
            first | (go_simp; done) | (go_simp; with_reducible rfl)
          · exact hK _ (lab f wx.heap.size 2) _ (fun b hb => lab_old hb) (below1 _ _) ⟨_, rfl, Sl.rows0 (Blk.new wx _ _) (lab_at _ _ _) (hSz.out wx hB) (by have := hk4.out; omega), lab_at _ _ _, by simp⟩
        · simp only [List.getElem?_toArray, List.getElem?_cons_zero, List.getElem?_cons_succ, Option.some.injEq] at ho
          subst ho
          have e1 : ∃ kv, JobsO wx f w.heap.size (us 20) l kv := hdep ⟨1, .data⟩ (by simp) (by rfl)
          have e3 : ∃ qd, (us 22) = .slice (some ⟨qd, 0, none⟩) k k ∧ Sl 35 1 wx f 2 w.heap.size (.slice (some ⟨qd, 0, none⟩) k k) k (fun _ => .slice none 0 0) ∧ f qd = 2 ∧ qd < wx.heap.size := hdep ⟨3, .data⟩ (by simp) (by rfl)
          obtain ⟨kv, e1⟩ := e1
          obtain ⟨Au, cu, hu⟩ := e1.form
          rw [hu] at e1
          obtain ⟨qd, h3, h4, h5, h6⟩ := e3
          refine step_value (a := ⟨_, []⟩) (w' := wx) (v := .agg #[.slice Au l.length cu, .slice (some ⟨qd, 0, none⟩) k k, .slice none 0 0, .slice none 0 0, .slice none 0 0, .slice none 0 0, .slice none 0 0]) ?_ ?_ ?_
          · rfl
          · try dsimp only
            simp only [hu, h3]
            first | (go_simp; done) | (go_simp; with_reducible rfl)
          · exact hK _ f wx (fun _ _ => rfl) (Below.refl _ _) ⟨_, kv, qd, rfl, e1, h4, h5, h6⟩
        · simp only [List.getElem?_toArray, List.getElem?_cons_zero, List.getElem?_cons_succ, Option.some.injEq] at ho
          subst ho
          refine step_value (a := ⟨_, []⟩) (w' := wx.alloc (.cells #[.slice none 0 0, .slice none 0 0, .slice none 0 0, .slice none 0 0, .slice none 0 0, .slice none 0 0, .slice none 0 0] 28)) (v := .pointer (some ⟨wx.heap.size, 0, none⟩)) ?_ ?_ ?_
          · rfl
          · try dsimp only
            first | (go_simp; done) | (go_simp; with_reducible rfl)
          · exact hK _ (lab f wx.heap.size 0) _ (fun b hb => lab_old hb) (below1 _ _) ⟨_, rfl, Blk.new wx _ _, lab_at _ _ _, hB.size⟩
      · intro us f wx hB hf F
        have e0 : (us 19) = .slice A l.length c := F 0 (by omega)
        have e1 : ∃ kv, JobsO wx f w.heap.size (us 20) l kv := F 1 (by omega)
        have e2 : (us 21) = .int .i64 (k : Int) := F 2 (by omega)
        have e3 : ∃ qd, (us 22) = .slice (some ⟨qd, 0, none⟩) k k ∧ Sl 35 1 wx f 2 w.heap.size (.slice (some ⟨qd, 0, none⟩) k k) k (fun _ => .slice none 0 0) ∧ f qd = 2 ∧ qd < wx.heap.size := F 3 (by omega)
        have e4 : ∃ u kv qd, (us 23) = .agg #[u, .slice (some ⟨qd, 0, none⟩) k k, .slice none 0 0, .slice none 0 0, .slice none 0 0, .slice none 0 0, .slice none 0 0] ∧ JobsO wx f w.heap.size u l kv ∧ Sl 35 1 wx f 2 w.heap.size (.slice (some ⟨qd, 0, none⟩) k k) k (fun _ => .slice none 0 0) ∧ f qd = 2 ∧ qd < wx.heap.size := F 4 (by omega)
        have e5 : ∃ q7, (us 7) = .pointer (some ⟨q7, 0, none⟩) ∧ Blk wx q7 28 #[.slice none 0 0, .slice none 0 0, .slice none 0 0, .slice none 0 0, .slice none 0 0, .slice none 0 0, .slice none 0 0] ∧ f q7 = 0 ∧ w1.heap.size ≤ q7 := F 5 (by omega)
        clear F
        simp only [List.drop_succ_cons, List.drop_zero]
        generalize us 19 = y19 at *
        generalize us 20 = y20 at *
        generalize us 21 = y21 at *
        generalize us 22 = y22 at *
        generalize us 23 = y23 at *
        generalize us 7 = y7 at *
        obtain ⟨u, kv, qd, h23, hJu, hD, hqd, hqdl⟩ := e4
        subst h23
        obtain ⟨q7, h24, h7, h70, h7W⟩ := e5
        subst h24
        clear e0 e1 e2 e3
        obtain ⟨Au, cu, hu⟩ := hJu.form
        subst hu
        have hql : q < w1.heap.size := hRl.out
        have hq7 : q < q7 := by omega
        have hw7 : w.heap.size ≤ q7 := Nat.le_trans hbw1.out.size h7W
        have hq7n : q ≠ q7 := by omega
        obtain ⟨z0, z1, z2, z3, z4, z5, z6⟩ := froz7 h7
        obtain ⟨⟨r0, r1, r2, r3, r4, r5, r6⟩, rl⟩ := box7 h7
        obtain ⟨w2, hw2⟩ : ∃ w2, w2 = (((((((wx.setCell ⟨q7, 0, none⟩ (.slice Au l.length cu)).setCell ⟨q7, 1, none⟩ (.slice (some ⟨qd, 0, none⟩) k k)).setCell ⟨q7, 2, none⟩ (.slice none 0 0)).setCell ⟨q7, 3, none⟩ (.slice none 0 0)).setCell ⟨q7, 4, none⟩ (.slice none 0 0)).setCell ⟨q7, 5, none⟩ (.slice none 0 0)).setCell ⟨q7, 6, none⟩ (.slice none 0 0)) := ⟨_, rfl⟩
        have hs2 : w2.heap.size = wx.heap.size := by rw [hw2]; simp
        have hQ2 := hide (show Blk w2 q7 28 #[.slice Au l.length cu, .slice (some ⟨qd, 0, none⟩) k k, .slice none 0 0, .slice none 0 0, .slice none 0 0, .slice none 0 0, .slice none 0 0] from by rw [hw2]; exact (((((((h7.set_ 0 (.slice Au l.length cu)).set_ 1 (.slice (some ⟨qd, 0, none⟩) k k)).set_ 2 (.slice none 0 0)).set_ 3 (.slice none 0 0)).set_ 4 (.slice none 0 0)).set_ 5 (.slice none 0 0)).set_ 6 (.slice none 0 0)))
        have hR2 := hide (show Blk w2 q 28 #[.slice none 0 0, .slice none 0 0, .slice none 0 0, .slice none 0 0, .slice none 0 0, .slice none 0 0, .slice none 0 0] from by rw [hw2]; exact ((((((((hRx.out wx hB).far (p := ⟨q7, 0, none⟩) (by show q ≠ q7; omega) (.slice Au l.length cu)).far (p := ⟨q7, 1, none⟩) (by show q ≠ q7; omega) (.slice (some ⟨qd, 0, none⟩) k k)).far (p := ⟨q7, 2, none⟩) (by show q ≠ q7; omega) (.slice none 0 0)).far (p := ⟨q7, 3, none⟩) (by show q ≠ q7; omega) (.slice none 0 0)).far (p := ⟨q7, 4, none⟩) (by show q ≠ q7; omega) (.slice none 0 0)).far (p := ⟨q7, 5, none⟩) (by show q ≠ q7; omega) (.slice none 0 0)).far (p := ⟨q7, 6, none⟩) (by show q ≠ q7; omega) (.slice none 0 0)))
        have hb2 := hide (show Below w.heap.size w w2 from by rw [hw2]; exact (Below.setCell (Below.setCell (Below.setCell (Below.setCell (Below.setCell (Below.setCell (Below.setCell (below_then hbw1.out hB) (p := ⟨q7, 0, none⟩) hw7 (.slice Au l.length cu)) (p := ⟨q7, 1, none⟩) hw7 (.slice (some ⟨qd, 0, none⟩) k k)) (p := ⟨q7, 2, none⟩) hw7 (.slice none 0 0)) (p := ⟨q7, 3, none⟩) hw7 (.slice none 0 0)) (p := ⟨q7, 4, none⟩) hw7 (.slice none 0 0)) (p := ⟨q7, 5, none⟩) hw7 (.slice none 0 0)) (p := ⟨q7, 6, none⟩) hw7 (.slice none 0 0)))
        have hJ2 := hide (show JobsO w2 f w.heap.size (.slice Au l.length cu) l kv from by rw [hw2]; exact (((((((hJu.set0 (p := ⟨q7, 0, none⟩) h70 (.slice Au l.length cu)).set0 (p := ⟨q7, 1, none⟩) h70 (.slice (some ⟨qd, 0, none⟩) k k)).set0 (p := ⟨q7, 2, none⟩) h70 (.slice none 0 0)).set0 (p := ⟨q7, 3, none⟩) h70 (.slice none 0 0)).set0 (p := ⟨q7, 4, none⟩) h70 (.slice none 0 0)).set0 (p := ⟨q7, 5, none⟩) h70 (.slice none 0 0)).set0 (p := ⟨q7, 6, none⟩) h70 (.slice none 0 0)))
        have hD2 := hide (show Sl 35 1 w2 f 2 w.heap.size (.slice (some ⟨qd, 0, none⟩) k k) k (fun _ => .slice none 0 0) from by rw [hw2]; exact (((((((hD.set0 (by omega) (p := ⟨q7, 0, none⟩) h70 (.slice Au l.length cu)).set0 (by omega) (p := ⟨q7, 1, none⟩) h70 (.slice (some ⟨qd, 0, none⟩) k k)).set0 (by omega) (p := ⟨q7, 2, none⟩) h70 (.slice none 0 0)).set0 (by omega) (p := ⟨q7, 3, none⟩) h70 (.slice none 0 0)).set0 (by omega) (p := ⟨q7, 4, none⟩) h70 (.slice none 0 0)).set0 (by omega) (p := ⟨q7, 5, none⟩) h70 (.slice none 0 0)).set0 (by omega) (p := ⟨q7, 6, none⟩) h70 (.slice none 0 0)))
        have hf2 := hide (show f q = 0 ∧ f q7 = 0 ∧ f qd = 2 ∧ qd < w2.heap.size from ⟨hf q hql, h70, hqd, by omega⟩)
        clear hJu hD hqd hqdl h7 h7W h70 hB hf hRx hJx hSz hs2
        go_upto_region 5 with fail
        rw [← hw2]
        clear hw2 z0 z1 z2 z3 z4 z5 z6 r0 r1 r2 r3 r4 r5 r6 rl
        obtain ⟨⟨r0, r1, r2, r3, r4, r5, r6⟩, rl⟩ := box7 hQ2.out
        obtain ⟨qd2, od2, cd2, ed2, -, hqdW, -, hdc⟩ := hD2.out.at_ (k := 0) (by have := hk4.out; omega)
        cases ed2
        have g0 := (hdc 0 (by have := hk4.out; omega)).1
        have z0 := (hdc 0 (by have := hk4.out; omega)).2
        rw [Nat.add_zero] at g0 z0
        clear hdc
        obtain ⟨w3, hw3⟩ : ∃ w3, w3 = (w2.setCell ⟨qd, 0, none⟩ (.slice (some ⟨w2.heap.size, 0, none⟩) 1 1)).alloc (.cells #[.int .i64 0] 3) := ⟨_, rfl⟩
        have hqdl := hf2.out.2.2.2
        have g1 := (World.cell?_alloc_lt w2 (.cells #[.int .i64 0] 3) ⟨qd, 0, none⟩ hqdl).trans g0
        have z1 := (World.frozen?_alloc_old w2 (.cells #[.int .i64 0] 3) ⟨qd, 0, none⟩ (by show qd ≠ w2.heap.size; omega)).trans z0
        have hkp : (0 : Int) < k := by have := hk4.out; omega
        have hne : q7 ≠ qd ∧ q ≠ qd := ⟨fun e => by have := hf2.out; rw [e] at this; omega, fun e => by have := hf2.out; rw [e] at this; omega⟩
        have hRO := hide (show RowsO w3 (lab f w2.heap.size 9) w.heap.size (.slice (some ⟨qd, 0, none⟩) k k) ([0] :: List.replicate (k - 1) []) (updV (fun _ => .slice none 0 0) 0 (.slice (some ⟨w2.heap.size, 0, none⟩) 1 1)) from by rw [hw3]; exact RowsO.first hD2.out hk4.out.1 hb2.out.size)
        have hL3 : Lab f 2 w.heap.size w2 w3 := by rw [hw3]; exact (Lab.set_ (p := ⟨qd, 0, none⟩) ⟨hf2.out.2.2.1, hqdW⟩ _).alloc _
        have hJ3 := hide (show JobsO w3 (lab f w2.heap.size 9) w.heap.size (.slice Au l.length cu) l kv from (hJ2.out.relab (f' := lab f w2.heap.size 9) (fun b hb => lab_old hb)).keep (fun b hb _ hl => hL3.block b hl (fun e => by rw [lab_old hl] at hb; omega)))
        have hQ3 := hide (show Blk w3 q7 28 #[.slice Au l.length cu, .slice (some ⟨qd, 0, none⟩) k k, .slice none 0 0, .slice none 0 0, .slice none 0 0, .slice none 0 0, .slice none 0 0] from by rw [hw3]; exact (hQ2.out.far (p := ⟨qd, 0, none⟩) hne.1 _).alloc _)
        have hR3 := hide (show Blk w3 q 28 #[.slice none 0 0, .slice none 0 0, .slice none 0 0, .slice none 0 0, .slice none 0 0, .slice none 0 0, .slice none 0 0] from by rw [hw3]; exact (hR2.out.far (p := ⟨qd, 0, none⟩) hne.2 _).alloc _)
        have hb3 := hide (hb2.out.trans (hL3.below hb2.out.size))
        have hf3 := hide (show lab f w2.heap.size 9 q = 0 ∧ lab f w2.heap.size 9 q7 = 0 from ⟨(lab_old hR2.out.lt).trans hf2.out.1, (lab_old hQ2.out.lt).trans hf2.out.2.1⟩)
        generalize lab f w2.heap.size 9 = f3 at *
        clear hL3 hJ2 hQ2 hR2 hb2 hf2 hne hqdW
        replace hw7 := hide hw7
        generalize hDe : updV (fun _ => Value.slice none 0 0) 0 (.slice (some ⟨w2.heap.size, 0, none⟩) 1 1) = rv at *
        go_upto_region 6 with fail
        rw [← hw3]
        clear hw3 hDe g0 z0 g1 z1 hqdl r0 r1 r2 r3 r4 r5 r6 rl
        have hI6 : Box7 28 w3.drew q7 2 (fun j => match j with | 0 => .slice Au l.length cu | _ => .slice (some ⟨qd, 0, none⟩) k k) ∧ f3 q7 = 0 := by
          refine ⟨⟨_, hQ3.out.below (Below.refl _ _).drew hQ3.out.lt, rfl, fun j hj => ?_⟩, hf3.out.2⟩
          have h2 : j = 0 ∨ j = 1 := by omega
          rcases h2 with rfl | rfl <;> rfl
        obtain ⟨Fc, hFc⟩ : ∃ Fc, Fc = (fun i v f w' => match i with | 0 => v = .int .i64 (l.length : Int) | 1 => Sl 4 1 w' f 3 w.heap.size v l.length (gB (List.replicate l.length false)) | 2 => v = .int .i64 (l.length : Int) | 3 => Sl 4 1 w' f 4 w.heap.size v l.length (gB (List.replicate l.length false)) | 4 => v = .pointer (some ⟨q7, 2, none⟩) | 5 => w'.cell? ⟨q7, 2, none⟩ = some v ∧ Sl 4 1 w' f 3 w.heap.size v l.length (gB (List.replicate l.length false)) | 6 => v = .pointer (some ⟨q7, 3, none⟩) | _ => w'.cell? ⟨q7, 3, none⟩ = some v ∧ Sl 4 1 w' f 4 w.heap.size v l.length (gB (List.replicate l.length false)) : Nat → Value → (Nat → Nat) → World → Prop) := ⟨_, rfl⟩
        have hstA : ∀ i v f wx f2 wy, i < 8 → q7 < wx.heap.size → (∀ b, b < wx.heap.size → f2 b = f b) → Below wx.heap.size wx wy → Fc i v f wx → Fc i v f2 wy := by
          rw [hFc]
          intro i v f wx f2 wy hi hg hf hb h
          have hi2 : i = 0 ∨ i = 1 ∨ i = 2 ∨ i = 3 ∨ i = 4 ∨ i = 5 ∨ i = 6 ∨ i = 7 := by omega
          rcases hi2 with rfl | rfl | rfl | rfl | rfl | rfl | rfl | rfl
          · exact h
          · exact (h.relab hf).next hb
          · exact h
          · exact (h.relab hf).next hb
          · exact h
          · exact ⟨(hb.cell (p := ⟨q7, 2, none⟩) hg).trans h.1, (h.2.relab hf).next hb⟩
          · exact h
          · exact ⟨(hb.cell (p := ⟨q7, 3, none⟩) hg).trans h.1, (h.2.relab hf).next hb⟩
        have hstS5 : ∀ i v f wx u, i < 8 → i ≠ 5 → f q7 = 0 → Fc i v f wx → Fc i v f (wx.setCell ⟨q7, 2, none⟩ u) := by
          rw [hFc]
          intro i v f wx u hi hne hg h
          have hi2 : i = 0 ∨ i = 1 ∨ i = 2 ∨ i = 3 ∨ i = 4 ∨ i = 5 ∨ i = 6 ∨ i = 7 := by omega
          rcases hi2 with rfl | rfl | rfl | rfl | rfl | rfl | rfl | rfl
          · exact h
          · exact h.set0 (by omega) (p := ⟨q7, 2, none⟩) hg u
          · exact h
          · exact h.set0 (by omega) (p := ⟨q7, 2, none⟩) hg u
          · exact h
          · exact absurd rfl hne
          · exact h
          · exact ⟨(World.cell?_setCell_other _ _ _ _ (by simp)).trans h.1, h.2.set0 (by omega) (p := ⟨q7, 2, none⟩) hg u⟩
        have hstS7 : ∀ i v f wx u, i < 8 → i ≠ 7 → f q7 = 0 → Fc i v f wx → Fc i v f (wx.setCell ⟨q7, 3, none⟩ u) := by
          rw [hFc]
          intro i v f wx u hi hne hg h
          have hi2 : i = 0 ∨ i = 1 ∨ i = 2 ∨ i = 3 ∨ i = 4 ∨ i = 5 ∨ i = 6 ∨ i = 7 := by omega
          rcases hi2 with rfl | rfl | rfl | rfl | rfl | rfl | rfl | rfl
          · exact h
          · exact h.set0 (by omega) (p := ⟨q7, 3, none⟩) hg u
          · exact h
          · exact h.set0 (by omega) (p := ⟨q7, 3, none⟩) hg u
          · exact h
          · exact ⟨(World.cell?_setCell_other _ _ _ _ (by simp)).trans h.1, h.2.set0 (by omega) (p := ⟨q7, 3, none⟩) hg u⟩
          · exact h
          · exact absurd rfl hne
        refine wp_region_only q7 (by kernel_rfl) (by kernel_rfl) (fun us => #[.slice A l.length c, .int .i64 (k : Int), undef, undef, .pointer (some ⟨q, 0, none⟩), .bool false, .int .i64 (l.length : Int), .pointer (some ⟨q7, 0, none⟩), .slice A l.length c, .bool true, .bool false, .bool false, .int .i64 (k : Int), .bool true, .bool false, .bool false, undef, .slice A l.length c, .int .i64 (l.length : Int), y19, y20, y21, y22, .agg #[.slice Au l.length cu, .slice (some ⟨qd, 0, none⟩) k k, .slice none 0 0, .slice none 0 0, .slice none 0 0, .slice none 0 0, .slice none 0 0], .pointer (some ⟨q7, 1, none⟩), .slice (some ⟨qd, 0, none⟩) k k, .slice (some ⟨w2.heap.size, 0, none⟩) 1 1, .pointer (some ⟨qd, 0, none⟩), .pointer (some ⟨qd, 0, none⟩), us 29, us 30, us 31, us 32, us 33, us 34, undef, undef, undef, undef, undef, undef, undef, undef, undef, undef]) (fun _ => undef) (f3) rfl (fun i => match i with | 0 => 29 | 1 => 30 | 2 => 31 | 3 => 32 | 4 => 33 | 5 => 105 | 6 => 34 | _ => 107) ?_ Fc (fun f wx => Box7 28 wx q7 2 (fun j => match j with | 0 => .slice Au l.length cu | _ => .slice (some ⟨qd, 0, none⟩) k k) ∧ f q7 = 0) (hI6) ?_ ?_
        · decide
        · intro i o hi ho us f wx hO hf hI hdep K hK
          rw [hFc] at hdep
          have hi3 : i < 8 := hi
          have hi2 : i = 0 ∨ i = 1 ∨ i = 2 ∨ i = 3 ∨ i = 4 ∨ i = 5 ∨ i = 6 ∨ i = 7 := by omega
          rcases hi2 with rfl | rfl | rfl | rfl | rfl | rfl | rfl | rfl
          · simp only [List.getElem?_toArray, List.getElem?_cons_zero, Option.some.injEq] at ho
            subst ho
            refine step_value (a := ⟨_, []⟩) (w' := wx) (v := ?_) ?_ ?_ ?_
            rotate_left
            · rfl
            · try dsimp only
              skip
              first | (go_simp; done) | (go_simp; with_reducible rfl)
            · exact hK _ f wx (fun _ _ => rfl) (Only.refl _ _) hI (fun _ _ _ h => h) (by rw [hFc]; rfl)
          · simp only [List.getElem?_toArray, List.getElem?_cons_zero, List.getElem?_cons_succ, Option.some.injEq] at ho
            subst ho
            have e0 : (us 29) = .int .i64 (l.length : Int) := hdep ⟨0, .data⟩ (by simp) (by rfl)
            have hmk := make_flags l.length hl2 wx
            refine step_value (a := ⟨_, []⟩) (w' := wx.alloc (.cells (zrow #[.bool false] l.length) 4)) (v := .slice (some ⟨wx.heap.size, 0, none⟩) l.length l.length) ?_ ?_ ?_
            · rfl
            · try dsimp only
              simp only [e0]
              first | (go_simp; done) | (go_simp; with_reducible rfl)
            · exact hK _ (lab f wx.heap.size 3) _ (fun b hb => lab_old hb) (Only.of_below (below1 _ _)) ⟨hI.1.alloc _, (lab_old hI.1.lt).trans hI.2⟩ (fun j hj _ h => hstA j _ f wx _ _ hj hI.1.lt (fun b hb => lab_old hb) (below1 _ _) h) (by rw [hFc]; exact Sl.flags (Blk.new wx _ _) (lab_at _ _ _) (Nat.le_trans hb3.out.size hO.size) hl2)
          · simp only [List.getElem?_toArray, List.getElem?_cons_zero, List.getElem?_cons_succ, Option.some.injEq] at ho
            subst ho
            refine step_value (a := ⟨_, []⟩) (w' := wx) (v := ?_) ?_ ?_ ?_
            rotate_left
            · rfl
            · try dsimp only
              skip
              first | (go_simp; done) | (go_simp; with_reducible rfl)
            · exact hK _ f wx (fun _ _ => rfl) (Only.refl _ _) hI (fun _ _ _ h => h) (by rw [hFc]; rfl)
          · simp only [List.getElem?_toArray, List.getElem?_cons_zero, List.getElem?_cons_succ, Option.some.injEq] at ho
            subst ho
            have e2 : (us 31) = .int .i64 (l.length : Int) := hdep ⟨2, .data⟩ (by simp) (by rfl)
            have hmk := make_flags l.length hl2 wx
            refine step_value (a := ⟨_, []⟩) (w' := wx.alloc (.cells (zrow #[.bool false] l.length) 4)) (v := .slice (some ⟨wx.heap.size, 0, none⟩) l.length l.length) ?_ ?_ ?_
            · rfl
            · try dsimp only
              simp only [e2]
              first | (go_simp; done) | (go_simp; with_reducible rfl)
            · exact hK _ (lab f wx.heap.size 4) _ (fun b hb => lab_old hb) (Only.of_below (below1 _ _)) ⟨hI.1.alloc _, (lab_old hI.1.lt).trans hI.2⟩ (fun j hj _ h => hstA j _ f wx _ _ hj hI.1.lt (fun b hb => lab_old hb) (below1 _ _) h) (by rw [hFc]; exact Sl.flags (Blk.new wx _ _) (lab_at _ _ _) (Nat.le_trans hb3.out.size hO.size) hl2)
          · simp only [List.getElem?_toArray, List.getElem?_cons_zero, List.getElem?_cons_succ, Option.some.injEq] at ho
            subst ho
            refine step_value (a := ⟨_, []⟩) (w' := wx) (v := ?_) ?_ ?_ ?_
            rotate_left
            · rfl
            · try dsimp only
              skip
              first | (go_simp; done) | (go_simp; with_reducible rfl)
            · exact hK _ f wx (fun _ _ => rfl) (Only.refl _ _) hI (fun _ _ _ h => h) (by rw [hFc]; rfl)
          · simp only [List.getElem?_toArray, List.getElem?_cons_zero, List.getElem?_cons_succ, Option.some.injEq] at ho
            subst ho
            have e4 : (us 33) = .pointer (some ⟨q7, 2, none⟩) := hdep ⟨4, .data⟩ (by simp) (by rfl)
            have e1 : Sl 4 1 wx f 3 w.heap.size (us 30) l.length (gB (List.replicate l.length false)) := hdep ⟨1, .data⟩ (by simp) (by rfl)
            obtain ⟨Av, cv, hv⟩ := e1.form
            obtain ⟨⟨u0, hc⟩, hz⟩ := hI.1.any 2 (by omega)
            refine step_skip (a := ⟨_, []⟩) (w' := wx.setCell ⟨q7, 2, none⟩ (us 30)) ?_ ?_ ?_
            · rfl
            · try dsimp only
              simp only [e4, hv]
              first | (go_simp; done) | (go_simp; with_reducible rfl)
            · exact hK (us 30) f _ (fun _ _ => rfl) (Only.setCell (g := q7) (p := ⟨q7, 2, none⟩) (Only.refl _ _) (.inl rfl) _) ⟨hI.1.set_ (by omega) _, hI.2⟩ (fun j hj hne h => hstS5 j _ f wx _ hj hne hI.2 h) (by rw [hFc]; exact ⟨World.cell?_setCell_same _ _ _ hc, e1.set0 (by omega) (p := ⟨q7, 2, none⟩) hI.2 _⟩)
          · simp only [List.getElem?_toArray, List.getElem?_cons_zero, List.getElem?_cons_succ, Option.some.injEq] at ho
            subst ho
            refine step_value (a := ⟨_, []⟩) (w' := wx) (v := ?_) ?_ ?_ ?_
            rotate_left
            · rfl
            · try dsimp only
              skip
              first | (go_simp; done) | (go_simp; with_reducible rfl)
            · exact hK _ f wx (fun _ _ => rfl) (Only.refl _ _) hI (fun _ _ _ h => h) (by rw [hFc]; rfl)
          · simp only [List.getElem?_toArray, List.getElem?_cons_zero, List.getElem?_cons_succ, Option.some.injEq] at ho
            subst ho
            have e6 : (us 34) = .pointer (some ⟨q7, 3, none⟩) := hdep ⟨6, .data⟩ (by simp) (by rfl)
            have e3 : Sl 4 1 wx f 4 w.heap.size (us 32) l.length (gB (List.replicate l.length false)) := hdep ⟨3, .data⟩ (by simp) (by rfl)
            obtain ⟨Av, cv, hv⟩ := e3.form
            obtain ⟨⟨u0, hc⟩, hz⟩ := hI.1.any 3 (by omega)
            refine step_skip (a := ⟨_, []⟩) (w' := wx.setCell ⟨q7, 3, none⟩ (us 32)) ?_ ?_ ?_
            · rfl
            · try dsimp only
              simp only [e6, hv]
              first | (go_simp; done) | (go_simp; with_reducible rfl)
            · exact hK (us 32) f _ (fun _ _ => rfl) (Only.setCell (g := q7) (p := ⟨q7, 3, none⟩) (Only.refl _ _) (.inl rfl) _) ⟨hI.1.set_ (by omega) _, hI.2⟩ (fun j hj hne h => hstS7 j _ f wx _ hj hne hI.2 h) (by rw [hFc]; exact ⟨World.cell?_setCell_same _ _ _ hc, e3.set0 (by omega) (p := ⟨q7, 3, none⟩) hI.2 _⟩)
        · intro us6 f6 w6 hO hf hI F
          rw [hFc] at F
          have e0 : (us6 29) = .int .i64 (l.length : Int) := F 0 (by show 0 < 8; omega)
          have e1 : Sl 4 1 w6 f6 3 w.heap.size (us6 30) l.length (gB (List.replicate l.length false)) := F 1 (by show 1 < 8; omega)
          have e2 : (us6 31) = .int .i64 (l.length : Int) := F 2 (by show 2 < 8; omega)
          have e3 : Sl 4 1 w6 f6 4 w.heap.size (us6 32) l.length (gB (List.replicate l.length false)) := F 3 (by show 3 < 8; omega)
          have e4 : (us6 33) = .pointer (some ⟨q7, 2, none⟩) := F 4 (by show 4 < 8; omega)
          have e5 : w6.cell? ⟨q7, 2, none⟩ = some (us6 105) ∧ Sl 4 1 w6 f6 3 w.heap.size (us6 105) l.length (gB (List.replicate l.length false)) := F 5 (by show 5 < 8; omega)
          have e6 : (us6 34) = .pointer (some ⟨q7, 3, none⟩) := F 6 (by show 6 < 8; omega)
          have e7 : w6.cell? ⟨q7, 3, none⟩ = some (us6 107) ∧ Sl 4 1 w6 f6 4 w.heap.size (us6 107) l.length (gB (List.replicate l.length false)) := F 7 (by show 7 < 8; omega)
          clear F hstA hFc hstS5 hstS7
          generalize us6 105 = yR at *
          generalize us6 107 = yN at *
          generalize us6 29 = t29 at *
          generalize us6 30 = t30 at *
          generalize us6 31 = t31 at *
          generalize us6 32 = t32 at *
          generalize us6 33 = t33 at *
          generalize us6 34 = t34 at *
          clear e0 e1 e2 e3 e4 e6
          obtain ⟨AR, cR, hR⟩ := e5.2.form
          subst hR
          obtain ⟨AN, cN, hN⟩ := e7.2.form
          subst hN
          have hne6 : q ≠ q7 := hq7n
          have hI7 : Box7 28 w6.drew q7 4 (fun j => match j with | 0 => .slice Au l.length cu | 1 => .slice (some ⟨qd, 0, none⟩) k k | 2 => .slice AR l.length cR | _ => .slice AN l.length cN) ∧ f6 q7 = 0 := by
            refine ⟨(hI.1.more (fun j hj => ?_)).drew, hI.2⟩
            have h2 : j = 0 ∨ j = 1 ∨ j = 2 ∨ j = 3 := by omega
            rcases h2 with rfl | rfl | rfl | rfl
            · exact hI.1.told (k := 0) (by omega)
            · exact hI.1.told (k := 1) (by omega)
            · exact e5.1
            · exact e7.1
          have hJ6 := hide (hJ3.out.onlyf hO hf hf3.out.2)
          have hO6 := hide (hRO.out.onlyf hO hf hf3.out.2)
          have hR6 := hide (show Blk w6 q 28 #[.slice none 0 0, .slice none 0 0, .slice none 0 0, .slice none 0 0, .slice none 0 0, .slice none 0 0, .slice none 0 0] from (hO.block q hR3.out.lt hne6).trans hR3.out)
          have hb6 := hide (hb3.out.trans (hO.belowW hb3.out.size hw7.out))
          have hSR := hide e5.2
          have hSN := hide e7.2
          have hf6 := hide (show f6 q = 0 ∧ f6 q7 = 0 from ⟨(hf _ hR3.out.lt).trans hf3.out.1, hI.2⟩)
          clear hI6 e5 e7 hO hf hI hJ3 hQ3 hR3 hb3 hf3 hRO
          go_upto_region 7 with fail
          obtain ⟨Fc, hFc⟩ : ∃ Fc, Fc = (fun i v f w' => match i with | 0 => v = .int .i64 (l.length : Int) | 1 => Sl 3 1 w' f 5 w.heap.size v l.length (gI (List.replicate l.length 0)) | 2 => v = .int .i64 (l.length : Int) | 3 => Sl 3 1 w' f 6 w.heap.size v l.length (gI (List.replicate l.length 0)) | 4 => v = .int .i64 (l.length : Int) | 5 => Sl 3 1 w' f 7 w.heap.size v l.length (gI (List.replicate l.length 0)) | 6 => v = .pointer (some ⟨q7, 4, none⟩) | 7 => w'.cell? ⟨q7, 4, none⟩ = some v ∧ Sl 3 1 w' f 5 w.heap.size v l.length (gI (List.replicate l.length 0)) | 8 => v = .pointer (some ⟨q7, 5, none⟩) | 9 => w'.cell? ⟨q7, 5, none⟩ = some v ∧ Sl 3 1 w' f 6 w.heap.size v l.length (gI (List.replicate l.length 0)) | 10 => v = .pointer (some ⟨q7, 6, none⟩) | _ => w'.cell? ⟨q7, 6, none⟩ = some v ∧ Sl 3 1 w' f 7 w.heap.size v l.length (gI (List.replicate l.length 0)) : Nat → Value → (Nat → Nat) → World → Prop) := ⟨_, rfl⟩
          have hstA : ∀ i v f wx f2 wy, i < 12 → q7 < wx.heap.size → (∀ b, b < wx.heap.size → f2 b = f b) → Below wx.heap.size wx wy → Fc i v f wx → Fc i v f2 wy := by
            rw [hFc]
            intro i v f wx f2 wy hi hg hf hb h
            have hi2 : i = 0 ∨ i = 1 ∨ i = 2 ∨ i = 3 ∨ i = 4 ∨ i = 5 ∨ i = 6 ∨ i = 7 ∨ i = 8 ∨ i = 9 ∨ i = 10 ∨ i = 11 := by omega
            rcases hi2 with rfl | rfl | rfl | rfl | rfl | rfl | rfl | rfl | rfl | rfl | rfl | rfl
            · exact h
            · exact (h.relab hf).next hb
            · exact h
            · exact (h.relab hf).next hb
            · exact h
            · exact (h.relab hf).next hb
            · exact h
            · exact ⟨(hb.cell (p := ⟨q7, 4, none⟩) hg).trans h.1, (h.2.relab hf).next hb⟩
            · exact h
            · exact ⟨(hb.cell (p := ⟨q7, 5, none⟩) hg).trans h.1, (h.2.relab hf).next hb⟩
            · exact h
            · exact ⟨(hb.cell (p := ⟨q7, 6, none⟩) hg).trans h.1, (h.2.relab hf).next hb⟩
          have hstS7 : ∀ i v f wx u, i < 12 → i ≠ 7 → f q7 = 0 → Fc i v f wx → Fc i v f (wx.setCell ⟨q7, 4, none⟩ u) := by
            rw [hFc]
            intro i v f wx u hi hne hg h
            have hi2 : i = 0 ∨ i = 1 ∨ i = 2 ∨ i = 3 ∨ i = 4 ∨ i = 5 ∨ i = 6 ∨ i = 7 ∨ i = 8 ∨ i = 9 ∨ i = 10 ∨ i = 11 := by omega
            rcases hi2 with rfl | rfl | rfl | rfl | rfl | rfl | rfl | rfl | rfl | rfl | rfl | rfl
            · exact h
            · exact h.set0 (by omega) (p := ⟨q7, 4, none⟩) hg u
            · exact h
            · exact h.set0 (by omega) (p := ⟨q7, 4, none⟩) hg u
            · exact h
            · exact h.set0 (by omega) (p := ⟨q7, 4, none⟩) hg u
            · exact h
            · exact absurd rfl hne
            · exact h
            · exact ⟨(World.cell?_setCell_other _ _ _ _ (by simp)).trans h.1, h.2.set0 (by omega) (p := ⟨q7, 4, none⟩) hg u⟩
            · exact h
            · exact ⟨(World.cell?_setCell_other _ _ _ _ (by simp)).trans h.1, h.2.set0 (by omega) (p := ⟨q7, 4, none⟩) hg u⟩
          have hstS9 : ∀ i v f wx u, i < 12 → i ≠ 9 → f q7 = 0 → Fc i v f wx → Fc i v f (wx.setCell ⟨q7, 5, none⟩ u) := by
            rw [hFc]
            intro i v f wx u hi hne hg h
            have hi2 : i = 0 ∨ i = 1 ∨ i = 2 ∨ i = 3 ∨ i = 4 ∨ i = 5 ∨ i = 6 ∨ i = 7 ∨ i = 8 ∨ i = 9 ∨ i = 10 ∨ i = 11 := by omega
            rcases hi2 with rfl | rfl | rfl | rfl | rfl | rfl | rfl | rfl | rfl | rfl | rfl | rfl
            · exact h
            · exact h.set0 (by omega) (p := ⟨q7, 5, none⟩) hg u
            · exact h
            · exact h.set0 (by omega) (p := ⟨q7, 5, none⟩) hg u
            · exact h
            · exact h.set0 (by omega) (p := ⟨q7, 5, none⟩) hg u
            · exact h
            · exact ⟨(World.cell?_setCell_other _ _ _ _ (by simp)).trans h.1, h.2.set0 (by omega) (p := ⟨q7, 5, none⟩) hg u⟩
            · exact h
            · exact absurd rfl hne
            · exact h
            · exact ⟨(World.cell?_setCell_other _ _ _ _ (by simp)).trans h.1, h.2.set0 (by omega) (p := ⟨q7, 5, none⟩) hg u⟩
          have hstS11 : ∀ i v f wx u, i < 12 → i ≠ 11 → f q7 = 0 → Fc i v f wx → Fc i v f (wx.setCell ⟨q7, 6, none⟩ u) := by
            rw [hFc]
            intro i v f wx u hi hne hg h
            have hi2 : i = 0 ∨ i = 1 ∨ i = 2 ∨ i = 3 ∨ i = 4 ∨ i = 5 ∨ i = 6 ∨ i = 7 ∨ i = 8 ∨ i = 9 ∨ i = 10 ∨ i = 11 := by omega
            rcases hi2 with rfl | rfl | rfl | rfl | rfl | rfl | rfl | rfl | rfl | rfl | rfl | rfl
            · exact h
            · exact h.set0 (by omega) (p := ⟨q7, 6, none⟩) hg u
            · exact h
            · exact h.set0 (by omega) (p := ⟨q7, 6, none⟩) hg u
            · exact h
            · exact h.set0 (by omega) (p := ⟨q7, 6, none⟩) hg u
            · exact h
            · exact ⟨(World.cell?_setCell_other _ _ _ _ (by simp)).trans h.1, h.2.set0 (by omega) (p := ⟨q7, 6, none⟩) hg u⟩
            · exact h
            · exact ⟨(World.cell?_setCell_other _ _ _ _ (by simp)).trans h.1, h.2.set0 (by omega) (p := ⟨q7, 6, none⟩) hg u⟩
            · exact h
            · exact absurd rfl hne
          refine wp_region_only q7 (by kernel_rfl) (by kernel_rfl) (fun us => #[.slice A l.length c, .int .i64 (k : Int), undef, undef, .pointer (some ⟨q, 0, none⟩), .bool false, .int .i64 (l.length : Int), .pointer (some ⟨q7, 0, none⟩), .slice A l.length c, .bool true, .bool false, .bool false, .int .i64 (k : Int), .bool true, .bool false, .bool false, undef, .slice A l.length c, .int .i64 (l.length : Int), y19, y20, y21, y22, .agg #[.slice Au l.length cu, .slice (some ⟨qd, 0, none⟩) k k, .slice none 0 0, .slice none 0 0, .slice none 0 0, .slice none 0 0, .slice none 0 0], .pointer (some ⟨q7, 1, none⟩), .slice (some ⟨qd, 0, none⟩) k k, .slice (some ⟨w2.heap.size, 0, none⟩) 1 1, .pointer (some ⟨qd, 0, none⟩), .pointer (some ⟨qd, 0, none⟩), t29, t30, t31, t32, t33, t34, us 35, us 36, us 37, us 38, us 39, us 40, us 41, us 42, us 43, undef]) (fun _ => undef) (f6) rfl (fun i => match i with | 0 => 35 | 1 => 36 | 2 => 37 | 3 => 38 | 4 => 39 | 5 => 40 | 6 => 41 | 7 => 107 | 8 => 42 | 9 => 109 | 10 => 43 | _ => 111) ?_ Fc (fun f wx => Box7 28 wx q7 4 (fun j => match j with | 0 => .slice Au l.length cu | 1 => .slice (some ⟨qd, 0, none⟩) k k | 2 => .slice AR l.length cR | _ => .slice AN l.length cN) ∧ f q7 = 0) (hI7) ?_ ?_
          · decide
          · intro i o hi ho us f wx hO hf hI hdep K hK
            rw [hFc] at hdep
            have hi3 : i < 12 := hi
            have hi2 : i = 0 ∨ i = 1 ∨ i = 2 ∨ i = 3 ∨ i = 4 ∨ i = 5 ∨ i = 6 ∨ i = 7 ∨ i = 8 ∨ i = 9 ∨ i = 10 ∨ i = 11 := by omega
            rcases hi2 with rfl | rfl | rfl | rfl | rfl | rfl | rfl | rfl | rfl | rfl | rfl | rfl
            · simp only [List.getElem?_toArray, List.getElem?_cons_zero, Option.some.injEq] at ho
              subst ho
              refine step_value (a := ⟨_, []⟩) (w' := wx) (v := ?_) ?_ ?_ ?_
              rotate_left
              · rfl
              · try dsimp only
                skip
                first | (go_simp; done) | (go_simp; with_reducible rfl)
              · exact hK _ f wx (fun _ _ => rfl) (Only.refl _ _) hI (fun _ _ _ h => h) (by rw [hFc]; rfl)
            · simp only [List.getElem?_toArray, List.getElem?_cons_zero, List.getElem?_cons_succ, Option.some.injEq] at ho
              subst ho
              have e0 : (us 35) = .int .i64 (l.length : Int) := hdep ⟨0, .data⟩ (by simp) (by rfl)
              have hmk := make_ints l.length hl2 wx
              refine step_value (a := ⟨_, []⟩) (w' := wx.alloc (.cells (zrow #[.int .i64 0] l.length) 3)) (v := .slice (some ⟨wx.heap.size, 0, none⟩) l.length l.length) ?_ ?_ ?_
              · rfl
              · try dsimp only
                simp only [e0]
                first | (go_simp; done) | (go_simp; with_reducible rfl)
              · exact hK _ (lab f wx.heap.size 5) _ (fun b hb => lab_old hb) (Only.of_below (below1 _ _)) ⟨hI.1.alloc _, (lab_old hI.1.lt).trans hI.2⟩ (fun j hj _ h => hstA j _ f wx _ _ hj hI.1.lt (fun b hb => lab_old hb) (below1 _ _) h) (by rw [hFc]; exact Sl.zeros (Blk.new wx _ _) (lab_at _ _ _) (Nat.le_trans hb6.out.size hO.size) hl2)
            · simp only [List.getElem?_toArray, List.getElem?_cons_zero, List.getElem?_cons_succ, Option.some.injEq] at ho
              subst ho
              refine step_value (a := ⟨_, []⟩) (w' := wx) (v := ?_) ?_ ?_ ?_
              rotate_left
              · rfl
              · try dsimp only
                skip
                first | (go_simp; done) | (go_simp; with_reducible rfl)
              · exact hK _ f wx (fun _ _ => rfl) (Only.refl _ _) hI (fun _ _ _ h => h) (by rw [hFc]; rfl)
            · simp only [List.getElem?_toArray, List.getElem?_cons_zero, List.getElem?_cons_succ, Option.some.injEq] at ho
              subst ho
              have e2 : (us 37) = .int .i64 (l.length : Int) := hdep ⟨2, .data⟩ (by simp) (by rfl)
              have hmk := make_ints l.length hl2 wx
              refine step_value (a := ⟨_, []⟩) (w' := wx.alloc (.cells (zrow #[.int .i64 0] l.length) 3)) (v := .slice (some ⟨wx.heap.size, 0, none⟩) l.length l.length) ?_ ?_ ?_
              · rfl
              · try dsimp only
                simp only [e2]
                first | (go_simp; done) | (go_simp; with_reducible rfl)
              · exact hK _ (lab f wx.heap.size 6) _ (fun b hb => lab_old hb) (Only.of_below (below1 _ _)) ⟨hI.1.alloc _, (lab_old hI.1.lt).trans hI.2⟩ (fun j hj _ h => hstA j _ f wx _ _ hj hI.1.lt (fun b hb => lab_old hb) (below1 _ _) h) (by rw [hFc]; exact Sl.zeros (Blk.new wx _ _) (lab_at _ _ _) (Nat.le_trans hb6.out.size hO.size) hl2)
            · simp only [List.getElem?_toArray, List.getElem?_cons_zero, List.getElem?_cons_succ, Option.some.injEq] at ho
              subst ho
              refine step_value (a := ⟨_, []⟩) (w' := wx) (v := ?_) ?_ ?_ ?_
              rotate_left
              · rfl
              · try dsimp only
                skip
                first | (go_simp; done) | (go_simp; with_reducible rfl)
              · exact hK _ f wx (fun _ _ => rfl) (Only.refl _ _) hI (fun _ _ _ h => h) (by rw [hFc]; rfl)
            · simp only [List.getElem?_toArray, List.getElem?_cons_zero, List.getElem?_cons_succ, Option.some.injEq] at ho
              subst ho
              have e4 : (us 39) = .int .i64 (l.length : Int) := hdep ⟨4, .data⟩ (by simp) (by rfl)
              have hmk := make_ints l.length hl2 wx
              refine step_value (a := ⟨_, []⟩) (w' := wx.alloc (.cells (zrow #[.int .i64 0] l.length) 3)) (v := .slice (some ⟨wx.heap.size, 0, none⟩) l.length l.length) ?_ ?_ ?_
              · rfl
              · try dsimp only
                simp only [e4]
                first | (go_simp; done) | (go_simp; with_reducible rfl)
              · exact hK _ (lab f wx.heap.size 7) _ (fun b hb => lab_old hb) (Only.of_below (below1 _ _)) ⟨hI.1.alloc _, (lab_old hI.1.lt).trans hI.2⟩ (fun j hj _ h => hstA j _ f wx _ _ hj hI.1.lt (fun b hb => lab_old hb) (below1 _ _) h) (by rw [hFc]; exact Sl.zeros (Blk.new wx _ _) (lab_at _ _ _) (Nat.le_trans hb6.out.size hO.size) hl2)
            · simp only [List.getElem?_toArray, List.getElem?_cons_zero, List.getElem?_cons_succ, Option.some.injEq] at ho
              subst ho
              refine step_value (a := ⟨_, []⟩) (w' := wx) (v := ?_) ?_ ?_ ?_
              rotate_left
              · rfl
              · try dsimp only
                skip
                first | (go_simp; done) | (go_simp; with_reducible rfl)
              · exact hK _ f wx (fun _ _ => rfl) (Only.refl _ _) hI (fun _ _ _ h => h) (by rw [hFc]; rfl)
            · simp only [List.getElem?_toArray, List.getElem?_cons_zero, List.getElem?_cons_succ, Option.some.injEq] at ho
              subst ho
              have e6 : (us 41) = .pointer (some ⟨q7, 4, none⟩) := hdep ⟨6, .data⟩ (by simp) (by rfl)
              have e1 : Sl 3 1 wx f 5 w.heap.size (us 36) l.length (gI (List.replicate l.length 0)) := hdep ⟨1, .data⟩ (by simp) (by rfl)
              obtain ⟨Av, cv, hv⟩ := e1.form
              obtain ⟨⟨u0, hc⟩, hz⟩ := hI.1.any 4 (by omega)
              refine step_skip (a := ⟨_, []⟩) (w' := wx.setCell ⟨q7, 4, none⟩ (us 36)) ?_ ?_ ?_
              · rfl
              · try dsimp only
                simp only [e6, hv]
                first | (go_simp; done) | (go_simp; with_reducible rfl)
              · exact hK (us 36) f _ (fun _ _ => rfl) (Only.setCell (g := q7) (p := ⟨q7, 4, none⟩) (Only.refl _ _) (.inl rfl) _) ⟨hI.1.set_ (by omega) _, hI.2⟩ (fun j hj hne h => hstS7 j _ f wx _ hj hne hI.2 h) (by rw [hFc]; exact ⟨World.cell?_setCell_same _ _ _ hc, e1.set0 (by omega) (p := ⟨q7, 4, none⟩) hI.2 _⟩)
            · simp only [List.getElem?_toArray, List.getElem?_cons_zero, List.getElem?_cons_succ, Option.some.injEq] at ho
              subst ho
              refine step_value (a := ⟨_, []⟩) (w' := wx) (v := ?_) ?_ ?_ ?_
              rotate_left
              · rfl
              · try dsimp only
                skip
                first | (go_simp; done) | (go_simp; with_reducible rfl)
              · exact hK _ f wx (fun _ _ => rfl) (Only.refl _ _) hI (fun _ _ _ h => h) (by rw [hFc]; rfl)
            · simp only [List.getElem?_toArray, List.getElem?_cons_zero, List.getElem?_cons_succ, Option.some.injEq] at ho
              subst ho
              have e8 : (us 42) = .pointer (some ⟨q7, 5, none⟩) := hdep ⟨8, .data⟩ (by simp) (by rfl)
              have e3 : Sl 3 1 wx f 6 w.heap.size (us 38) l.length (gI (List.replicate l.length 0)) := hdep ⟨3, .data⟩ (by simp) (by rfl)
              obtain ⟨Av, cv, hv⟩ := e3.form
              obtain ⟨⟨u0, hc⟩, hz⟩ := hI.1.any 5 (by omega)
              refine step_skip (a := ⟨_, []⟩) (w' := wx.setCell ⟨q7, 5, none⟩ (us 38)) ?_ ?_ ?_
              · rfl
              · try dsimp only
                simp only [e8, hv]
                first | (go_simp; done) | (go_simp; with_reducible rfl)
              · exact hK (us 38) f _ (fun _ _ => rfl) (Only.setCell (g := q7) (p := ⟨q7, 5, none⟩) (Only.refl _ _) (.inl rfl) _) ⟨hI.1.set_ (by omega) _, hI.2⟩ (fun j hj hne h => hstS9 j _ f wx _ hj hne hI.2 h) (by rw [hFc]; exact ⟨World.cell?_setCell_same _ _ _ hc, e3.set0 (by omega) (p := ⟨q7, 5, none⟩) hI.2 _⟩)
            · simp only [List.getElem?_toArray, List.getElem?_cons_zero, List.getElem?_cons_succ, Option.some.injEq] at ho
              subst ho
              refine step_value (a := ⟨_, []⟩) (w' := wx) (v := ?_) ?_ ?_ ?_
              rotate_left
              · rfl
              · try dsimp only
                skip
                first | (go_simp; done) | (go_simp; with_reducible rfl)
              · exact hK _ f wx (fun _ _ => rfl) (Only.refl _ _) hI (fun _ _ _ h => h) (by rw [hFc]; rfl)
            · simp only [List.getElem?_toArray, List.getElem?_cons_zero, List.getElem?_cons_succ, Option.some.injEq] at ho
              subst ho
              have e10 : (us 43) = .pointer (some ⟨q7, 6, none⟩) := hdep ⟨10, .data⟩ (by simp) (by rfl)
              have e5 : Sl 3 1 wx f 7 w.heap.size (us 40) l.length (gI (List.replicate l.length 0)) := hdep ⟨5, .data⟩ (by simp) (by rfl)
              obtain ⟨Av, cv, hv⟩ := e5.form
              obtain ⟨⟨u0, hc⟩, hz⟩ := hI.1.any 6 (by omega)
              refine step_skip (a := ⟨_, []⟩) (w' := wx.setCell ⟨q7, 6, none⟩ (us 40)) ?_ ?_ ?_
              · rfl
              · try dsimp only
                simp only [e10, hv]
                first | (go_simp; done) | (go_simp; with_reducible rfl)
              · exact hK (us 40) f _ (fun _ _ => rfl) (Only.setCell (g := q7) (p := ⟨q7, 6, none⟩) (Only.refl _ _) (.inl rfl) _) ⟨hI.1.set_ (by omega) _, hI.2⟩ (fun j hj hne h => hstS11 j _ f wx _ hj hne hI.2 h) (by rw [hFc]; exact ⟨World.cell?_setCell_same _ _ _ hc, e5.set0 (by omega) (p := ⟨q7, 6, none⟩) hI.2 _⟩)
          · intro us7 f7 w7 hO hf hI F
            rw [hFc] at F
            have e0 : (us7 35) = .int .i64 (l.length : Int) := F 0 (by show 0 < 12; omega)
            have e1 : Sl 3 1 w7 f7 5 w.heap.size (us7 36) l.length (gI (List.replicate l.length 0)) := F 1 (by show 1 < 12; omega)
            have e2 : (us7 37) = .int .i64 (l.length : Int) := F 2 (by show 2 < 12; omega)
            have e3 : Sl 3 1 w7 f7 6 w.heap.size (us7 38) l.length (gI (List.replicate l.length 0)) := F 3 (by show 3 < 12; omega)
            have e4 : (us7 39) = .int .i64 (l.length : Int) := F 4 (by show 4 < 12; omega)
            have e5 : Sl 3 1 w7 f7 7 w.heap.size (us7 40) l.length (gI (List.replicate l.length 0)) := F 5 (by show 5 < 12; omega)
            have e6 : (us7 41) = .pointer (some ⟨q7, 4, none⟩) := F 6 (by show 6 < 12; omega)
            have e7 : w7.cell? ⟨q7, 4, none⟩ = some (us7 107) ∧ Sl 3 1 w7 f7 5 w.heap.size (us7 107) l.length (gI (List.replicate l.length 0)) := F 7 (by show 7 < 12; omega)
            have e8 : (us7 42) = .pointer (some ⟨q7, 5, none⟩) := F 8 (by show 8 < 12; omega)
            have e9 : w7.cell? ⟨q7, 5, none⟩ = some (us7 109) ∧ Sl 3 1 w7 f7 6 w.heap.size (us7 109) l.length (gI (List.replicate l.length 0)) := F 9 (by show 9 < 12; omega)
            have e10 : (us7 43) = .pointer (some ⟨q7, 6, none⟩) := F 10 (by show 10 < 12; omega)
            have e11 : w7.cell? ⟨q7, 6, none⟩ = some (us7 111) ∧ Sl 3 1 w7 f7 7 w.heap.size (us7 111) l.length (gI (List.replicate l.length 0)) := F 11 (by show 11 < 12; omega)
            clear F hstA hFc hstS7 hstS9 hstS11
            generalize us7 107 = yF at *
            generalize us7 109 = yM at *
            generalize us7 111 = yV at *
            generalize us7 35 = t35 at *
            generalize us7 36 = t36 at *
            generalize us7 37 = t37 at *
            generalize us7 38 = t38 at *
            generalize us7 39 = t39 at *
            generalize us7 40 = t40 at *
            generalize us7 41 = t41 at *
            generalize us7 42 = t42 at *
            generalize us7 43 = t43 at *
            clear e0 e1 e2 e3 e4 e5 e6 e8 e10
            obtain ⟨AF, cF, hF⟩ := e7.2.form
            subst hF
            obtain ⟨AM, cM, hM⟩ := e9.2.form
            subst hM
            obtain ⟨AV, cV, hV⟩ := e11.2.form
            subst hV
            have x0 : w7.cell? ⟨q7, 0, none⟩ = some (.slice Au l.length cu) := hI.1.told (k := 0) (by omega)
            have x1 : w7.cell? ⟨q7, 1, none⟩ = some (.slice (some ⟨qd, 0, none⟩) k k) := hI.1.told (k := 1) (by omega)
            have x2 : w7.cell? ⟨q7, 2, none⟩ = some (.slice AR l.length cR) := hI.1.told (k := 2) (by omega)
            have x3 : w7.cell? ⟨q7, 3, none⟩ = some (.slice AN l.length cN) := hI.1.told (k := 3) (by omega)
            have x4 := e7.1
            have x5 := e9.1
            have x6 := e11.1
            have xl := hI.1.lt
            have hJ7 := hJ6.out.onlyf hO hf hf6.out.2
            have hO7 := hO6.out.onlyf hO hf hf6.out.2
            have hR7 : Blk w7 q 28 #[.slice none 0 0, .slice none 0 0, .slice none 0 0, .slice none 0 0, .slice none 0 0, .slice none 0 0, .slice none 0 0] := (hO.block q hR6.out.lt hne6).trans hR6.out
            have hSR7 := hSR.out.onlyf (by omega) hO hf hf6.out.2
            have hSN7 := hSN.out.onlyf (by omega) hO hf hf6.out.2
            have hb7 := hide (hb6.out.trans (hO.belowW hb6.out.size hw7.out))
            have hf7 : f7 q = 0 := (hf _ hR6.out.lt).trans hf6.out.1
            obtain ⟨⟨r0, r1, r2, r3, r4, r5, r6⟩, rl⟩ := box7 hR7
            obtain ⟨z0, z1, z2, z3, z4, z5, z6⟩ := froz7 hR7
            have hnew : newP l k = { js := l, dq := [0] :: List.replicate (k - 1) [], ran := List.replicate l.length false, dn := List.replicate l.length false, lf := List.replicate l.length 0, sm := List.replicate l.length 0, vl := List.replicate l.length 0 } := rfl
            have hkl : ([0] :: List.replicate (k - 1) ([] : List Int)).length = k := by have := hk4.out; simp; omega
            have hEnd := hide (show ∀ W, (∀ b, f7 b ≠ 0 → W.heap[b]? = w7.heap[b]?) → PoolO W f7 w.heap.size ⟨.slice Au l.length cu, .slice (some ⟨qd, 0, none⟩) k k, .slice AR l.length cR, .slice AN l.length cN, .slice AF l.length cF, .slice AM l.length cM, .slice AV l.length cV, kv, rv⟩ (newP l k) from fun W hW => by
              refine PoolO.keep (w := w7) (x := ⟨.slice Au l.length cu, .slice (some ⟨qd, 0, none⟩) k k, .slice AR l.length cR, .slice AN l.length cN, .slice AF l.length cF, .slice AM l.length cM, .slice AV l.length cV, kv, rv⟩) ?_ (fun b hb _ _ => hW b hb)
              have h2 := e7.2; have h3 := e9.2; have h4 := e11.2; have h5 := hSR7; have h6 := hSN7
              exact ⟨hJ7, hO7, by simpa [newP] using h5, by simpa [newP] using h6, by simpa [newP] using h2, by simpa [newP] using h3, by simpa [newP] using h4⟩)
            clear e7 e9 e11 hO hf hI hI7 hJ6 hO6 hR6 hb6 hSR hSN hf6 hJ7 hO7 hR7 hSR7 hSN7
            go_wp2_with fail
            refine bodyPost_ret (v := .tuple #[.agg #[.slice Au l.length cu, .slice (some ⟨qd, 0, none⟩) k k, .slice AR l.length cR, .slice AN l.length cN, .slice AF l.length cF, .slice AM l.length cM, .slice AV l.length cV], .bool true]) (by simp [results, Try.results39, go_sem, r0, r1, r2, r3, r4, r5, r6]; done) rfl ?_
            rw [hE.out]
            refine ⟨⟨.slice Au l.length cu, .slice (some ⟨qd, 0, none⟩) k k, .slice AR l.length cR, .slice AN l.length cN, .slice AF l.length cF, .slice AM l.length cM, .slice AV l.length cV, kv, rv⟩, f7, rfl, hEnd.out _ (fun b hb => ?_), ?_⟩
            · iterate 7 (refine (Below.heap_setCell _ _ _ _ (fun e => hb (by rw [e]; exact hf7))).trans ?_)
              rfl
            · iterate 7 (refine Below.setCell ?_ (by show w.heap.size ≤ q; rw [hq.out]; exact Nat.le_refl _) _)
              exact hb7.out
end Go.Proofs.Ytmhldlpjiepmpaa
