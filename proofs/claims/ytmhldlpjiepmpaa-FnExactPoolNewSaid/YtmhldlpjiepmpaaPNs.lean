/- The model's PoolNew. -/
import Derived.Test.YtmhldlpjiepmpaaPnD
import Derived.Test.YtmhldlpjiepmpaaSJob
import Derived.Test.YtmhldlpjiepmpaaInvR
import Derived.Test.YtmhldlpjiepmpaaJbS
import Derived.Test.YtmhldlpjiepmpaaPoT
namespace Go.Proofs.Ytmhldlpjiepmpaa
open Go.RowKit

set_option maxRecDepth 100000 in
set_option maxHeartbeats 12800000 in
theorem spoolNew_any (A : Option Addr) (l : List JobD) (c : Nat) (K : Int) (S : Nat → Prop) (w : World) (hl2 : l.length ≤ 1048576) (hsz : ∀ k, (getj l k).ks.length ≤ 1048576) (hS : ∀ b, S b → b < w.heap.size) (ha : Hid (JobsAt w S A l)) :
    Calls Try.prog 38 #[.slice A l.length c, .int .i64 K] w fun e w' => ∃ x f, e = .returned (.tuple #[.agg x.cells, .bool (newR l K).2]) ∧ PoolO w' f w.heap.size x (newR l K).1 ∧ Below w.heap.size w w' := by
  have hb0 := below1 w (Obj.cells #[.slice none 0 0, .slice none 0 0, .slice none 0 0, .slice none 0 0, .slice none 0 0, .slice none 0 0, .slice none 0 0] 28)
  have R0 := Blk.new w 28 #[.slice none 0 0, .slice none 0 0, .slice none 0 0, .slice none 0 0, .slice none 0 0, .slice none 0 0, .slice none 0 0]
  obtain ⟨w0, hw0⟩ : ∃ w0, w0 = w.alloc (Obj.cells #[.slice none 0 0, .slice none 0 0, .slice none 0 0, .slice none 0 0, .slice none 0 0, .slice none 0 0, .slice none 0 0] 28) := ⟨_, rfl⟩
  rw [← hw0] at hb0 R0
  obtain ⟨q, hq⟩ : ∃ q, q = w.heap.size := ⟨_, rfl⟩
  rw [← hq] at R0
  have kJ := hide (sjobsOk_any A l c S w0 hsz (fun b h => Nat.lt_of_lt_of_le (hS b h) hb0.size) (ha.out.below hb0 hS))
  obtain ⟨pr, hpr⟩ : ∃ pr, pr = newR l K := ⟨_, rfl⟩
  rw [← hpr]
  replace hpr := hide hpr
  obtain ⟨bj, hbj⟩ : ∃ b, b = jobsB l := ⟨_, rfl⟩
  rw [← hbj] at kJ
  replace hbj := hide hbj
  replace hb0 := hide hb0
  replace R0 := hide R0
  go_enter Try.func38, Try.ntmps38
  go_upto_region 1 with fail
  rw [← hw0, ← hq]
  clear hw0
  replace hq := hide hq
  cases bj
  · have hE := hide (show pr = (pool0, false) from by rw [hpr.out]; exact newR_no (.inl hbj.out.symm))
    clear hpr
    go_upto_region 2 with (go_at_call 34; refine kJ.out.mono ?_; rintro e w1 ⟨rfl, hb1⟩)
    have R1 := R0.out.below hb1 R0.out.lt
    obtain ⟨⟨r0, r1, r2, r3, r4, r5, r6⟩, rl⟩ := box7 R1
    obtain ⟨z0, z1, z2, z3, z4, z5, z6⟩ := froz7 R1
    clear R1
    replace hb1 := hide hb1
    go_wp2_with fail
    refine bodyPost_ret (v := .tuple #[.agg pv0.cells, .bool false]) (by simp [results, Try.results38, go_sem, pv0, PV.cells, r0, r1, r2, r3, r4, r5, r6]; done) rfl ?_
    rw [hE.out]
    refine ⟨pv0, fun _ => 0, rfl, PoolO.zero _ _ _, ?_⟩
    iterate 7 (refine Below.setCell ?_ (by show w.heap.size ≤ q; rw [hq.out]; exact Nat.le_refl _) _)
    exact below_then hb0.out hb1.out
  · by_cases hK1 : K < 1
    · have hE := hide (show pr = (pool0, false) from by rw [hpr.out]; exact newR_no (.inr (by unfold workB; rw [decide_eq_false (by omega)]; rfl)))
      clear hpr
      go_upto_region 2 with (go_at_call 34; refine kJ.out.mono ?_; rintro e w1 ⟨rfl, hb1⟩)
      have R1 := R0.out.below hb1 R0.out.lt
      obtain ⟨⟨r0, r1, r2, r3, r4, r5, r6⟩, rl⟩ := box7 R1
      obtain ⟨z0, z1, z2, z3, z4, z5, z6⟩ := froz7 R1
      clear R1
      replace hb1 := hide hb1
      go_wp2_with fail
      refine bodyPost_ret (v := .tuple #[.agg pv0.cells, .bool false]) (by simp [results, Try.results38, go_sem, pv0, PV.cells, r0, r1, r2, r3, r4, r5, r6]; done) rfl ?_
      rw [hE.out]
      refine ⟨pv0, fun _ => 0, rfl, PoolO.zero _ _ _, ?_⟩
      iterate 7 (refine Below.setCell ?_ (by show w.heap.size ≤ q; rw [hq.out]; exact Nat.le_refl _) _)
      exact below_then hb0.out hb1.out
    · by_cases hK4 : 4 < K
      · have hE := hide (show pr = (pool0, false) from by rw [hpr.out]; exact newR_no (.inr (by unfold workB; rw [decide_eq_false (show ¬ K ≤ 4 by omega), Bool.and_false])))
        clear hpr
        go_upto_region 2 with (go_at_call 34; refine kJ.out.mono ?_; rintro e w1 ⟨rfl, hb1⟩)
        have R1 := R0.out.below hb1 R0.out.lt
        obtain ⟨⟨r0, r1, r2, r3, r4, r5, r6⟩, rl⟩ := box7 R1
        obtain ⟨z0, z1, z2, z3, z4, z5, z6⟩ := froz7 R1
        clear R1
        replace hb1 := hide hb1
        go_wp2_with fail
        refine bodyPost_ret (v := .tuple #[.agg pv0.cells, .bool false]) (by simp [results, Try.results38, go_sem, pv0, PV.cells, r0, r1, r2, r3, r4, r5, r6]; done) rfl ?_
        rw [hE.out]
        refine ⟨pv0, fun _ => 0, rfl, PoolO.zero _ _ _, ?_⟩
        iterate 7 (refine Below.setCell ?_ (by show w.heap.size ≤ q; rw [hq.out]; exact Nat.le_refl _) _)
        exact below_then hb0.out hb1.out
      · have hE := hide (show pr = (newP l K.toNat, true) from by rw [hpr.out]; exact newR_yes hbj.out.symm (by unfold workB; rw [decide_eq_true (by omega), decide_eq_true (by omega)]; rfl))
        have hKw := hide (show 1 ≤ K ∧ K ≤ 4 from by omega)
        clear hpr
        go_upto_region 4 with (go_at_call 34; refine kJ.out.mono ?_; rintro e w1 ⟨rfl, hb1⟩)
        obtain ⟨k, rfl⟩ : ∃ k : Nat, K = k := ⟨K.toNat, by have := hKw.out; omega⟩
        have hk4 := hide (show 1 ≤ k ∧ k ≤ 4 from by have := hKw.out; omega)
        clear hKw kJ
        have hbw1 := hide (below_then hb0.out hb1)
        have hRl := hide (show q < w1.heap.size from Nat.lt_of_lt_of_le R0.out.lt hb1.size)
        have hRx := hide (fun wx (h : Below w1.heap.size w1 wx) => (R0.out.below hb1 R0.out.lt).below h (Nat.lt_of_lt_of_le R0.out.lt hb1.size))
        have hSz := hide (show ∀ wx, Below w1.heap.size w1 wx → w.heap.size ≤ wx.heap.size from fun wx h => Nat.le_trans (below_then hb0.out hb1).size h.size)
        have hSx := hide (show ∀ wx, Below w1.heap.size w1 wx → ∀ b, S b → b < wx.heap.size from fun wx h b hb => Nat.lt_of_lt_of_le (hS b hb) (Nat.le_trans (below_then hb0.out hb1).size h.size))
        have hJx := hide (show ∀ wx, Below w1.heap.size w1 wx → JobsAt wx S A l from fun wx h => (ha.out.below (below_then hb0.out hb1) hS).below h (fun b hb => Nat.lt_of_lt_of_le (hS b hb) (below_then hb0.out hb1).size))
        clear hb1
        refine wp_region_facts 16 (by kernel_rfl) (by kernel_rfl) (by kernel_rfl) (fun us => #[.slice A l.length c, .int .i64 (k : Int), undef, undef, .pointer (some ⟨q, 0, none⟩), .bool false, .int .i64 (l.length : Int), us 7, .slice A l.length c, .bool true, .bool false, .bool false, .int .i64 (k : Int), .bool (decide ((k : Int) < 1)), .bool (decide ((k : Int) < 1)), .bool (decide ((k : Int) < 1)), .int .i64 (k : Int), .bool (decide (4 < (k : Int))), .bool (decide ((k : Int) < 1) || decide (4 < (k : Int))), undef, .slice A l.length c, .int .i64 (l.length : Int), us 22, us 23, us 24, us 25, us 26, us 27, us 28, us 29, us 30, us 31, us 32, us 33, us 34, us 35, us 36, undef, undef, undef, undef, undef, undef]) (fun _ => undef) (fun _ => 0) rfl (fun i => match i with | 0 => 22 | 1 => 23 | 2 => 24 | 3 => 25 | 4 => 26 | 5 => 27 | 6 => 28 | 7 => 29 | 8 => 30 | 9 => 31 | 10 => 32 | 11 => 33 | 12 => 34 | 13 => 35 | 14 => 36 | _ => 7) ?_ (fun i v f w' => match i with | 0 => v = .slice A l.length c | 1 => ∃ kv, JobsO w' f w.heap.size v l kv | 2 => v = .int .i64 (k : Int) | 3 => ∃ qd, v = .slice (some ⟨qd, 0, none⟩) k k ∧ Sl 35 1 w' f 2 w.heap.size (.slice (some ⟨qd, 0, none⟩) k k) k (fun _ => .slice none 0 0) ∧ f qd = 2 ∧ qd < w'.heap.size | 4 => v = .int .i64 (l.length : Int) | 5 => Sl 4 1 w' f 3 w.heap.size v l.length (gB (List.replicate l.length false)) | 6 => v = .int .i64 (l.length : Int) | 7 => Sl 4 1 w' f 4 w.heap.size v l.length (gB (List.replicate l.length false)) | 8 => v = .int .i64 (l.length : Int) | 9 => Sl 3 1 w' f 5 w.heap.size v l.length (gI (List.replicate l.length 0)) | 10 => v = .int .i64 (l.length : Int) | 11 => Sl 3 1 w' f 6 w.heap.size v l.length (gI (List.replicate l.length 0)) | 12 => v = .int .i64 (l.length : Int) | 13 => Sl 3 1 w' f 7 w.heap.size v l.length (gI (List.replicate l.length 0)) | 14 => ∃ u kv qd uR uN uF uM uV, v = .agg #[u, .slice (some ⟨qd, 0, none⟩) k k, uR, uN, uF, uM, uV] ∧ JobsO w' f w.heap.size u l kv ∧ Sl 35 1 w' f 2 w.heap.size (.slice (some ⟨qd, 0, none⟩) k k) k (fun _ => .slice none 0 0) ∧ Sl 4 1 w' f 3 w.heap.size uR l.length (gB (List.replicate l.length false)) ∧ Sl 4 1 w' f 4 w.heap.size uN l.length (gB (List.replicate l.length false)) ∧ Sl 3 1 w' f 5 w.heap.size uF l.length (gI (List.replicate l.length 0)) ∧ Sl 3 1 w' f 6 w.heap.size uM l.length (gI (List.replicate l.length 0)) ∧ Sl 3 1 w' f 7 w.heap.size uV l.length (gI (List.replicate l.length 0)) ∧ f qd = 2 ∧ qd < w'.heap.size | _ => ∃ q7, v = .pointer (some ⟨q7, 0, none⟩) ∧ Blk w' q7 28 #[.slice none 0 0, .slice none 0 0, .slice none 0 0, .slice none 0 0, .slice none 0 0, .slice none 0 0, .slice none 0 0] ∧ f q7 = 0 ∧ w1.heap.size ≤ q7) ?_ ?_ ?_
        · decide
        · intro i v f wx f2 wy hi hf hb h
          have hi2 : i = 0 ∨ i = 1 ∨ i = 2 ∨ i = 3 ∨ i = 4 ∨ i = 5 ∨ i = 6 ∨ i = 7 ∨ i = 8 ∨ i = 9 ∨ i = 10 ∨ i = 11 ∨ i = 12 ∨ i = 13 ∨ i = 14 ∨ i = 15 := by omega
          rcases hi2 with rfl | rfl | rfl | rfl | rfl | rfl | rfl | rfl | rfl | rfl | rfl | rfl | rfl | rfl | rfl | rfl
          · exact h
          · exact h.elim fun u hk => ⟨u, (hk.relab hf).next hb⟩
          · exact h
          · exact h.elim fun qd h => ⟨qd, h.1, (h.2.1.relab hf).next hb, (hf qd h.2.2.2).trans h.2.2.1, Nat.lt_of_lt_of_le h.2.2.2 hb.size⟩
          · exact h
          · exact (h.relab hf).next hb
          · exact h
          · exact (h.relab hf).next hb
          · exact h
          · exact (h.relab hf).next hb
          · exact h
          · exact (h.relab hf).next hb
          · exact h
          · exact (h.relab hf).next hb
          · exact h.elim fun u h => h.elim fun kv h => h.elim fun qd h => h.elim fun uR h => h.elim fun uN h => h.elim fun uF h => h.elim fun uM h => h.elim fun uV h => ⟨u, kv, qd, uR, uN, uF, uM, uV, h.1, (h.2.1.relab hf).next hb, (h.2.2.1.relab hf).next hb, (h.2.2.2.1.relab hf).next hb, (h.2.2.2.2.1.relab hf).next hb, (h.2.2.2.2.2.1.relab hf).next hb, (h.2.2.2.2.2.2.1.relab hf).next hb, (h.2.2.2.2.2.2.2.1.relab hf).next hb, (hf qd h.2.2.2.2.2.2.2.2.2).trans h.2.2.2.2.2.2.2.2.1, Nat.lt_of_lt_of_le h.2.2.2.2.2.2.2.2.2 hb.size⟩
          · exact h.elim fun q hq => ⟨q, hq.1, hq.2.1.below hb hq.2.1.lt, (hf q hq.2.1.lt).trans hq.2.2.1, hq.2.2.2⟩
        · intro i o hi ho us f wx hB hf hdep K hK
          have hi2 : i = 0 ∨ i = 1 ∨ i = 2 ∨ i = 3 ∨ i = 4 ∨ i = 5 ∨ i = 6 ∨ i = 7 ∨ i = 8 ∨ i = 9 ∨ i = 10 ∨ i = 11 ∨ i = 12 ∨ i = 13 ∨ i = 14 ∨ i = 15 := by omega
          rcases hi2 with rfl | rfl | rfl | rfl | rfl | rfl | rfl | rfl | rfl | rfl | rfl | rfl | rfl | rfl | rfl | rfl
          · simp only [List.getElem?_toArray, List.getElem?_cons_zero, Option.some.injEq] at ho
            subst ho
            refine step_value (a := ⟨_, []⟩) (w' := wx) (v := ?_) ?_ ?_ ?_
            rotate_left
            · rfl
            · try dsimp only
              skip
              first | (go_simp; done) | (go_simp; with_reducible rfl)
            · exact hK _ f wx (fun _ _ => rfl) (Below.refl _ _) (by rfl)
          · simp only [List.getElem?_toArray, List.getElem?_cons_zero, List.getElem?_cons_succ, Option.some.injEq] at ho
            subst ho
            have e0 : (us 22) = .slice A l.length c := hdep ⟨0, .data⟩ (by simp) (by rfl)
            refine step_call (a := ⟨_, []⟩) (g := 78) (args := #[.slice A l.length c]) ?_ ?_ (sjobs_any f A l c S wx hl2 hsz (hSx.out wx hB) (hJx.out wx hB)) ?_
            · rfl
            · try dsimp only
              simp only [e0]
              first | (go_simp; done) | (go_simp; with_reducible rfl)
            · rintro e wy ⟨v, f2, u, rfl, hJ, hb, hf2⟩
              exact ⟨v, rfl, hK v f2 wy hf2 hb ⟨u, hJ.base (hSz.out wx hB)⟩⟩
          · simp only [List.getElem?_toArray, List.getElem?_cons_zero, List.getElem?_cons_succ, Option.some.injEq] at ho
            subst ho
            refine step_value (a := ⟨_, []⟩) (w' := wx) (v := ?_) ?_ ?_ ?_
            rotate_left
            · rfl
            · try dsimp only
              skip
              first | (go_simp; done) | (go_simp; with_reducible rfl)
            · exact hK _ f wx (fun _ _ => rfl) (Below.refl _ _) (by rfl)
          · simp only [List.getElem?_toArray, List.getElem?_cons_zero, List.getElem?_cons_succ, Option.some.injEq] at ho
            subst ho
            have e2 : (us 24) = .int .i64 (k : Int) := hdep ⟨2, .data⟩ (by simp) (by rfl)
            have e2 : (us 24) = .int .i64 (k : Int) := hdep ⟨2, .data⟩ (by simp) (by rfl)
            have hmk := make_rows k (by have := hk4.out; omega) wx
            refine step_value (a := ⟨_, []⟩) (w' := wx.alloc (.cells (zrow #[.slice none 0 0] k) 35)) (v := .slice (some ⟨wx.heap.size, 0, none⟩) k k) ?_ ?_ ?_
            · rfl
            · try dsimp only
              simp only [e2]
              first | (go_simp; done) | (go_simp; with_reducible rfl)
            · exact hK _ (lab f wx.heap.size 2) _ (fun b hb => lab_old hb) (below1 _ _) ⟨_, rfl, Sl.rows0 (Blk.new wx _ _) (lab_at _ _ _) (hSz.out wx hB) (by have := hk4.out; omega), lab_at _ _ _, by simp⟩
          · simp only [List.getElem?_toArray, List.getElem?_cons_zero, List.getElem?_cons_succ, Option.some.injEq] at ho
            subst ho
            refine step_value (a := ⟨_, []⟩) (w' := wx) (v := ?_) ?_ ?_ ?_
            rotate_left
            · rfl
            · try dsimp only
              skip
              first | (go_simp; done) | (go_simp; with_reducible rfl)
            · exact hK _ f wx (fun _ _ => rfl) (Below.refl _ _) (by rfl)
          · simp only [List.getElem?_toArray, List.getElem?_cons_zero, List.getElem?_cons_succ, Option.some.injEq] at ho
            subst ho
            have e4 : (us 26) = .int .i64 (l.length : Int) := hdep ⟨4, .data⟩ (by simp) (by rfl)
            have e4 : (us 26) = .int .i64 (l.length : Int) := hdep ⟨4, .data⟩ (by simp) (by rfl)
            have hmk := make_flags l.length hl2 wx
            refine step_value (a := ⟨_, []⟩) (w' := wx.alloc (.cells (zrow #[.bool false] l.length) 4)) (v := .slice (some ⟨wx.heap.size, 0, none⟩) l.length l.length) ?_ ?_ ?_
            · rfl
            · try dsimp only
              simp only [e4]
              first | (go_simp; done) | (go_simp; with_reducible rfl)
            · exact hK _ (lab f wx.heap.size 3) _ (fun b hb => lab_old hb) (below1 _ _) (Sl.flags (Blk.new wx _ _) (lab_at _ _ _) (hSz.out wx hB) hl2)
          · simp only [List.getElem?_toArray, List.getElem?_cons_zero, List.getElem?_cons_succ, Option.some.injEq] at ho
            subst ho
            refine step_value (a := ⟨_, []⟩) (w' := wx) (v := ?_) ?_ ?_ ?_
            rotate_left
            · rfl
            · try dsimp only
              skip
              first | (go_simp; done) | (go_simp; with_reducible rfl)
            · exact hK _ f wx (fun _ _ => rfl) (Below.refl _ _) (by rfl)
          · simp only [List.getElem?_toArray, List.getElem?_cons_zero, List.getElem?_cons_succ, Option.some.injEq] at ho
            subst ho
            have e6 : (us 28) = .int .i64 (l.length : Int) := hdep ⟨6, .data⟩ (by simp) (by rfl)
            have e6 : (us 28) = .int .i64 (l.length : Int) := hdep ⟨6, .data⟩ (by simp) (by rfl)
            have hmk := make_flags l.length hl2 wx
            refine step_value (a := ⟨_, []⟩) (w' := wx.alloc (.cells (zrow #[.bool false] l.length) 4)) (v := .slice (some ⟨wx.heap.size, 0, none⟩) l.length l.length) ?_ ?_ ?_
            · rfl
            · try dsimp only
              simp only [e6]
              first | (go_simp; done) | (go_simp; with_reducible rfl)
            · exact hK _ (lab f wx.heap.size 4) _ (fun b hb => lab_old hb) (below1 _ _) (Sl.flags (Blk.new wx _ _) (lab_at _ _ _) (hSz.out wx hB) hl2)
          · simp only [List.getElem?_toArray, List.getElem?_cons_zero, List.getElem?_cons_succ, Option.some.injEq] at ho
            subst ho
            refine step_value (a := ⟨_, []⟩) (w' := wx) (v := ?_) ?_ ?_ ?_
            rotate_left
            · rfl
            · try dsimp only
              skip
              first | (go_simp; done) | (go_simp; with_reducible rfl)
            · exact hK _ f wx (fun _ _ => rfl) (Below.refl _ _) (by rfl)
          · simp only [List.getElem?_toArray, List.getElem?_cons_zero, List.getElem?_cons_succ, Option.some.injEq] at ho
            subst ho
            have e8 : (us 30) = .int .i64 (l.length : Int) := hdep ⟨8, .data⟩ (by simp) (by rfl)
            have e8 : (us 30) = .int .i64 (l.length : Int) := hdep ⟨8, .data⟩ (by simp) (by rfl)
            have hmk := make_ints l.length hl2 wx
            refine step_value (a := ⟨_, []⟩) (w' := wx.alloc (.cells (zrow #[.int .i64 0] l.length) 3)) (v := .slice (some ⟨wx.heap.size, 0, none⟩) l.length l.length) ?_ ?_ ?_
            · rfl
            · try dsimp only
              simp only [e8]
              first | (go_simp; done) | (go_simp; with_reducible rfl)
            · exact hK _ (lab f wx.heap.size 5) _ (fun b hb => lab_old hb) (below1 _ _) (Sl.zeros (Blk.new wx _ _) (lab_at _ _ _) (hSz.out wx hB) hl2)
          · simp only [List.getElem?_toArray, List.getElem?_cons_zero, List.getElem?_cons_succ, Option.some.injEq] at ho
            subst ho
            refine step_value (a := ⟨_, []⟩) (w' := wx) (v := ?_) ?_ ?_ ?_
            rotate_left
            · rfl
            · try dsimp only
              skip
              first | (go_simp; done) | (go_simp; with_reducible rfl)
            · exact hK _ f wx (fun _ _ => rfl) (Below.refl _ _) (by rfl)
          · simp only [List.getElem?_toArray, List.getElem?_cons_zero, List.getElem?_cons_succ, Option.some.injEq] at ho
            subst ho
            have e10 : (us 32) = .int .i64 (l.length : Int) := hdep ⟨10, .data⟩ (by simp) (by rfl)
            have e10 : (us 32) = .int .i64 (l.length : Int) := hdep ⟨10, .data⟩ (by simp) (by rfl)
            have hmk := make_ints l.length hl2 wx
            refine step_value (a := ⟨_, []⟩) (w' := wx.alloc (.cells (zrow #[.int .i64 0] l.length) 3)) (v := .slice (some ⟨wx.heap.size, 0, none⟩) l.length l.length) ?_ ?_ ?_
            · rfl
            · try dsimp only
              simp only [e10]
              first | (go_simp; done) | (go_simp; with_reducible rfl)
            · exact hK _ (lab f wx.heap.size 6) _ (fun b hb => lab_old hb) (below1 _ _) (Sl.zeros (Blk.new wx _ _) (lab_at _ _ _) (hSz.out wx hB) hl2)
          · simp only [List.getElem?_toArray, List.getElem?_cons_zero, List.getElem?_cons_succ, Option.some.injEq] at ho
            subst ho
            refine step_value (a := ⟨_, []⟩) (w' := wx) (v := ?_) ?_ ?_ ?_
            rotate_left
            · rfl
            · try dsimp only
              skip
              first | (go_simp; done) | (go_simp; with_reducible rfl)
            · exact hK _ f wx (fun _ _ => rfl) (Below.refl _ _) (by rfl)
          · simp only [List.getElem?_toArray, List.getElem?_cons_zero, List.getElem?_cons_succ, Option.some.injEq] at ho
            subst ho
            have e12 : (us 34) = .int .i64 (l.length : Int) := hdep ⟨12, .data⟩ (by simp) (by rfl)
            have e12 : (us 34) = .int .i64 (l.length : Int) := hdep ⟨12, .data⟩ (by simp) (by rfl)
            have hmk := make_ints l.length hl2 wx
            refine step_value (a := ⟨_, []⟩) (w' := wx.alloc (.cells (zrow #[.int .i64 0] l.length) 3)) (v := .slice (some ⟨wx.heap.size, 0, none⟩) l.length l.length) ?_ ?_ ?_
            · rfl
            · try dsimp only
              simp only [e12]
              first | (go_simp; done) | (go_simp; with_reducible rfl)
            · exact hK _ (lab f wx.heap.size 7) _ (fun b hb => lab_old hb) (below1 _ _) (Sl.zeros (Blk.new wx _ _) (lab_at _ _ _) (hSz.out wx hB) hl2)
          · simp only [List.getElem?_toArray, List.getElem?_cons_zero, List.getElem?_cons_succ, Option.some.injEq] at ho
            subst ho
            have e1 : ∃ kv, JobsO wx f w.heap.size (us 23) l kv := hdep ⟨1, .data⟩ (by simp) (by rfl)
            have e3 : ∃ qd, (us 25) = .slice (some ⟨qd, 0, none⟩) k k ∧ Sl 35 1 wx f 2 w.heap.size (.slice (some ⟨qd, 0, none⟩) k k) k (fun _ => .slice none 0 0) ∧ f qd = 2 ∧ qd < wx.heap.size := hdep ⟨3, .data⟩ (by simp) (by rfl)
            have e5 : Sl 4 1 wx f 3 w.heap.size (us 27) l.length (gB (List.replicate l.length false)) := hdep ⟨5, .data⟩ (by simp) (by rfl)
            have e7 : Sl 4 1 wx f 4 w.heap.size (us 29) l.length (gB (List.replicate l.length false)) := hdep ⟨7, .data⟩ (by simp) (by rfl)
            have e9 : Sl 3 1 wx f 5 w.heap.size (us 31) l.length (gI (List.replicate l.length 0)) := hdep ⟨9, .data⟩ (by simp) (by rfl)
            have e11 : Sl 3 1 wx f 6 w.heap.size (us 33) l.length (gI (List.replicate l.length 0)) := hdep ⟨11, .data⟩ (by simp) (by rfl)
            have e13 : Sl 3 1 wx f 7 w.heap.size (us 35) l.length (gI (List.replicate l.length 0)) := hdep ⟨13, .data⟩ (by simp) (by rfl)
            obtain ⟨kv, e1⟩ := e1
            obtain ⟨Au, cu, hu⟩ := e1.form
            rw [hu] at e1
            obtain ⟨qd, h3, h4, h5, h6⟩ := e3
            obtain ⟨AR, cR, huR⟩ := e5.form
            rw [huR] at e5
            obtain ⟨AN, cN, huN⟩ := e7.form
            rw [huN] at e7
            obtain ⟨AF, cF, huF⟩ := e9.form
            rw [huF] at e9
            obtain ⟨AM, cM, huM⟩ := e11.form
            rw [huM] at e11
            obtain ⟨AV, cV, huV⟩ := e13.form
            rw [huV] at e13
            refine step_value (a := ⟨_, []⟩) (w' := wx) (v := .agg #[.slice Au l.length cu, .slice (some ⟨qd, 0, none⟩) k k, .slice AR l.length cR, .slice AN l.length cN, .slice AF l.length cF, .slice AM l.length cM, .slice AV l.length cV]) ?_ ?_ ?_
            · rfl
            · try dsimp only
              simp only [hu, h3, huR, huN, huF, huM, huV]
              first | (go_simp; done) | (go_simp; with_reducible rfl)
            · exact hK _ f wx (fun _ _ => rfl) (Below.refl _ _) ⟨_, kv, qd, _, _, _, _, _, rfl, e1, h4, e5, e7, e9, e11, e13, h5, h6⟩
          · simp only [List.getElem?_toArray, List.getElem?_cons_zero, List.getElem?_cons_succ, Option.some.injEq] at ho
            subst ho
            refine step_value (a := ⟨_, []⟩) (w' := wx.alloc (.cells #[.slice none 0 0, .slice none 0 0, .slice none 0 0, .slice none 0 0, .slice none 0 0, .slice none 0 0, .slice none 0 0] 28)) (v := .pointer (some ⟨wx.heap.size, 0, none⟩)) ?_ ?_ ?_
            · rfl
            · try dsimp only
              first | (go_simp; done) | (go_simp; with_reducible rfl)
            · exact hK _ (lab f wx.heap.size 0) _ (fun b hb => lab_old hb) (below1 _ _) ⟨_, rfl, Blk.new wx _ _, lab_at _ _ _, hB.size⟩
        · intro us f wx hB hf F
          have e0 : (us 22) = .slice A l.length c := F 0 (by omega)
          have e1 : ∃ kv, JobsO wx f w.heap.size (us 23) l kv := F 1 (by omega)
          have e2 : (us 24) = .int .i64 (k : Int) := F 2 (by omega)
          have e3 : ∃ qd, (us 25) = .slice (some ⟨qd, 0, none⟩) k k ∧ Sl 35 1 wx f 2 w.heap.size (.slice (some ⟨qd, 0, none⟩) k k) k (fun _ => .slice none 0 0) ∧ f qd = 2 ∧ qd < wx.heap.size := F 3 (by omega)
          have e4 : (us 26) = .int .i64 (l.length : Int) := F 4 (by omega)
          have e5 : Sl 4 1 wx f 3 w.heap.size (us 27) l.length (gB (List.replicate l.length false)) := F 5 (by omega)
          have e6 : (us 28) = .int .i64 (l.length : Int) := F 6 (by omega)
          have e7 : Sl 4 1 wx f 4 w.heap.size (us 29) l.length (gB (List.replicate l.length false)) := F 7 (by omega)
          have e8 : (us 30) = .int .i64 (l.length : Int) := F 8 (by omega)
          have e9 : Sl 3 1 wx f 5 w.heap.size (us 31) l.length (gI (List.replicate l.length 0)) := F 9 (by omega)
          have e10 : (us 32) = .int .i64 (l.length : Int) := F 10 (by omega)
          have e11 : Sl 3 1 wx f 6 w.heap.size (us 33) l.length (gI (List.replicate l.length 0)) := F 11 (by omega)
          have e12 : (us 34) = .int .i64 (l.length : Int) := F 12 (by omega)
          have e13 : Sl 3 1 wx f 7 w.heap.size (us 35) l.length (gI (List.replicate l.length 0)) := F 13 (by omega)
          have e14 : ∃ u kv qd uR uN uF uM uV, (us 36) = .agg #[u, .slice (some ⟨qd, 0, none⟩) k k, uR, uN, uF, uM, uV] ∧ JobsO wx f w.heap.size u l kv ∧ Sl 35 1 wx f 2 w.heap.size (.slice (some ⟨qd, 0, none⟩) k k) k (fun _ => .slice none 0 0) ∧ Sl 4 1 wx f 3 w.heap.size uR l.length (gB (List.replicate l.length false)) ∧ Sl 4 1 wx f 4 w.heap.size uN l.length (gB (List.replicate l.length false)) ∧ Sl 3 1 wx f 5 w.heap.size uF l.length (gI (List.replicate l.length 0)) ∧ Sl 3 1 wx f 6 w.heap.size uM l.length (gI (List.replicate l.length 0)) ∧ Sl 3 1 wx f 7 w.heap.size uV l.length (gI (List.replicate l.length 0)) ∧ f qd = 2 ∧ qd < wx.heap.size := F 14 (by omega)
          have e15 : ∃ q7, (us 7) = .pointer (some ⟨q7, 0, none⟩) ∧ Blk wx q7 28 #[.slice none 0 0, .slice none 0 0, .slice none 0 0, .slice none 0 0, .slice none 0 0, .slice none 0 0, .slice none 0 0] ∧ f q7 = 0 ∧ w1.heap.size ≤ q7 := F 15 (by omega)
          clear F
          simp only [List.drop_succ_cons, List.drop_zero]
          generalize us 22 = y22 at *
          generalize us 23 = y23 at *
          generalize us 24 = y24 at *
          generalize us 25 = y25 at *
          generalize us 26 = y26 at *
          generalize us 27 = y27 at *
          generalize us 28 = y28 at *
          generalize us 29 = y29 at *
          generalize us 30 = y30 at *
          generalize us 31 = y31 at *
          generalize us 32 = y32 at *
          generalize us 33 = y33 at *
          generalize us 34 = y34 at *
          generalize us 35 = y35 at *
          generalize us 36 = y36 at *
          generalize us 7 = y7 at *
          obtain ⟨u, kv, qd, uR, uN, uF, uM, uV, h23, hJu, hD, hSR, hSN, hSF, hSM, hSV, hqd, hqdl⟩ := e14
          subst h23
          obtain ⟨q7, h24, h7, h70, h7W⟩ := e15
          subst h24
          clear e0 e1 e2 e3 e4 e5 e6 e7 e8 e9 e10 e11 e12 e13
          obtain ⟨Au, cu, hu⟩ := hJu.form
          subst hu
          obtain ⟨AR, cR, hu⟩ := hSR.form
          subst hu
          obtain ⟨AN, cN, hu⟩ := hSN.form
          subst hu
          obtain ⟨AF, cF, hu⟩ := hSF.form
          subst hu
          obtain ⟨AM, cM, hu⟩ := hSM.form
          subst hu
          obtain ⟨AV, cV, hu⟩ := hSV.form
          subst hu
          have hql : q < w1.heap.size := hRl.out
          have hq7 : q < q7 := by omega
          have hw7 : w.heap.size ≤ q7 := Nat.le_trans hbw1.out.size h7W
          obtain ⟨z0, z1, z2, z3, z4, z5, z6⟩ := froz7 h7
          obtain ⟨⟨r0, r1, r2, r3, r4, r5, r6⟩, rl⟩ := box7 h7
          obtain ⟨w2, hw2⟩ : ∃ w2, w2 = (((((((wx.setCell ⟨q7, 0, none⟩ (.slice Au l.length cu)).setCell ⟨q7, 1, none⟩ (.slice (some ⟨qd, 0, none⟩) k k)).setCell ⟨q7, 2, none⟩ (.slice AR l.length cR)).setCell ⟨q7, 3, none⟩ (.slice AN l.length cN)).setCell ⟨q7, 4, none⟩ (.slice AF l.length cF)).setCell ⟨q7, 5, none⟩ (.slice AM l.length cM)).setCell ⟨q7, 6, none⟩ (.slice AV l.length cV)) := ⟨_, rfl⟩
          have hs2 : w2.heap.size = wx.heap.size := by rw [hw2]; simp
          have hQ2 := hide (show Blk w2 q7 28 #[.slice Au l.length cu, .slice (some ⟨qd, 0, none⟩) k k, .slice AR l.length cR, .slice AN l.length cN, .slice AF l.length cF, .slice AM l.length cM, .slice AV l.length cV] from by rw [hw2]; exact (((((((h7.set_ 0 (.slice Au l.length cu)).set_ 1 (.slice (some ⟨qd, 0, none⟩) k k)).set_ 2 (.slice AR l.length cR)).set_ 3 (.slice AN l.length cN)).set_ 4 (.slice AF l.length cF)).set_ 5 (.slice AM l.length cM)).set_ 6 (.slice AV l.length cV)))
          have hR2 := hide (show Blk w2 q 28 #[.slice none 0 0, .slice none 0 0, .slice none 0 0, .slice none 0 0, .slice none 0 0, .slice none 0 0, .slice none 0 0] from by rw [hw2]; exact ((((((((hRx.out wx hB).far (p := ⟨q7, 0, none⟩) (by show q ≠ q7; omega) (.slice Au l.length cu)).far (p := ⟨q7, 1, none⟩) (by show q ≠ q7; omega) (.slice (some ⟨qd, 0, none⟩) k k)).far (p := ⟨q7, 2, none⟩) (by show q ≠ q7; omega) (.slice AR l.length cR)).far (p := ⟨q7, 3, none⟩) (by show q ≠ q7; omega) (.slice AN l.length cN)).far (p := ⟨q7, 4, none⟩) (by show q ≠ q7; omega) (.slice AF l.length cF)).far (p := ⟨q7, 5, none⟩) (by show q ≠ q7; omega) (.slice AM l.length cM)).far (p := ⟨q7, 6, none⟩) (by show q ≠ q7; omega) (.slice AV l.length cV)))
          have hb2 := hide (show Below w.heap.size w w2 from by rw [hw2]; exact (Below.setCell (Below.setCell (Below.setCell (Below.setCell (Below.setCell (Below.setCell (Below.setCell (below_then hbw1.out hB) (p := ⟨q7, 0, none⟩) hw7 (.slice Au l.length cu)) (p := ⟨q7, 1, none⟩) hw7 (.slice (some ⟨qd, 0, none⟩) k k)) (p := ⟨q7, 2, none⟩) hw7 (.slice AR l.length cR)) (p := ⟨q7, 3, none⟩) hw7 (.slice AN l.length cN)) (p := ⟨q7, 4, none⟩) hw7 (.slice AF l.length cF)) (p := ⟨q7, 5, none⟩) hw7 (.slice AM l.length cM)) (p := ⟨q7, 6, none⟩) hw7 (.slice AV l.length cV)))
          have hJ2 := hide (show JobsO w2 f w.heap.size (.slice Au l.length cu) l kv from by rw [hw2]; exact (((((((hJu.set0 (p := ⟨q7, 0, none⟩) h70 (.slice Au l.length cu)).set0 (p := ⟨q7, 1, none⟩) h70 (.slice (some ⟨qd, 0, none⟩) k k)).set0 (p := ⟨q7, 2, none⟩) h70 (.slice AR l.length cR)).set0 (p := ⟨q7, 3, none⟩) h70 (.slice AN l.length cN)).set0 (p := ⟨q7, 4, none⟩) h70 (.slice AF l.length cF)).set0 (p := ⟨q7, 5, none⟩) h70 (.slice AM l.length cM)).set0 (p := ⟨q7, 6, none⟩) h70 (.slice AV l.length cV)))
          have hD2 := hide (show Sl 35 1 w2 f 2 w.heap.size (.slice (some ⟨qd, 0, none⟩) k k) k (fun _ => .slice none 0 0) from by rw [hw2]; exact (((((((hD.set0 (by omega) (p := ⟨q7, 0, none⟩) h70 (.slice Au l.length cu)).set0 (by omega) (p := ⟨q7, 1, none⟩) h70 (.slice (some ⟨qd, 0, none⟩) k k)).set0 (by omega) (p := ⟨q7, 2, none⟩) h70 (.slice AR l.length cR)).set0 (by omega) (p := ⟨q7, 3, none⟩) h70 (.slice AN l.length cN)).set0 (by omega) (p := ⟨q7, 4, none⟩) h70 (.slice AF l.length cF)).set0 (by omega) (p := ⟨q7, 5, none⟩) h70 (.slice AM l.length cM)).set0 (by omega) (p := ⟨q7, 6, none⟩) h70 (.slice AV l.length cV)))
          have hSR2 := hide (show Sl 4 1 w2 f 3 w.heap.size (.slice AR l.length cR) l.length (gB (List.replicate l.length false)) from by rw [hw2]; exact (((((((hSR.set0 (by omega) (p := ⟨q7, 0, none⟩) h70 (.slice Au l.length cu)).set0 (by omega) (p := ⟨q7, 1, none⟩) h70 (.slice (some ⟨qd, 0, none⟩) k k)).set0 (by omega) (p := ⟨q7, 2, none⟩) h70 (.slice AR l.length cR)).set0 (by omega) (p := ⟨q7, 3, none⟩) h70 (.slice AN l.length cN)).set0 (by omega) (p := ⟨q7, 4, none⟩) h70 (.slice AF l.length cF)).set0 (by omega) (p := ⟨q7, 5, none⟩) h70 (.slice AM l.length cM)).set0 (by omega) (p := ⟨q7, 6, none⟩) h70 (.slice AV l.length cV)))
          have hSN2 := hide (show Sl 4 1 w2 f 4 w.heap.size (.slice AN l.length cN) l.length (gB (List.replicate l.length false)) from by rw [hw2]; exact (((((((hSN.set0 (by omega) (p := ⟨q7, 0, none⟩) h70 (.slice Au l.length cu)).set0 (by omega) (p := ⟨q7, 1, none⟩) h70 (.slice (some ⟨qd, 0, none⟩) k k)).set0 (by omega) (p := ⟨q7, 2, none⟩) h70 (.slice AR l.length cR)).set0 (by omega) (p := ⟨q7, 3, none⟩) h70 (.slice AN l.length cN)).set0 (by omega) (p := ⟨q7, 4, none⟩) h70 (.slice AF l.length cF)).set0 (by omega) (p := ⟨q7, 5, none⟩) h70 (.slice AM l.length cM)).set0 (by omega) (p := ⟨q7, 6, none⟩) h70 (.slice AV l.length cV)))
          have hSF2 := hide (show Sl 3 1 w2 f 5 w.heap.size (.slice AF l.length cF) l.length (gI (List.replicate l.length 0)) from by rw [hw2]; exact (((((((hSF.set0 (by omega) (p := ⟨q7, 0, none⟩) h70 (.slice Au l.length cu)).set0 (by omega) (p := ⟨q7, 1, none⟩) h70 (.slice (some ⟨qd, 0, none⟩) k k)).set0 (by omega) (p := ⟨q7, 2, none⟩) h70 (.slice AR l.length cR)).set0 (by omega) (p := ⟨q7, 3, none⟩) h70 (.slice AN l.length cN)).set0 (by omega) (p := ⟨q7, 4, none⟩) h70 (.slice AF l.length cF)).set0 (by omega) (p := ⟨q7, 5, none⟩) h70 (.slice AM l.length cM)).set0 (by omega) (p := ⟨q7, 6, none⟩) h70 (.slice AV l.length cV)))
          have hSM2 := hide (show Sl 3 1 w2 f 6 w.heap.size (.slice AM l.length cM) l.length (gI (List.replicate l.length 0)) from by rw [hw2]; exact (((((((hSM.set0 (by omega) (p := ⟨q7, 0, none⟩) h70 (.slice Au l.length cu)).set0 (by omega) (p := ⟨q7, 1, none⟩) h70 (.slice (some ⟨qd, 0, none⟩) k k)).set0 (by omega) (p := ⟨q7, 2, none⟩) h70 (.slice AR l.length cR)).set0 (by omega) (p := ⟨q7, 3, none⟩) h70 (.slice AN l.length cN)).set0 (by omega) (p := ⟨q7, 4, none⟩) h70 (.slice AF l.length cF)).set0 (by omega) (p := ⟨q7, 5, none⟩) h70 (.slice AM l.length cM)).set0 (by omega) (p := ⟨q7, 6, none⟩) h70 (.slice AV l.length cV)))
          have hSV2 := hide (show Sl 3 1 w2 f 7 w.heap.size (.slice AV l.length cV) l.length (gI (List.replicate l.length 0)) from by rw [hw2]; exact (((((((hSV.set0 (by omega) (p := ⟨q7, 0, none⟩) h70 (.slice Au l.length cu)).set0 (by omega) (p := ⟨q7, 1, none⟩) h70 (.slice (some ⟨qd, 0, none⟩) k k)).set0 (by omega) (p := ⟨q7, 2, none⟩) h70 (.slice AR l.length cR)).set0 (by omega) (p := ⟨q7, 3, none⟩) h70 (.slice AN l.length cN)).set0 (by omega) (p := ⟨q7, 4, none⟩) h70 (.slice AF l.length cF)).set0 (by omega) (p := ⟨q7, 5, none⟩) h70 (.slice AM l.length cM)).set0 (by omega) (p := ⟨q7, 6, none⟩) h70 (.slice AV l.length cV)))
          have hf2 := hide (show f q = 0 ∧ f q7 = 0 ∧ f qd = 2 ∧ qd < w2.heap.size from ⟨hf q hql, h70, hqd, by omega⟩)
          clear hJu hD hSR hSN hSF hSM hSV hqd hqdl h7 h7W h70 hB hf hRx hJx hSz hSx hs2
          go_upto_region 5 with fail
          rw [← hw2]
          clear hw2 z0 z1 z2 z3 z4 z5 z6 r0 r1 r2 r3 r4 r5 r6 rl
          obtain ⟨⟨r0, r1, r2, r3, r4, r5, r6⟩, rl⟩ := box7 hQ2.out
          obtain ⟨qd2, od2, cd2, ed2, -, hqdW, -, hdc⟩ := hD2.out.at_ (k := 0) (by have := hk4.out; omega)
          cases ed2
          have g0 := (hdc 0 (by have := hk4.out; omega)).1
          have z0 := (hdc 0 (by have := hk4.out; omega)).2
          rw [Nat.add_zero] at g0 z0
          clear hdc
          obtain ⟨w3, hw3⟩ : ∃ w3, w3 = (w2.setCell ⟨qd, 0, none⟩ (.slice (some ⟨w2.heap.size, 0, none⟩) 1 1)).alloc (.cells #[.int .i64 0] 3) := ⟨_, rfl⟩
          have hqdl := hf2.out.2.2.2
          have g1 := (World.cell?_alloc_lt w2 (.cells #[.int .i64 0] 3) ⟨qd, 0, none⟩ hqdl).trans g0
          have z1 := (World.frozen?_alloc_old w2 (.cells #[.int .i64 0] 3) ⟨qd, 0, none⟩ (by show qd ≠ w2.heap.size; omega)).trans z0
          have hkp : (0 : Int) < k := by have := hk4.out; omega
          have hne : q7 ≠ qd ∧ q ≠ qd := ⟨fun e => by have := hf2.out; rw [e] at this; omega, fun e => by have := hf2.out; rw [e] at this; omega⟩
          have hRO := (show RowsO w3 (lab f w2.heap.size 9) w.heap.size (.slice (some ⟨qd, 0, none⟩) k k) ([0] :: List.replicate (k - 1) []) (updV (fun _ => .slice none 0 0) 0 (.slice (some ⟨w2.heap.size, 0, none⟩) 1 1)) from by rw [hw3]; exact RowsO.first hD2.out hk4.out.1 hb2.out.size)
          have hL3 : Lab f 2 w.heap.size w2 w3 := by rw [hw3]; exact (Lab.set_ (p := ⟨qd, 0, none⟩) ⟨hf2.out.2.2.1, hqdW⟩ _).alloc _
          have hJ3 := (show JobsO w3 (lab f w2.heap.size 9) w.heap.size (.slice Au l.length cu) l kv from (hJ2.out.relab (f' := lab f w2.heap.size 9) (fun b hb => lab_old hb)).keep (fun b hb _ hl => hL3.block b hl (fun e => by rw [lab_old hl] at hb; omega)))
          have hk3 : ∀ {t : TypeId} {n m : Nat} {v : Value} {g : Nat → Value}, m ≠ 2 → Sl t 1 w2 f m w.heap.size v n g → Sl t 1 w3 (lab f w2.heap.size 9) m w.heap.size v n g := fun hm h => (h.relab (f' := lab f w2.heap.size 9) (fun b hb => lab_old hb)).keep (fun b hb _ hl => hL3.block b hl (fun e => by rw [lab_old hl] at hb; omega))
          have hQ3 := (show Blk w3 q7 28 #[.slice Au l.length cu, .slice (some ⟨qd, 0, none⟩) k k, .slice AR l.length cR, .slice AN l.length cN, .slice AF l.length cF, .slice AM l.length cM, .slice AV l.length cV] from by rw [hw3]; exact (hQ2.out.far (p := ⟨qd, 0, none⟩) hne.1 _).alloc _)
          have hR3 := (show Blk w3 q 28 #[.slice none 0 0, .slice none 0 0, .slice none 0 0, .slice none 0 0, .slice none 0 0, .slice none 0 0, .slice none 0 0] from by rw [hw3]; exact (hR2.out.far (p := ⟨qd, 0, none⟩) hne.2 _).alloc _)
          have hb3 := hide (hb2.out.trans (hL3.below hb2.out.size))
          have hf3 := hide (show lab f w2.heap.size 9 q = 0 from (lab_old hR2.out.lt).trans hf2.out.1)
          have hEnd := hide (show ∀ W, (∀ b, lab f w2.heap.size 9 b ≠ 0 → W.heap[b]? = w3.heap[b]?) → PoolO W (lab f w2.heap.size 9) w.heap.size ⟨.slice Au l.length cu, .slice (some ⟨qd, 0, none⟩) k k, .slice AR l.length cR, .slice AN l.length cN, .slice AF l.length cF, .slice AM l.length cM, .slice AV l.length cV, kv, _⟩ (newP l k) from fun W hW => by
            refine PoolO.keep (w := w3) (x := ⟨.slice Au l.length cu, .slice (some ⟨qd, 0, none⟩) k k, .slice AR l.length cR, .slice AN l.length cN, .slice AF l.length cF, .slice AM l.length cM, .slice AV l.length cV, kv, _⟩) ?_ (fun b hb _ _ => hW b hb)
            have h1 := hk3 (by omega) hSR2.out; have h2 := hk3 (by omega) hSN2.out; have h3 := hk3 (by omega) hSF2.out; have h4 := hk3 (by omega) hSM2.out; have h5 := hk3 (by omega) hSV2.out
            exact ⟨hJ3, hRO, by simpa [newP] using h1, by simpa [newP] using h2, by simpa [newP] using h3, by simpa [newP] using h4, by simpa [newP] using h5⟩)
          obtain ⟨⟨x0, x1, x2, x3, x4, x5, x6⟩, xl⟩ := box7 hQ3
          obtain ⟨⟨u0, u1, u2, u3, u4, u5, u6⟩, ul⟩ := box7 hR3
          obtain ⟨v0, v1, v2, v3, v4, v5, v6⟩ := froz7 hR3
          generalize lab f w2.heap.size 9 = f3 at *
          clear hL3 hJ2 hQ2 hR2 hb2 hf2 hne hqdW hRO hJ3 hk3 hQ3 hR3 hSR2 hSN2 hSF2 hSM2 hSV2 hD2
          go_upto_region 6 with fail
          rw [← hw3]
          clear hw3 g0 z0 g1 z1 hqdl r0 r1 r2 r3 r4 r5 r6 rl
          go_wp2_with fail
          refine bodyPost_ret (v := .tuple #[.agg #[.slice Au l.length cu, .slice (some ⟨qd, 0, none⟩) k k, .slice AR l.length cR, .slice AN l.length cN, .slice AF l.length cF, .slice AM l.length cM, .slice AV l.length cV], .bool true]) (by simp [results, Try.results38, go_sem, u0, u1, u2, u3, u4, u5, u6]; done) rfl ?_
          rw [hE.out]
          refine ⟨⟨.slice Au l.length cu, .slice (some ⟨qd, 0, none⟩) k k, .slice AR l.length cR, .slice AN l.length cN, .slice AF l.length cF, .slice AM l.length cM, .slice AV l.length cV, kv, _⟩, rfl, ⟨f3, hEnd.out _ (fun b hb => ?_)⟩, ?_⟩
          · iterate 7 (refine (Below.heap_setCell _ _ _ _ (fun e => hb (by rw [e]; exact hf3.out))).trans ?_)
            rfl
          · iterate 7 (refine Below.setCell ?_ (by show w.heap.size ≤ q; rw [hq.out]; exact Nat.le_refl _) _)
            exact hb3.out
end Go.Proofs.Ytmhldlpjiepmpaa
