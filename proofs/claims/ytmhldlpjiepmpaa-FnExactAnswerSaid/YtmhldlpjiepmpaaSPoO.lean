/- spec.PoolOk, spec.Answer. -/
import Derived.Test.YtmhldlpjiepmpaaSSum9
import Derived.Test.YtmhldlpjiepmpaaCrl
import Derived.Test.YtmhldlpjiepmpaaJbS
namespace Go.Proofs.Ytmhldlpjiepmpaa
open Go.RowKit

set_option maxHeartbeats 6400000 in
theorem spoolOk_any (a : PA) (p : PoolD) (S : Nat → Prop) (w : World) (hsz : Hid (∀ k, (getj p.js k).ks.length ≤ 1048576)) (hzQ : Hid (sizeQ p.dq ≤ 1048576)) (hS : ∀ b, S b → b < w.heap.size) (ha : PoolAt w S a p) :
    Calls Try.prog 26 #[.agg (a.cells p)] w fun e w' => e = .returned (.bool (poolB p)) ∧ Below w.heap.size w w' := by
  unfold PA.cells
  obtain ⟨res, hres⟩ : ∃ res, res = poolB p := ⟨_, rfl⟩
  rw [← hres]
  replace hres := hide hres
  have hb0 := below1 w (Obj.cells #[.slice a.A0 p.js.length a.c0, .slice a.A1 p.dq.length a.c1, .slice a.A2 p.ran.length a.c2, .slice a.A3 p.dn.length a.c3, .slice a.A4 p.lf.length a.c4, .slice a.A5 p.sm.length a.c5, .slice a.A6 p.vl.length a.c6] 28)
  have X0 := Blk.new w 28 #[.slice a.A0 p.js.length a.c0, .slice a.A1 p.dq.length a.c1, .slice a.A2 p.ran.length a.c2, .slice a.A3 p.dn.length a.c3, .slice a.A4 p.lf.length a.c4, .slice a.A5 p.sm.length a.c5, .slice a.A6 p.vl.length a.c6]
  obtain ⟨w0, hw0⟩ : ∃ w0, w0 = w.alloc (Obj.cells #[.slice a.A0 p.js.length a.c0, .slice a.A1 p.dq.length a.c1, .slice a.A2 p.ran.length a.c2, .slice a.A3 p.dn.length a.c3, .slice a.A4 p.lf.length a.c4, .slice a.A5 p.sm.length a.c5, .slice a.A6 p.vl.length a.c6] 28) := ⟨_, rfl⟩
  rw [← hw0] at hb0 X0
  have ha0 := ha.below hb0 hS
  have hS0 : ∀ b, S b → b < w0.heap.size := fun b h => Nat.lt_of_lt_of_le (hS b h) hb0.size
  have kJ := hide (sjobsOk_any a.A0 p.js a.c0 S w0 hsz.out hS0 ha0.jobs)
  obtain ⟨⟨x0, -, -, -, -, -, -⟩, xl⟩ := box7 X0
  obtain ⟨q, hq⟩ : ∃ q, q = w.heap.size := ⟨_, rfl⟩
  rw [← hq] at X0 x0 xl
  replace X0 := hide X0
  replace ha0 := hide ha0
  replace hb0 := hide hb0
  clear ha
  go_enter Try.func26, Try.ntmps26
  go_upto_region 1 with fail
  rw [← hw0, ← hq]
  clear hw0
  replace hq := hide hq
  cases hj : jobsB p.js
  · rw [hj] at kJ
    have hE := hide (show res = false from by rw [hres.out]; unfold poolB; rw [hj]; rfl)
    go_wp2_with (go_at_call 34; refine kJ.out.mono ?_; rintro e w1 ⟨rfl, hb⟩)
    go_ret
    exact ⟨ret_bool hE.out.symm, below_next hb0.out hb hb0.out.size⟩
  · rw [hj] at kJ
    have hT := hide (jobsB_tree hj)
    have kL := hide (fun w1 (hb : Below w0.heap.size w0 w1) (hlr : p.ran.length = p.js.length) => srows_any a p S w1 hT hlr hsz.out hzQ.out (fun b h => Nat.lt_of_lt_of_le (hS0 b h) hb.size) (ha0.out.below hb hS0))
    have kM := hide (fun w1 (hb : Below w0.heap.size w0 w1) (hl : Hid (p.ran.length = p.js.length ∧ p.dn.length = p.js.length ∧ p.lf.length = p.js.length ∧ p.sm.length = p.js.length ∧ p.vl.length = p.js.length)) => ssums_any a p S w1 hT hl hsz (fun b h => Nat.lt_of_lt_of_le (hS0 b h) hb.size) (ha0.out.below hb hS0))
    by_cases hd1 : (p.dq.length : Int) < 1
    · have hW : workB p.dq.length = false := by unfold workB; first | rw [decide_eq_false (by omega), Bool.false_and] | rw [decide_eq_false (by omega : ¬ ((p.dq.length : Int) ≤ 4)), Bool.and_false]
      have hE := hide (show res = false from by rw [hres.out]; unfold poolB; rw [hW]; simp)
      clear hW
      go_wp2_with (go_at_call 34; refine kJ.out.mono ?_; rintro e w1 ⟨rfl, hb⟩; obtain ⟨⟨y0, y1, y2, y3, y4, y5, y6⟩, yl⟩ := box7 (X0.out.below hb xl))
      go_ret
      exact ⟨ret_bool hE.out.symm, below_next hb0.out hb hb0.out.size⟩
    · have hWhd1 := hide hd1
      by_cases hd2 : (p.dq.length : Int) > 4
      · have hW : workB p.dq.length = false := by unfold workB; first | rw [decide_eq_false (by omega), Bool.false_and] | rw [decide_eq_false (by omega : ¬ ((p.dq.length : Int) ≤ 4)), Bool.and_false]
        have hE := hide (show res = false from by rw [hres.out]; unfold poolB; rw [hW]; simp)
        clear hW
        go_wp2_with (go_at_call 34; refine kJ.out.mono ?_; rintro e w1 ⟨rfl, hb⟩; obtain ⟨⟨y0, y1, y2, y3, y4, y5, y6⟩, yl⟩ := box7 (X0.out.below hb xl))
        go_ret
        exact ⟨ret_bool hE.out.symm, below_next hb0.out hb hb0.out.size⟩
      · have hWhd2 := hide hd2
        have hW : workB p.dq.length = true := by unfold workB; rw [decide_eq_true (by omega), decide_eq_true (by omega)]; rfl
        by_cases c0 : p.ran.length = p.js.length
        · have n0 := bneL c0
          by_cases c1 : p.dn.length = p.js.length
          · have n1 := bneL c1
            by_cases c2 : p.lf.length = p.js.length
            · have n2 := bneL c2
              by_cases c3 : p.sm.length = p.js.length
              · have n3 := bneL c3
                by_cases c4 : p.vl.length = p.js.length
                · have n4 := bneL c4
                  have hlr := c0
                  have hL := lensB_yes c0 c1 c2 c3 c4
                  have hll := hide (⟨c0, c1, c2, c3, c4⟩ : p.ran.length = p.js.length ∧ p.dn.length = p.js.length ∧ p.lf.length = p.js.length ∧ p.sm.length = p.js.length ∧ p.vl.length = p.js.length)
                  clear c0 c1 c2 c3 c4
                  have hE := hide (show res = (innB p && allB (rowB p) p.js.length && allB (accB p) p.js.length) from by rw [hres.out]; unfold poolB; rw [hj, hW, hL]; simp [Bool.and_assoc])
                  replace hlr := hide hlr
                  cases hr : innB p && allB (rowB p) p.js.length
                  · rw [hr] at kL hE
                    go_wp2_with (first
                      | (go_at_call 34; refine kJ.out.mono ?_; rintro e w1 ⟨rfl, hb⟩; obtain ⟨⟨y0, y1, y2, y3, y4, y5, y6⟩, yl⟩ := box7 (X0.out.below hb xl))
                      | (go_at_call 68; refine (kL.out w1 hb hlr.out).mono ?_; rintro e w2 ⟨rfl, hb2⟩))
                    go_ret
                    exact ⟨ret_bool (by rw [hE.out, Bool.false_and]), below_next hb0.out (below_next hb hb2 hb.size) hb0.out.size⟩
                  · rw [hr] at kL hE
                    go_wp2_with (first
                      | (go_at_call 34; refine kJ.out.mono ?_; rintro e w1 ⟨rfl, hb⟩; obtain ⟨⟨y0, y1, y2, y3, y4, y5, y6⟩, yl⟩ := box7 (X0.out.below hb xl))
                      | (go_at_call 68; refine (kL.out w1 hb hlr.out).mono ?_; rintro e w2 ⟨rfl, hb2⟩; replace hb2 := below_next hb hb2 hb.size; obtain ⟨⟨y0, y1, y2, y3, y4, y5, y6⟩, yl⟩ := box7 (X0.out.below hb2 xl))
                      | (go_at_call 69; refine (kM.out w2 hb2 hll).mono ?_; rintro e w3 ⟨rfl, hb3⟩))
                    go_ret
                    exact ⟨ret_bool (by rw [hE.out, Bool.true_and]), below_next hb0.out (below_next hb2 hb3 hb2.size) hb0.out.size⟩
                · have n4 := bneL' c4
                  have hL := lensB_no (p := p) (.inr (.inr (.inr (.inr (c4)))))
                  have hE := hide (show res = false from by rw [hres.out]; unfold poolB; rw [hL]; simp)
                  clear hL c0 c1 c2 c3 c4
                  go_wp2_with (go_at_call 34; refine kJ.out.mono ?_; rintro e w1 ⟨rfl, hb⟩; obtain ⟨⟨y0, y1, y2, y3, y4, y5, y6⟩, yl⟩ := box7 (X0.out.below hb xl))
                  go_ret
                  exact ⟨ret_bool hE.out.symm, below_next hb0.out hb hb0.out.size⟩
              · have n3 := bneL' c3
                have hL := lensB_no (p := p) (.inr (.inr (.inr (.inl c3))))
                have hE := hide (show res = false from by rw [hres.out]; unfold poolB; rw [hL]; simp)
                clear hL c0 c1 c2 c3
                go_wp2_with (go_at_call 34; refine kJ.out.mono ?_; rintro e w1 ⟨rfl, hb⟩; obtain ⟨⟨y0, y1, y2, y3, y4, y5, y6⟩, yl⟩ := box7 (X0.out.below hb xl))
                go_ret
                exact ⟨ret_bool hE.out.symm, below_next hb0.out hb hb0.out.size⟩
            · have n2 := bneL' c2
              have hL := lensB_no (p := p) (.inr (.inr (.inl c2)))
              have hE := hide (show res = false from by rw [hres.out]; unfold poolB; rw [hL]; simp)
              clear hL c0 c1 c2
              go_wp2_with (go_at_call 34; refine kJ.out.mono ?_; rintro e w1 ⟨rfl, hb⟩; obtain ⟨⟨y0, y1, y2, y3, y4, y5, y6⟩, yl⟩ := box7 (X0.out.below hb xl))
              go_ret
              exact ⟨ret_bool hE.out.symm, below_next hb0.out hb hb0.out.size⟩
          · have n1 := bneL' c1
            have hL := lensB_no (p := p) (.inr (.inl c1))
            have hE := hide (show res = false from by rw [hres.out]; unfold poolB; rw [hL]; simp)
            clear hL c0 c1
            go_wp2_with (go_at_call 34; refine kJ.out.mono ?_; rintro e w1 ⟨rfl, hb⟩; obtain ⟨⟨y0, y1, y2, y3, y4, y5, y6⟩, yl⟩ := box7 (X0.out.below hb xl))
            go_ret
            exact ⟨ret_bool hE.out.symm, below_next hb0.out hb hb0.out.size⟩
        · have n0 := bneL' c0
          have hL := lensB_no (p := p) (.inl c0)
          have hE := hide (show res = false from by rw [hres.out]; unfold poolB; rw [hL]; simp)
          clear hL c0
          go_wp2_with (go_at_call 34; refine kJ.out.mono ?_; rintro e w1 ⟨rfl, hb⟩; obtain ⟨⟨y0, y1, y2, y3, y4, y5, y6⟩, yl⟩ := box7 (X0.out.below hb xl))
          go_ret
          exact ⟨ret_bool hE.out.symm, below_next hb0.out hb hb0.out.size⟩
end Go.Proofs.Ytmhldlpjiepmpaa
