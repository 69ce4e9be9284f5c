/- The program's PoolOk. -/
import Derived.Test.YtmhldlpjiepmpaaCrj
namespace Go.Proofs.Ytmhldlpjiepmpaa
open Go.RowKit

set_option maxHeartbeats 6400000 in
theorem poolOk_any (a : PA) (p : PoolD) (S : Nat → Prop) (w : World) (hsz : Hid (∀ k, (getj p.js k).ks.length ≤ 1048576)) (hzQ : Hid (sizeQ p.dq ≤ 1048576)) (hS : ∀ b, S b → b < w.heap.size) (ha : PoolAt w S a p) :
    Calls Try.prog 20 #[.agg (a.cells p)] w fun e w' => e = .returned (.bool (poolB p)) ∧ Below w.heap.size w w' := by
  unfold PA.cells
  obtain ⟨res, hres⟩ : ∃ res, res = poolB p := ⟨_, rfl⟩
  rw [← hres]
  replace hres := hide hres
  have hb0 := below1 w (Obj.cells #[.slice a.A0 p.js.length a.c0, .slice a.A1 p.dq.length a.c1, .slice a.A2 p.ran.length a.c2, .slice a.A3 p.dn.length a.c3, .slice a.A4 p.lf.length a.c4, .slice a.A5 p.sm.length a.c5, .slice a.A6 p.vl.length a.c6] 28)
  have X0 := Blk.new w 28 #[.slice a.A0 p.js.length a.c0, .slice a.A1 p.dq.length a.c1, .slice a.A2 p.ran.length a.c2, .slice a.A3 p.dn.length a.c3, .slice a.A4 p.lf.length a.c4, .slice a.A5 p.sm.length a.c5, .slice a.A6 p.vl.length a.c6]
  obtain ⟨w0, hw0⟩ : ∃ w0, w0 = w.alloc (Obj.cells #[.slice a.A0 p.js.length a.c0, .slice a.A1 p.dq.length a.c1, .slice a.A2 p.ran.length a.c2, .slice a.A3 p.dn.length a.c3, .slice a.A4 p.lf.length a.c4, .slice a.A5 p.sm.length a.c5, .slice a.A6 p.vl.length a.c6] 28) := ⟨_, rfl⟩
  rw [← hw0] at hb0 X0
  have ha0 := ha.below hb0 hS
  have hS0 : ∀ b, S b → b < w0.heap.size := fun b h => Nat.lt_of_lt_of_le (hS b h) hb0.size
  have kC := hide (crewOf_any S a p w0 hsz.out hS0 ha0)
  unfold PA.cells at kC
  obtain ⟨⟨x0, x1, x2, x3, x4, x5, x6⟩, xl⟩ := box7 X0
  obtain ⟨q, hq⟩ : ∃ q, q = w.heap.size := ⟨_, rfl⟩
  rw [← hq] at X0 x0 x1 x2 x3 x4 x5 x6 xl
  replace X0 := hide X0
  replace ha0 := hide ha0
  replace hb0 := hide hb0
  clear ha
  go_enter Try.func20, Try.ntmps20
  go_upto_region 1 with fail
  rw [← hw0, ← hq]
  clear hw0
  replace hq := hide hq
  go_upto_region 2 with (go_at_call 60; refine kC.out.mono ?_; rintro e w1 ⟨hc, hb⟩; rcases hc with ⟨hj, g, qp, rfl, hC⟩ | ⟨hj, g, rfl⟩)
  · obtain ⟨⟨-, y1, -, -, -, -, -⟩, yl⟩ := box7 (X0.out.below hb xl)
    have hT := hide (jobsB_tree hj)
    have kW := hide (workersOk_any (p.dq.length : Int) w1)
    have kL := hide (lengthsOk_any S g qp a p w1 hC)
    have kJ := hide (fun (hlen : Hid (LenP p)) w2 (hb : Below w1.heap.size w1 w2) => crewJobs_any S g qp a p w2 hT hlen hsz hzQ.out (hC.next hb))
    replace hC := hide hC
    replace hb := hide hb
    clear x0 x1 x2 x3 x4 x5 x6
    cases hW : workB p.dq.length
    · rw [hW] at kW
      have hE := hide (show res = false from by rw [hres.out]; unfold poolB; rw [hW]; simp)
      go_wp2_with (go_at_call 61; refine kW.out.mono ?_; rintro e w2 ⟨rfl, rfl⟩)
      go_ret
      exact ⟨ret_bool hE.out.symm, below_next hb0.out hb.out hb0.out.size⟩
    · rw [hW] at kW
      cases hL : lensB p
      · rw [hL] at kL
        have hE := hide (show res = false from by rw [hres.out]; unfold poolB; rw [hL]; simp)
        go_wp2_with (first
          | (go_at_call 61; refine kW.out.mono ?_; rintro e w2 ⟨rfl, rfl⟩)
          | (go_at_call 62; refine kL.out.mono ?_; rintro e w3 ⟨rfl, hb3⟩))
        go_ret
        exact ⟨ret_bool hE.out.symm, below_next hb0.out (below_next hb.out hb3 hb.out.size) hb0.out.size⟩
      · rw [hL] at kL
        have hlen := hide (lensB_len hL)
        have hE := hide (show res = (innB p && allB (rowB p) p.js.length && allB (accB p) p.js.length) from by rw [hres.out]; unfold poolB; rw [hj, hW, hL]; simp [Bool.and_assoc])
        rw [← hE.out] at kJ
        go_wp2_with (first
          | (go_at_call 61; refine kW.out.mono ?_; rintro e w2 ⟨rfl, rfl⟩)
          | (go_at_call 62; refine kL.out.mono ?_; rintro e w3 ⟨rfl, hb3⟩)
          | (go_at_call 63; refine (kJ.out hlen w3 hb3).mono ?_; rintro e w4 ⟨rfl, hb4⟩))
        go_ret
        exact ⟨rfl, below_next hb0.out (below_next hb.out (below_next hb3 hb4 hb3.size) hb.out.size) hb0.out.size⟩
  · obtain ⟨⟨-, y1, -, -, -, -, -⟩, yl⟩ := box7 (X0.out.below hb xl)
    have hE := hide (show res = false from by rw [hres.out]; unfold poolB; rw [hj]; rfl)
    replace hb := hide hb
    go_wp2_with fail
    go_ret
    exact ⟨ret_bool hE.out.symm, below_next hb0.out hb.out hb0.out.size⟩
end Go.Proofs.Ytmhldlpjiepmpaa
