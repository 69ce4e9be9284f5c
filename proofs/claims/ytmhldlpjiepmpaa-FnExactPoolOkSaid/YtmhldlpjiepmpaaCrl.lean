/- The program's lengthsOk, crewOf. -/
import Derived.Test.YtmhldlpjiepmpaaCrx
import Derived.Test.YtmhldlpjiepmpaaJbI
namespace Go.Proofs.Ytmhldlpjiepmpaa
open Go.RowKit

theorem beqL {n m : Nat} (h : n = m) : ((n : Int) == (m : Int)) = true := by simp [h]
theorem beqL' {n m : Nat} (h : n ≠ m) : ((n : Int) == (m : Int)) = false := beq_eq_false_iff_ne.2 (by omega)
theorem bneL {n m : Nat} (h : n = m) : ((n : Int) != (m : Int)) = false := by simp [h]
theorem bneL' {n m : Nat} (h : n ≠ m) : ((n : Int) != (m : Int)) = true := bne_iff_ne.2 (by omega)
theorem lensB_no {p : PoolD} (h : p.ran.length ≠ p.js.length ∨ p.dn.length ≠ p.js.length ∨ p.lf.length ≠ p.js.length ∨ p.sm.length ≠ p.js.length ∨ p.vl.length ≠ p.js.length) : lensB p = false := by
  unfold lensB
  rcases h with h | h | h | h | h <;> simp [h]
theorem lensB_yes {p : PoolD} (h2 : p.ran.length = p.js.length) (h3 : p.dn.length = p.js.length) (h4 : p.lf.length = p.js.length) (h5 : p.sm.length = p.js.length) (h6 : p.vl.length = p.js.length) : lensB p = true := by
  unfold lensB
  simp [h2, h3, h4, h5, h6]
theorem lensB_len {p : PoolD} (h : lensB p = true) : LenP p := by
  simp only [lensB, Bool.and_eq_true, decide_eq_true_eq] at h
  exact ⟨h.1.1.1.1, h.1.1.1.2, h.1.1.2, h.1.2, h.2⟩
set_option maxHeartbeats 3200000 in
theorem lengthsOk_any (S : Nat → Prop) (g qp : Nat) (a : PA) (p : PoolD) (w : World) (h : CrewR w S g qp a p) :
    Calls Try.prog 62 #[.pointer (some ⟨g, 0, none⟩)] w fun e w' => e = .returned (.bool (lensB p)) ∧ Below w.heap.size w w' := by
  obtain ⟨⟨x0, -, x2, x3, x4, x5, x6, -⟩, xl⟩ := box8 h.box
  have hB := Below.refl w.heap.size w
  replace hB := hide hB
  clear h
  by_cases c0 : p.ran.length = p.js.length
  · have n0 := beqL c0
    by_cases c1 : p.dn.length = p.js.length
    · have n1 := beqL c1
      by_cases c2 : p.lf.length = p.js.length
      · have n2 := beqL c2
        by_cases c3 : p.sm.length = p.js.length
        · have n3 := beqL c3
          by_cases c4 : p.vl.length = p.js.length
          · have n4 := beqL c4
            have hE := hide (lensB_yes c0 c1 c2 c3 c4)
            clear c0 c1 c2 c3 c4
            go_enter Try.func62, Try.ntmps62
            go_wp2_with fail
            go_ret
            exact ⟨ret_bool hE.out.symm, hB.out⟩
          · have n4 := beqL' c4
            have hE := hide (lensB_no (.inr (.inr (.inr (.inr (c4))))))
            clear c0 c1 c2 c3 c4
            go_enter Try.func62, Try.ntmps62
            go_wp2_with fail
            go_ret
            exact ⟨ret_bool hE.out.symm, hB.out⟩
        · have n3 := beqL' c3
          have hE := hide (lensB_no (.inr (.inr (.inr (.inl c3)))))
          clear c0 c1 c2 c3
          go_enter Try.func62, Try.ntmps62
          go_wp2_with fail
          go_ret
          exact ⟨ret_bool hE.out.symm, hB.out⟩
      · have n2 := beqL' c2
        have hE := hide (lensB_no (.inr (.inr (.inl c2))))
        clear c0 c1 c2
        go_enter Try.func62, Try.ntmps62
        go_wp2_with fail
        go_ret
        exact ⟨ret_bool hE.out.symm, hB.out⟩
    · have n1 := beqL' c1
      have hE := hide (lensB_no (.inr (.inl c1)))
      clear c0 c1
      go_enter Try.func62, Try.ntmps62
      go_wp2_with fail
      go_ret
      exact ⟨ret_bool hE.out.symm, hB.out⟩
  · have n0 := beqL' c0
    have hE := hide (lensB_no (.inl c0))
    clear c0
    go_enter Try.func62, Try.ntmps62
    go_wp2_with fail
    go_ret
    exact ⟨ret_bool hE.out.symm, hB.out⟩

def CrewOfR (S : Nat → Prop) (a : PA) (p : PoolD) (w w' : World) (e : Ending) : Prop :=
  ((jobsB p.js = true ∧ ∃ g qp, e = .returned (.tuple #[.pointer (some ⟨g, 0, none⟩), .bool true]) ∧ CrewR w' S g qp a p) ∨ (jobsB p.js = false ∧ ∃ g : Nat, e = .returned (.tuple #[.pointer (some ⟨g, 0, none⟩), .bool false]))) ∧ Below w.heap.size w w'
set_option maxHeartbeats 3200000 in
theorem crewOf_any (S : Nat → Prop) (a : PA) (p : PoolD) (w : World) (hsz : ∀ k, (getj p.js k).ks.length ≤ 1048576) (hS : ∀ b, S b → b < w.heap.size) (ha : PoolAt w S a p) :
    Calls Try.prog 60 #[.agg (a.cells p)] w fun e w' => CrewOfR S a p w w' e := by
  unfold CrewOfR PA.cells
  have hb0 := below1 w (Obj.cells (a.cells p) 28)
  have X0 := Blk.new w 28 (a.cells p)
  unfold PA.cells at hb0 X0
  obtain ⟨w0, hw0⟩ : ∃ w0, w0 = w.alloc (Obj.cells #[.slice a.A0 p.js.length a.c0, .slice a.A1 p.dq.length a.c1, .slice a.A2 p.ran.length a.c2, .slice a.A3 p.dn.length a.c3, .slice a.A4 p.lf.length a.c4, .slice a.A5 p.sm.length a.c5, .slice a.A6 p.vl.length a.c6] 28) := ⟨_, rfl⟩
  rw [← hw0] at hb0 X0
  have ha0 := ha.below hb0 hS
  have hS0 : ∀ b, S b → b < w0.heap.size := fun b h => Nat.lt_of_lt_of_le (hS b h) hb0.size
  have kP := hide (parentsOf_any a.A0 p.js a.c0 S w0 hsz hS0 ha0.jobs)
  obtain ⟨⟨x0, -, -, -, -, -, -⟩, xl⟩ := box7 X0
  obtain ⟨q, hq⟩ : ∃ q, q = w.heap.size := ⟨_, rfl⟩
  rw [← hq] at X0 x0 xl
  replace X0 := hide X0
  replace ha0 := hide ha0
  replace hb0 := hide hb0
  clear ha
  go_enter Try.func60, Try.ntmps60
  go_upto_region 1 with fail
  rw [← hw0, ← hq]
  clear hw0
  replace hq := hide hq
  go_upto_region 2 with (go_at_call 74; refine kP.out.mono ?_; rintro e w1 ⟨hc, hb⟩; rcases hc with ⟨hE, qp, rfl, hF, -⟩ | ⟨hE, rfl⟩)
  · obtain ⟨⟨y0, y1, y2, y3, y4, y5, y6⟩, yl⟩ := box7 (X0.out.below hb xl)
    have hC : CrewR (w1.alloc (Obj.cells (crewCells a p qp) 98)) S w1.heap.size qp a p :=
      ⟨Blk.new w1 _ _, hF.next (below1 _ _), (ha0.out.below hb hS0).below (below1 w1 _) (fun b h => Nat.lt_of_lt_of_le (hS0 b h) hb.size), fun b h => Nat.lt_of_lt_of_le (hS0 b h) (Nat.le_trans hb.size (below1 w1 _).size)⟩
    unfold crewCells at hC
    replace hC := hide hC
    replace hb := hide hb
    clear hF x0
    go_wp2_with fail
    refine bodyPost_ret (v := .tuple #[.pointer (some ⟨w1.heap.size, 0, none⟩), .bool true]) (by simp [results, Try.results60, go_sem]; done) rfl ?_
    exact ⟨.inl ⟨hE, _, qp, rfl, hC.out⟩, (below_next hb0.out hb.out hb0.out.size).alloc (Nat.le_trans hb0.out.size hb.out.size) _⟩
  · obtain ⟨⟨y0, y1, y2, y3, y4, y5, y6⟩, yl⟩ := box7 (X0.out.below hb xl)
    replace hb := hide hb
    clear x0
    go_wp2_with fail
    refine bodyPost_ret (v := .tuple #[.pointer (some ⟨w1.heap.size, 0, none⟩), .bool false]) (by simp [results, Try.results60, go_sem]; done) rfl ?_
    exact ⟨.inr ⟨hE, _, rfl⟩, (below_next hb0.out hb.out hb0.out.size).alloc (Nat.le_trans hb0.out.size hb.out.size) _⟩
end Go.Proofs.Ytmhldlpjiepmpaa
