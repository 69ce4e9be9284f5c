/- laws' helpers on pools: szPool, eqPool. -/
import Derived.Test.YtfnphnjadknoaaaMp0
import Derived.Test.YtfnphnjadknoaaaMp8
import Derived.Deep.Cut
namespace Go.Proofs.Ytfnphnjadknoaaa
open Go.RowKit

set_option maxRecDepth 100000 in
set_option maxHeartbeats 6400000 in
theorem szPool_any (a : PA) (p : PoolD) (S : Nat → Prop) (left : Int) (w : World) (h0 : 0 ≤ left) (h1 : left ≤ 1048576) (hS : ∀ b, S b → b < w.heap.size) (ha : PoolAt w S a p) :
    Calls Try.prog 44 #[.agg (a.cells p), .int .i64 left] w fun e w' => e = .returned (.int .i64 (szR left (poolSize p))) ∧ Below w.heap.size w w' := by
  unfold PA.cells
  have hn2 := ha.ran.1
  have hn3 := ha.dn.1
  have hn4 := ha.lf.1
  have hn5 := ha.sm.1
  have hn6 := ha.vl.1
  have hP := hide (show poolSize p = sizeJ p.js + sizeQ p.dq + p.ran.length + p.dn.length + p.lf.length + p.sm.length + p.vl.length from rfl)
  have hX := hide (Blk.new w 67 #[.slice a.A0 p.js.length a.c0, .slice a.A1 p.dq.length a.c1, .slice a.A2 p.ran.length a.c2, .slice a.A3 p.dn.length a.c3, .slice a.A4 p.lf.length a.c4, .slice a.A5 p.sm.length a.c5, .slice a.A6 p.vl.length a.c6])
  have hb0 := below1 w (Obj.cells #[.slice a.A0 p.js.length a.c0, .slice a.A1 p.dq.length a.c1, .slice a.A2 p.ran.length a.c2, .slice a.A3 p.dn.length a.c3, .slice a.A4 p.lf.length a.c4, .slice a.A5 p.sm.length a.c5, .slice a.A6 p.vl.length a.c6] 67)
  obtain ⟨w0, hw0⟩ : ∃ w0, w0 = w.alloc (Obj.cells #[.slice a.A0 p.js.length a.c0, .slice a.A1 p.dq.length a.c1, .slice a.A2 p.ran.length a.c2, .slice a.A3 p.dn.length a.c3, .slice a.A4 p.lf.length a.c4, .slice a.A5 p.sm.length a.c5, .slice a.A6 p.vl.length a.c6] 67) := ⟨_, rfl⟩
  rw [← hw0] at hX hb0
  have H0 := hide (ha.below hb0 hS)
  have B0 := hide hb0
  clear ha hb0
  obtain ⟨s0, hs0⟩ : ∃ s, s = left := ⟨_, rfl⟩
  have hp0 : 0 ≤ s0 := by omega
  have hq0 : s0 ≤ 1048576 := by omega
  rw [← hs0]
  replace hs0 := hide hs0
  by_cases hc0 : s0 < ((sizeJ p.js : Nat) : Int)
  · have hE := hide (szR_neg (left := s0) (n := poolSize p) (by rw [hP.out]; skip; omega))
    go_enter Try.func44, Try.ntmps44
    go_upto_region 1 with fail
    rw [← hw0]
    clear hw0
    obtain ⟨⟨x0, x1, x2, x3, x4, x5, x6⟩, xl⟩ := box7 hX.out
    have kc := szJobS_any a.A0 p.js a.c0 _ s0 _ hp0 hq0 (fun b h => Nat.lt_of_lt_of_le (hS b h) B0.out.size) H0.out.jobs
    have hcc :  s0 < ((sizeJ p.js : Nat) : Int) := by omega
    rw [szR_neg hcc] at kc
    replace kc := hide kc
    clear hcc
    go_wp2_with (go_at_call 35; refine (kc.out).mono ?_; rintro e w1 ⟨rfl, hb⟩)
    go_ret
    exact ⟨ret_int hE.out.symm, below_next B0.out hb (B0.out).size⟩
  · obtain ⟨s1, hs1⟩ : ∃ s, s = s0 - ((sizeJ p.js : Nat) : Int) := ⟨_, rfl⟩
    have hp1 : 0 ≤ s1 := by omega
    have hq1 : s1 ≤ 1048576 := by omega
    replace hs1 := hide hs1
    by_cases hc1 : s1 < ((sizeQ p.dq : Nat) : Int)
    · have hE := hide (szR_neg (left := s0) (n := poolSize p) (by rw [hP.out]; have := hs1.out; omega))
      go_enter Try.func44, Try.ntmps44
      go_upto_region 1 with fail
      rw [← hw0]
      clear hw0
      obtain ⟨⟨x0, x1, x2, x3, x4, x5, x6⟩, xl⟩ := box7 hX.out
      have kc := szJobS_any a.A0 p.js a.c0 _ s0 _ hp0 hq0 (fun b h => Nat.lt_of_lt_of_le (hS b h) B0.out.size) H0.out.jobs
      have hcc : ¬ s0 < ((sizeJ p.js : Nat) : Int) := by omega
      rw [szR_pos hcc, ← hs1.out] at kc
      replace kc := hide kc
      clear hcc
      go_upto_region 4 with (go_at_call 35; refine (kc.out).mono ?_; rintro e w1 ⟨rfl, hb⟩)
      have B1 := hide (And.intro (below_next B0.out hb (B0.out).size) hb)
      have H1 := hide (H0.out.below hb (fun b h => Nat.lt_of_lt_of_le (hS b h) (B0.out).size))
      clear H0 B0 hb kc x0 x1 x2 x3 x4 x5 x6 xl
      obtain ⟨⟨x0, x1, x2, x3, x4, x5, x6⟩, xl⟩ := box7 (hX.out.below B1.out.2 hX.out.lt)
      have kc := szRowS_any a.A1 p.dq a.c1 _ s1 _ hp1 hq1 (fun b h => Nat.lt_of_lt_of_le (hS b h) B1.out.1.size) H1.out.rows
      have hcc :  s1 < ((sizeQ p.dq : Nat) : Int) := by omega
      rw [szR_neg hcc] at kc
      replace kc := hide kc
      clear hcc
      go_wp2_with (go_at_call 90; refine (kc.out).mono ?_; rintro e w2 ⟨rfl, hb⟩)
      go_ret
      exact ⟨ret_int hE.out.symm, below_next B1.out.1 hb (B1.out.1).size⟩
    · obtain ⟨s2, hs2⟩ : ∃ s, s = s1 - ((sizeQ p.dq : Nat) : Int) := ⟨_, rfl⟩
      have hp2 : 0 ≤ s2 := by omega
      have hq2 : s2 ≤ 1048576 := by omega
      replace hs2 := hide hs2
      by_cases hc2 : s2 < ((p.ran.length : Nat) : Int)
      · have hE := hide (szR_neg (left := s0) (n := poolSize p) (by rw [hP.out]; have := hs1.out; have := hs2.out; omega))
        go_enter Try.func44, Try.ntmps44
        go_upto_region 1 with fail
        rw [← hw0]
        clear hw0
        obtain ⟨⟨x0, x1, x2, x3, x4, x5, x6⟩, xl⟩ := box7 hX.out
        have kc := szJobS_any a.A0 p.js a.c0 _ s0 _ hp0 hq0 (fun b h => Nat.lt_of_lt_of_le (hS b h) B0.out.size) H0.out.jobs
        have hcc : ¬ s0 < ((sizeJ p.js : Nat) : Int) := by omega
        rw [szR_pos hcc, ← hs1.out] at kc
        replace kc := hide kc
        clear hcc
        go_upto_region 4 with (go_at_call 35; refine (kc.out).mono ?_; rintro e w1 ⟨rfl, hb⟩)
        have B1 := hide (And.intro (below_next B0.out hb (B0.out).size) hb)
        have H1 := hide (H0.out.below hb (fun b h => Nat.lt_of_lt_of_le (hS b h) (B0.out).size))
        clear H0 B0 hb kc x0 x1 x2 x3 x4 x5 x6 xl
        obtain ⟨⟨x0, x1, x2, x3, x4, x5, x6⟩, xl⟩ := box7 (hX.out.below B1.out.2 hX.out.lt)
        have kc := szRowS_any a.A1 p.dq a.c1 _ s1 _ hp1 hq1 (fun b h => Nat.lt_of_lt_of_le (hS b h) B1.out.1.size) H1.out.rows
        have hcc : ¬ s1 < ((sizeQ p.dq : Nat) : Int) := by omega
        rw [szR_pos hcc, ← hs2.out] at kc
        replace kc := hide kc
        clear hcc
        go_upto_region 7 with (go_at_call 90; refine (kc.out).mono ?_; rintro e w2 ⟨rfl, hb⟩)
        have B2 := hide (And.intro (below_next B1.out.1 hb (B1.out.1).size) ((B1.out.2).trans (hb.mono (B1.out.2).size)))
        have H2 := hide (H1.out.below hb (fun b h => Nat.lt_of_lt_of_le (hS b h) (B1.out.1).size))
        clear H1 B1 hb kc x0 x1 x2 x3 x4 x5 x6 xl
        obtain ⟨⟨x0, x1, x2, x3, x4, x5, x6⟩, xl⟩ := box7 (hX.out.below B2.out.2 hX.out.lt)
        have kc := fun w => szBoolS_any a.A2 p.ran.length a.c2 s2 w hp2 hq2 hn2
        have hcc :  s2 < ((p.ran.length : Nat) : Int) := by omega
        simp only [szR_neg hcc] at kc
        replace kc := hide kc
        clear hcc
        go_wp2_with (go_at_call 91; refine (kc.out _).mono ?_; rintro e w3 ⟨rfl, rfl⟩)
        go_ret
        exact ⟨ret_int hE.out.symm, B2.out.1⟩
      · obtain ⟨s3, hs3⟩ : ∃ s, s = s2 - ((p.ran.length : Nat) : Int) := ⟨_, rfl⟩
        have hp3 : 0 ≤ s3 := by omega
        have hq3 : s3 ≤ 1048576 := by omega
        replace hs3 := hide hs3
        by_cases hc3 : s3 < ((p.dn.length : Nat) : Int)
        · have hE := hide (szR_neg (left := s0) (n := poolSize p) (by rw [hP.out]; have := hs1.out; have := hs2.out; have := hs3.out; omega))
          go_enter Try.func44, Try.ntmps44
          go_upto_region 1 with fail
          rw [← hw0]
          clear hw0
          obtain ⟨⟨x0, x1, x2, x3, x4, x5, x6⟩, xl⟩ := box7 hX.out
          have kc := szJobS_any a.A0 p.js a.c0 _ s0 _ hp0 hq0 (fun b h => Nat.lt_of_lt_of_le (hS b h) B0.out.size) H0.out.jobs
          have hcc : ¬ s0 < ((sizeJ p.js : Nat) : Int) := by omega
          rw [szR_pos hcc, ← hs1.out] at kc
          replace kc := hide kc
          clear hcc
          go_upto_region 4 with (go_at_call 35; refine (kc.out).mono ?_; rintro e w1 ⟨rfl, hb⟩)
          have B1 := hide (And.intro (below_next B0.out hb (B0.out).size) hb)
          have H1 := hide (H0.out.below hb (fun b h => Nat.lt_of_lt_of_le (hS b h) (B0.out).size))
          clear H0 B0 hb kc x0 x1 x2 x3 x4 x5 x6 xl
          obtain ⟨⟨x0, x1, x2, x3, x4, x5, x6⟩, xl⟩ := box7 (hX.out.below B1.out.2 hX.out.lt)
          have kc := szRowS_any a.A1 p.dq a.c1 _ s1 _ hp1 hq1 (fun b h => Nat.lt_of_lt_of_le (hS b h) B1.out.1.size) H1.out.rows
          have hcc : ¬ s1 < ((sizeQ p.dq : Nat) : Int) := by omega
          rw [szR_pos hcc, ← hs2.out] at kc
          replace kc := hide kc
          clear hcc
          go_upto_region 7 with (go_at_call 90; refine (kc.out).mono ?_; rintro e w2 ⟨rfl, hb⟩)
          have B2 := hide (And.intro (below_next B1.out.1 hb (B1.out.1).size) ((B1.out.2).trans (hb.mono (B1.out.2).size)))
          have H2 := hide (H1.out.below hb (fun b h => Nat.lt_of_lt_of_le (hS b h) (B1.out.1).size))
          clear H1 B1 hb kc x0 x1 x2 x3 x4 x5 x6 xl
          obtain ⟨⟨x0, x1, x2, x3, x4, x5, x6⟩, xl⟩ := box7 (hX.out.below B2.out.2 hX.out.lt)
          have kc := fun w => szBoolS_any a.A2 p.ran.length a.c2 s2 w hp2 hq2 hn2
          have hcc : ¬ s2 < ((p.ran.length : Nat) : Int) := by omega
          simp only [szR_pos hcc, ← hs3.out] at kc
          replace kc := hide kc
          clear hcc
          go_upto_region 10 with (go_at_call 91; refine (kc.out _).mono ?_; rintro e w3 ⟨rfl, rfl⟩)
          have B3 := B2
          clear B2 kc x0 x1 x2 x3 x4 x5 x6 xl
          obtain ⟨⟨x0, x1, x2, x3, x4, x5, x6⟩, xl⟩ := box7 (hX.out.below B3.out.2 hX.out.lt)
          have kc := fun w => szBoolS_any a.A3 p.dn.length a.c3 s3 w hp3 hq3 hn3
          have hcc :  s3 < ((p.dn.length : Nat) : Int) := by omega
          simp only [szR_neg hcc] at kc
          replace kc := hide kc
          clear hcc
          go_wp2_with (go_at_call 91; refine (kc.out _).mono ?_; rintro e w4 ⟨rfl, rfl⟩)
          go_ret
          exact ⟨ret_int hE.out.symm, B3.out.1⟩
        · obtain ⟨s4, hs4⟩ : ∃ s, s = s3 - ((p.dn.length : Nat) : Int) := ⟨_, rfl⟩
          have hp4 : 0 ≤ s4 := by omega
          have hq4 : s4 ≤ 1048576 := by omega
          replace hs4 := hide hs4
          by_cases hc4 : s4 < ((p.lf.length : Nat) : Int)
          · have hE := hide (szR_neg (left := s0) (n := poolSize p) (by rw [hP.out]; have := hs1.out; have := hs2.out; have := hs3.out; have := hs4.out; omega))
            go_enter Try.func44, Try.ntmps44
            go_upto_region 1 with fail
            rw [← hw0]
            clear hw0
            obtain ⟨⟨x0, x1, x2, x3, x4, x5, x6⟩, xl⟩ := box7 hX.out
            have kc := szJobS_any a.A0 p.js a.c0 _ s0 _ hp0 hq0 (fun b h => Nat.lt_of_lt_of_le (hS b h) B0.out.size) H0.out.jobs
            have hcc : ¬ s0 < ((sizeJ p.js : Nat) : Int) := by omega
            rw [szR_pos hcc, ← hs1.out] at kc
            replace kc := hide kc
            clear hcc
            go_upto_region 4 with (go_at_call 35; refine (kc.out).mono ?_; rintro e w1 ⟨rfl, hb⟩)
            have B1 := hide (And.intro (below_next B0.out hb (B0.out).size) hb)
            have H1 := hide (H0.out.below hb (fun b h => Nat.lt_of_lt_of_le (hS b h) (B0.out).size))
            clear H0 B0 hb kc x0 x1 x2 x3 x4 x5 x6 xl
            obtain ⟨⟨x0, x1, x2, x3, x4, x5, x6⟩, xl⟩ := box7 (hX.out.below B1.out.2 hX.out.lt)
            have kc := szRowS_any a.A1 p.dq a.c1 _ s1 _ hp1 hq1 (fun b h => Nat.lt_of_lt_of_le (hS b h) B1.out.1.size) H1.out.rows
            have hcc : ¬ s1 < ((sizeQ p.dq : Nat) : Int) := by omega
            rw [szR_pos hcc, ← hs2.out] at kc
            replace kc := hide kc
            clear hcc
            go_upto_region 7 with (go_at_call 90; refine (kc.out).mono ?_; rintro e w2 ⟨rfl, hb⟩)
            have B2 := hide (And.intro (below_next B1.out.1 hb (B1.out.1).size) ((B1.out.2).trans (hb.mono (B1.out.2).size)))
            have H2 := hide (H1.out.below hb (fun b h => Nat.lt_of_lt_of_le (hS b h) (B1.out.1).size))
            clear H1 B1 hb kc x0 x1 x2 x3 x4 x5 x6 xl
            obtain ⟨⟨x0, x1, x2, x3, x4, x5, x6⟩, xl⟩ := box7 (hX.out.below B2.out.2 hX.out.lt)
            have kc := fun w => szBoolS_any a.A2 p.ran.length a.c2 s2 w hp2 hq2 hn2
            have hcc : ¬ s2 < ((p.ran.length : Nat) : Int) := by omega
            simp only [szR_pos hcc, ← hs3.out] at kc
            replace kc := hide kc
            clear hcc
            go_upto_region 10 with (go_at_call 91; refine (kc.out _).mono ?_; rintro e w3 ⟨rfl, rfl⟩)
            have B3 := B2
            clear B2 kc x0 x1 x2 x3 x4 x5 x6 xl
            obtain ⟨⟨x0, x1, x2, x3, x4, x5, x6⟩, xl⟩ := box7 (hX.out.below B3.out.2 hX.out.lt)
            have kc := fun w => szBoolS_any a.A3 p.dn.length a.c3 s3 w hp3 hq3 hn3
            have hcc : ¬ s3 < ((p.dn.length : Nat) : Int) := by omega
            simp only [szR_pos hcc, ← hs4.out] at kc
            replace kc := hide kc
            clear hcc
            go_upto_region 13 with (go_at_call 91; refine (kc.out _).mono ?_; rintro e w4 ⟨rfl, rfl⟩)
            have B4 := B3
            clear B3 kc x0 x1 x2 x3 x4 x5 x6 xl
            obtain ⟨⟨x0, x1, x2, x3, x4, x5, x6⟩, xl⟩ := box7 (hX.out.below B4.out.2 hX.out.lt)
            have kc := fun w => szIntS_any a.A4 p.lf.length a.c4 s4 w hp4 hq4 hn4
            have hcc :  s4 < ((p.lf.length : Nat) : Int) := by omega
            simp only [szR_neg hcc] at kc
            replace kc := hide kc
            clear hcc
            go_wp2_with (go_at_call 92; refine (kc.out _).mono ?_; rintro e w5 ⟨rfl, rfl⟩)
            go_ret
            exact ⟨ret_int hE.out.symm, B4.out.1⟩
          · obtain ⟨s5, hs5⟩ : ∃ s, s = s4 - ((p.lf.length : Nat) : Int) := ⟨_, rfl⟩
            have hp5 : 0 ≤ s5 := by omega
            have hq5 : s5 ≤ 1048576 := by omega
            replace hs5 := hide hs5
            by_cases hc5 : s5 < ((p.sm.length : Nat) : Int)
            · have hE := hide (szR_neg (left := s0) (n := poolSize p) (by rw [hP.out]; have := hs1.out; have := hs2.out; have := hs3.out; have := hs4.out; have := hs5.out; omega))
              go_enter Try.func44, Try.ntmps44
              go_upto_region 1 with fail
              rw [← hw0]
              clear hw0
              obtain ⟨⟨x0, x1, x2, x3, x4, x5, x6⟩, xl⟩ := box7 hX.out
              have kc := szJobS_any a.A0 p.js a.c0 _ s0 _ hp0 hq0 (fun b h => Nat.lt_of_lt_of_le (hS b h) B0.out.size) H0.out.jobs
              have hcc : ¬ s0 < ((sizeJ p.js : Nat) : Int) := by omega
              rw [szR_pos hcc, ← hs1.out] at kc
              replace kc := hide kc
              clear hcc
              go_upto_region 4 with (go_at_call 35; refine (kc.out).mono ?_; rintro e w1 ⟨rfl, hb⟩)
              have B1 := hide (And.intro (below_next B0.out hb (B0.out).size) hb)
              have H1 := hide (H0.out.below hb (fun b h => Nat.lt_of_lt_of_le (hS b h) (B0.out).size))
              clear H0 B0 hb kc x0 x1 x2 x3 x4 x5 x6 xl
              obtain ⟨⟨x0, x1, x2, x3, x4, x5, x6⟩, xl⟩ := box7 (hX.out.below B1.out.2 hX.out.lt)
              have kc := szRowS_any a.A1 p.dq a.c1 _ s1 _ hp1 hq1 (fun b h => Nat.lt_of_lt_of_le (hS b h) B1.out.1.size) H1.out.rows
              have hcc : ¬ s1 < ((sizeQ p.dq : Nat) : Int) := by omega
              rw [szR_pos hcc, ← hs2.out] at kc
              replace kc := hide kc
              clear hcc
              go_upto_region 7 with (go_at_call 90; refine (kc.out).mono ?_; rintro e w2 ⟨rfl, hb⟩)
              have B2 := hide (And.intro (below_next B1.out.1 hb (B1.out.1).size) ((B1.out.2).trans (hb.mono (B1.out.2).size)))
              have H2 := hide (H1.out.below hb (fun b h => Nat.lt_of_lt_of_le (hS b h) (B1.out.1).size))
              clear H1 B1 hb kc x0 x1 x2 x3 x4 x5 x6 xl
              obtain ⟨⟨x0, x1, x2, x3, x4, x5, x6⟩, xl⟩ := box7 (hX.out.below B2.out.2 hX.out.lt)
              have kc := fun w => szBoolS_any a.A2 p.ran.length a.c2 s2 w hp2 hq2 hn2
              have hcc : ¬ s2 < ((p.ran.length : Nat) : Int) := by omega
              simp only [szR_pos hcc, ← hs3.out] at kc
              replace kc := hide kc
              clear hcc
              go_upto_region 10 with (go_at_call 91; refine (kc.out _).mono ?_; rintro e w3 ⟨rfl, rfl⟩)
              have B3 := B2
              clear B2 kc x0 x1 x2 x3 x4 x5 x6 xl
              obtain ⟨⟨x0, x1, x2, x3, x4, x5, x6⟩, xl⟩ := box7 (hX.out.below B3.out.2 hX.out.lt)
              have kc := fun w => szBoolS_any a.A3 p.dn.length a.c3 s3 w hp3 hq3 hn3
              have hcc : ¬ s3 < ((p.dn.length : Nat) : Int) := by omega
              simp only [szR_pos hcc, ← hs4.out] at kc
              replace kc := hide kc
              clear hcc
              go_upto_region 13 with (go_at_call 91; refine (kc.out _).mono ?_; rintro e w4 ⟨rfl, rfl⟩)
              have B4 := B3
              clear B3 kc x0 x1 x2 x3 x4 x5 x6 xl
              obtain ⟨⟨x0, x1, x2, x3, x4, x5, x6⟩, xl⟩ := box7 (hX.out.below B4.out.2 hX.out.lt)
              have kc := fun w => szIntS_any a.A4 p.lf.length a.c4 s4 w hp4 hq4 hn4
              have hcc : ¬ s4 < ((p.lf.length : Nat) : Int) := by omega
              simp only [szR_pos hcc, ← hs5.out] at kc
              replace kc := hide kc
              clear hcc
              go_upto_region 16 with (go_at_call 92; refine (kc.out _).mono ?_; rintro e w5 ⟨rfl, rfl⟩)
              have B5 := B4
              clear B4 kc x0 x1 x2 x3 x4 x5 x6 xl
              obtain ⟨⟨x0, x1, x2, x3, x4, x5, x6⟩, xl⟩ := box7 (hX.out.below B5.out.2 hX.out.lt)
              have kc := fun w => szIntS_any a.A5 p.sm.length a.c5 s5 w hp5 hq5 hn5
              have hcc :  s5 < ((p.sm.length : Nat) : Int) := by omega
              simp only [szR_neg hcc] at kc
              replace kc := hide kc
              clear hcc
              go_wp2_with (go_at_call 92; refine (kc.out _).mono ?_; rintro e w6 ⟨rfl, rfl⟩)
              go_ret
              exact ⟨ret_int hE.out.symm, B5.out.1⟩
            · obtain ⟨s6, hs6⟩ : ∃ s, s = s5 - ((p.sm.length : Nat) : Int) := ⟨_, rfl⟩
              have hp6 : 0 ≤ s6 := by omega
              have hq6 : s6 ≤ 1048576 := by omega
              replace hs6 := hide hs6
              by_cases hc6 : s6 < ((p.vl.length : Nat) : Int)
              · have hE := hide (szR_neg (left := s0) (n := poolSize p) (by rw [hP.out]; have := hs1.out; have := hs2.out; have := hs3.out; have := hs4.out; have := hs5.out; have := hs6.out; omega))
                go_enter Try.func44, Try.ntmps44
                go_upto_region 1 with fail
                rw [← hw0]
                clear hw0
                obtain ⟨⟨x0, x1, x2, x3, x4, x5, x6⟩, xl⟩ := box7 hX.out
                have kc := szJobS_any a.A0 p.js a.c0 _ s0 _ hp0 hq0 (fun b h => Nat.lt_of_lt_of_le (hS b h) B0.out.size) H0.out.jobs
                have hcc : ¬ s0 < ((sizeJ p.js : Nat) : Int) := by omega
                rw [szR_pos hcc, ← hs1.out] at kc
                replace kc := hide kc
                clear hcc
                go_upto_region 4 with (go_at_call 35; refine (kc.out).mono ?_; rintro e w1 ⟨rfl, hb⟩)
                have B1 := hide (And.intro (below_next B0.out hb (B0.out).size) hb)
                have H1 := hide (H0.out.below hb (fun b h => Nat.lt_of_lt_of_le (hS b h) (B0.out).size))
                clear H0 B0 hb kc x0 x1 x2 x3 x4 x5 x6 xl
                obtain ⟨⟨x0, x1, x2, x3, x4, x5, x6⟩, xl⟩ := box7 (hX.out.below B1.out.2 hX.out.lt)
                have kc := szRowS_any a.A1 p.dq a.c1 _ s1 _ hp1 hq1 (fun b h => Nat.lt_of_lt_of_le (hS b h) B1.out.1.size) H1.out.rows
                have hcc : ¬ s1 < ((sizeQ p.dq : Nat) : Int) := by omega
                rw [szR_pos hcc, ← hs2.out] at kc
                replace kc := hide kc
                clear hcc
                go_upto_region 7 with (go_at_call 90; refine (kc.out).mono ?_; rintro e w2 ⟨rfl, hb⟩)
                have B2 := hide (And.intro (below_next B1.out.1 hb (B1.out.1).size) ((B1.out.2).trans (hb.mono (B1.out.2).size)))
                have H2 := hide (H1.out.below hb (fun b h => Nat.lt_of_lt_of_le (hS b h) (B1.out.1).size))
                clear H1 B1 hb kc x0 x1 x2 x3 x4 x5 x6 xl
                obtain ⟨⟨x0, x1, x2, x3, x4, x5, x6⟩, xl⟩ := box7 (hX.out.below B2.out.2 hX.out.lt)
                have kc := fun w => szBoolS_any a.A2 p.ran.length a.c2 s2 w hp2 hq2 hn2
                have hcc : ¬ s2 < ((p.ran.length : Nat) : Int) := by omega
                simp only [szR_pos hcc, ← hs3.out] at kc
                replace kc := hide kc
                clear hcc
                go_upto_region 10 with (go_at_call 91; refine (kc.out _).mono ?_; rintro e w3 ⟨rfl, rfl⟩)
                have B3 := B2
                clear B2 kc x0 x1 x2 x3 x4 x5 x6 xl
                obtain ⟨⟨x0, x1, x2, x3, x4, x5, x6⟩, xl⟩ := box7 (hX.out.below B3.out.2 hX.out.lt)
                have kc := fun w => szBoolS_any a.A3 p.dn.length a.c3 s3 w hp3 hq3 hn3
                have hcc : ¬ s3 < ((p.dn.length : Nat) : Int) := by omega
                simp only [szR_pos hcc, ← hs4.out] at kc
                replace kc := hide kc
                clear hcc
                go_upto_region 13 with (go_at_call 91; refine (kc.out _).mono ?_; rintro e w4 ⟨rfl, rfl⟩)
                have B4 := B3
                clear B3 kc x0 x1 x2 x3 x4 x5 x6 xl
                obtain ⟨⟨x0, x1, x2, x3, x4, x5, x6⟩, xl⟩ := box7 (hX.out.below B4.out.2 hX.out.lt)
                have kc := fun w => szIntS_any a.A4 p.lf.length a.c4 s4 w hp4 hq4 hn4
                have hcc : ¬ s4 < ((p.lf.length : Nat) : Int) := by omega
                simp only [szR_pos hcc, ← hs5.out] at kc
                replace kc := hide kc
                clear hcc
                go_upto_region 16 with (go_at_call 92; refine (kc.out _).mono ?_; rintro e w5 ⟨rfl, rfl⟩)
                have B5 := B4
                clear B4 kc x0 x1 x2 x3 x4 x5 x6 xl
                obtain ⟨⟨x0, x1, x2, x3, x4, x5, x6⟩, xl⟩ := box7 (hX.out.below B5.out.2 hX.out.lt)
                have kc := fun w => szIntS_any a.A5 p.sm.length a.c5 s5 w hp5 hq5 hn5
                have hcc : ¬ s5 < ((p.sm.length : Nat) : Int) := by omega
                simp only [szR_pos hcc, ← hs6.out] at kc
                replace kc := hide kc
                clear hcc
                go_upto_region 19 with (go_at_call 92; refine (kc.out _).mono ?_; rintro e w6 ⟨rfl, rfl⟩)
                have B6 := B5
                clear B5 kc x0 x1 x2 x3 x4 x5 x6 xl
                obtain ⟨⟨x0, x1, x2, x3, x4, x5, x6⟩, xl⟩ := box7 (hX.out.below B6.out.2 hX.out.lt)
                have kc := fun w => szIntS_any a.A6 p.vl.length a.c6 s6 w hp6 hq6 hn6
                have hcc :  s6 < ((p.vl.length : Nat) : Int) := by omega
                simp only [szR_neg hcc] at kc
                replace kc := hide kc
                clear hcc
                go_wp2_with (go_at_call 92; refine (kc.out _).mono ?_; rintro e w7 ⟨rfl, rfl⟩)
                go_ret
                exact ⟨ret_int hE.out.symm, B6.out.1⟩
              · obtain ⟨s7, hs7⟩ : ∃ s, s = s6 - ((p.vl.length : Nat) : Int) := ⟨_, rfl⟩
                have hp7 : 0 ≤ s7 := by omega
                have hq7 : s7 ≤ 1048576 := by omega
                replace hs7 := hide hs7
                have hE := hide (show szR s0 (poolSize p) = s7 by
                  have := hs1.out; have := hs2.out; have := hs3.out; have := hs4.out; have := hs5.out; have := hs6.out; have := hs7.out
                  have := hP.out
                  rw [szR_pos (by omega)]; omega)
                go_enter Try.func44, Try.ntmps44
                go_upto_region 1 with fail
                rw [← hw0]
                clear hw0
                obtain ⟨⟨x0, x1, x2, x3, x4, x5, x6⟩, xl⟩ := box7 hX.out
                have kc := szJobS_any a.A0 p.js a.c0 _ s0 _ hp0 hq0 (fun b h => Nat.lt_of_lt_of_le (hS b h) B0.out.size) H0.out.jobs
                have hcc : ¬ s0 < ((sizeJ p.js : Nat) : Int) := by omega
                rw [szR_pos hcc, ← hs1.out] at kc
                replace kc := hide kc
                clear hcc
                go_upto_region 4 with (go_at_call 35; refine (kc.out).mono ?_; rintro e w1 ⟨rfl, hb⟩)
                have B1 := hide (And.intro (below_next B0.out hb (B0.out).size) hb)
                have H1 := hide (H0.out.below hb (fun b h => Nat.lt_of_lt_of_le (hS b h) (B0.out).size))
                clear H0 B0 hb kc x0 x1 x2 x3 x4 x5 x6 xl
                obtain ⟨⟨x0, x1, x2, x3, x4, x5, x6⟩, xl⟩ := box7 (hX.out.below B1.out.2 hX.out.lt)
                have kc := szRowS_any a.A1 p.dq a.c1 _ s1 _ hp1 hq1 (fun b h => Nat.lt_of_lt_of_le (hS b h) B1.out.1.size) H1.out.rows
                have hcc : ¬ s1 < ((sizeQ p.dq : Nat) : Int) := by omega
                rw [szR_pos hcc, ← hs2.out] at kc
                replace kc := hide kc
                clear hcc
                go_upto_region 7 with (go_at_call 90; refine (kc.out).mono ?_; rintro e w2 ⟨rfl, hb⟩)
                have B2 := hide (And.intro (below_next B1.out.1 hb (B1.out.1).size) ((B1.out.2).trans (hb.mono (B1.out.2).size)))
                have H2 := hide (H1.out.below hb (fun b h => Nat.lt_of_lt_of_le (hS b h) (B1.out.1).size))
                clear H1 B1 hb kc x0 x1 x2 x3 x4 x5 x6 xl
                obtain ⟨⟨x0, x1, x2, x3, x4, x5, x6⟩, xl⟩ := box7 (hX.out.below B2.out.2 hX.out.lt)
                have kc := fun w => szBoolS_any a.A2 p.ran.length a.c2 s2 w hp2 hq2 hn2
                have hcc : ¬ s2 < ((p.ran.length : Nat) : Int) := by omega
                simp only [szR_pos hcc, ← hs3.out] at kc
                replace kc := hide kc
                clear hcc
                go_upto_region 10 with (go_at_call 91; refine (kc.out _).mono ?_; rintro e w3 ⟨rfl, rfl⟩)
                have B3 := B2
                clear B2 kc x0 x1 x2 x3 x4 x5 x6 xl
                obtain ⟨⟨x0, x1, x2, x3, x4, x5, x6⟩, xl⟩ := box7 (hX.out.below B3.out.2 hX.out.lt)
                have kc := fun w => szBoolS_any a.A3 p.dn.length a.c3 s3 w hp3 hq3 hn3
                have hcc : ¬ s3 < ((p.dn.length : Nat) : Int) := by omega
                simp only [szR_pos hcc, ← hs4.out] at kc
                replace kc := hide kc
                clear hcc
                go_upto_region 13 with (go_at_call 91; refine (kc.out _).mono ?_; rintro e w4 ⟨rfl, rfl⟩)
                have B4 := B3
                clear B3 kc x0 x1 x2 x3 x4 x5 x6 xl
                obtain ⟨⟨x0, x1, x2, x3, x4, x5, x6⟩, xl⟩ := box7 (hX.out.below B4.out.2 hX.out.lt)
                have kc := fun w => szIntS_any a.A4 p.lf.length a.c4 s4 w hp4 hq4 hn4
                have hcc : ¬ s4 < ((p.lf.length : Nat) : Int) := by omega
                simp only [szR_pos hcc, ← hs5.out] at kc
                replace kc := hide kc
                clear hcc
                go_upto_region 16 with (go_at_call 92; refine (kc.out _).mono ?_; rintro e w5 ⟨rfl, rfl⟩)
                have B5 := B4
                clear B4 kc x0 x1 x2 x3 x4 x5 x6 xl
                obtain ⟨⟨x0, x1, x2, x3, x4, x5, x6⟩, xl⟩ := box7 (hX.out.below B5.out.2 hX.out.lt)
                have kc := fun w => szIntS_any a.A5 p.sm.length a.c5 s5 w hp5 hq5 hn5
                have hcc : ¬ s5 < ((p.sm.length : Nat) : Int) := by omega
                simp only [szR_pos hcc, ← hs6.out] at kc
                replace kc := hide kc
                clear hcc
                go_upto_region 19 with (go_at_call 92; refine (kc.out _).mono ?_; rintro e w6 ⟨rfl, rfl⟩)
                have B6 := B5
                clear B5 kc x0 x1 x2 x3 x4 x5 x6 xl
                obtain ⟨⟨x0, x1, x2, x3, x4, x5, x6⟩, xl⟩ := box7 (hX.out.below B6.out.2 hX.out.lt)
                have kc := fun w => szIntS_any a.A6 p.vl.length a.c6 s6 w hp6 hq6 hn6
                have hcc : ¬ s6 < ((p.vl.length : Nat) : Int) := by omega
                simp only [szR_pos hcc, ← hs7.out] at kc
                replace kc := hide kc
                clear hcc
                go_upto_region 22 with (go_at_call 92; refine (kc.out _).mono ?_; rintro e w7 ⟨rfl, rfl⟩)
                have B7 := B6
                clear B6 kc x0 x1 x2 x3 x4 x5 x6 xl
                go_wp2_with fail
                go_ret
                exact ⟨ret_int hE.out.symm, B7.out.1⟩

set_option maxRecDepth 100000 in
set_option maxHeartbeats 6400000 in
theorem eqPool_any (a a' : PA) (p : PoolD) (S : Nat → Prop) (w : World) (hS : ∀ b, S b → b < w.heap.size) (ha : PoolAt w S a p) (ha' : PoolAt w S a' p) :
    Calls Try.prog 40 #[.agg (a.cells p), .agg (a'.cells p)] w fun e w' => e = .returned (.bool true) ∧ Below w.heap.size w w' := by
  unfold PA.cells
  have hb0 := below2 w (Obj.cells #[.slice a.A0 p.js.length a.c0, .slice a.A1 p.dq.length a.c1, .slice a.A2 p.ran.length a.c2, .slice a.A3 p.dn.length a.c3, .slice a.A4 p.lf.length a.c4, .slice a.A5 p.sm.length a.c5, .slice a.A6 p.vl.length a.c6] 28) (Obj.cells #[.slice a'.A0 p.js.length a'.c0, .slice a'.A1 p.dq.length a'.c1, .slice a'.A2 p.ran.length a'.c2, .slice a'.A3 p.dn.length a'.c3, .slice a'.A4 p.lf.length a'.c4, .slice a'.A5 p.sm.length a'.c5, .slice a'.A6 p.vl.length a'.c6] 28)
  have X0 := hide ((Blk.new w 28 #[.slice a.A0 p.js.length a.c0, .slice a.A1 p.dq.length a.c1, .slice a.A2 p.ran.length a.c2, .slice a.A3 p.dn.length a.c3, .slice a.A4 p.lf.length a.c4, .slice a.A5 p.sm.length a.c5, .slice a.A6 p.vl.length a.c6]).alloc (Obj.cells #[.slice a'.A0 p.js.length a'.c0, .slice a'.A1 p.dq.length a'.c1, .slice a'.A2 p.ran.length a'.c2, .slice a'.A3 p.dn.length a'.c3, .slice a'.A4 p.lf.length a'.c4, .slice a'.A5 p.sm.length a'.c5, .slice a'.A6 p.vl.length a'.c6] 28))
  have Y0 := Blk.new (w.alloc (Obj.cells #[.slice a.A0 p.js.length a.c0, .slice a.A1 p.dq.length a.c1, .slice a.A2 p.ran.length a.c2, .slice a.A3 p.dn.length a.c3, .slice a.A4 p.lf.length a.c4, .slice a.A5 p.sm.length a.c5, .slice a.A6 p.vl.length a.c6] 28)) 28 #[.slice a'.A0 p.js.length a'.c0, .slice a'.A1 p.dq.length a'.c1, .slice a'.A2 p.ran.length a'.c2, .slice a'.A3 p.dn.length a'.c3, .slice a'.A4 p.lf.length a'.c4, .slice a'.A5 p.sm.length a'.c5, .slice a'.A6 p.vl.length a'.c6]
  simp only [World.size_alloc] at Y0
  obtain ⟨w0, hw0⟩ : ∃ w0, w0 = (w.alloc (Obj.cells #[.slice a.A0 p.js.length a.c0, .slice a.A1 p.dq.length a.c1, .slice a.A2 p.ran.length a.c2, .slice a.A3 p.dn.length a.c3, .slice a.A4 p.lf.length a.c4, .slice a.A5 p.sm.length a.c5, .slice a.A6 p.vl.length a.c6] 28)).alloc (Obj.cells #[.slice a'.A0 p.js.length a'.c0, .slice a'.A1 p.dq.length a'.c1, .slice a'.A2 p.ran.length a'.c2, .slice a'.A3 p.dn.length a'.c3, .slice a'.A4 p.lf.length a'.c4, .slice a'.A5 p.sm.length a'.c5, .slice a'.A6 p.vl.length a'.c6] 28) := ⟨_, rfl⟩
  rw [← hw0] at hb0 X0 Y0
  replace Y0 := hide Y0
  have H0 := hide (ha.below hb0 hS)
  have G0 := hide (ha'.below hb0 hS)
  have B0 := hide hb0
  clear ha ha' hb0
  go_enter Try.func40, Try.ntmps40
  go_upto_region 1 with fail
  rw [← hw0]
  clear hw0
  obtain ⟨⟨x0, x1, x2, x3, x4, x5, x6⟩, xl⟩ := box7 X0.out
  obtain ⟨⟨y0, y1, y2, y3, y4, y5, y6⟩, yl⟩ := box7 Y0.out
  have kc := hide (eqJobS_any a.A0 a'.A0 p.js a.c0 a'.c0 S _ (fun b h => Nat.lt_of_lt_of_le (hS b h) B0.out.size) H0.out.jobs G0.out.jobs)
  go_upto_region 3 with (go_at_call 37; refine kc.out.mono ?_; rintro e w1 ⟨rfl, hb⟩)
  have H1 := hide (H0.out.below hb (fun b h => Nat.lt_of_lt_of_le (hS b h) B0.out.size))
  have G1 := hide (G0.out.below hb (fun b h => Nat.lt_of_lt_of_le (hS b h) B0.out.size))
  have X1 := hide (X0.out.below hb X0.out.lt)
  have Y1 := hide (Y0.out.below hb Y0.out.lt)
  have B1 := hide (below_next B0.out hb B0.out.size)
  clear H0 G0 X0 Y0 B0 hb kc x0 x1 x2 x3 x4 x5 x6 xl y0 y1 y2 y3 y4 y5 y6 yl
  obtain ⟨⟨x0, x1, x2, x3, x4, x5, x6⟩, xl⟩ := box7 X1.out
  obtain ⟨⟨y0, y1, y2, y3, y4, y5, y6⟩, yl⟩ := box7 Y1.out
  have kc := hide (eqRowS_any a.A1 a'.A1 p.dq a.c1 a'.c1 S _ (fun b h => Nat.lt_of_lt_of_le (hS b h) B1.out.size) H1.out.rows G1.out.rows)
  go_upto_region 5 with (go_at_call 80; refine kc.out.mono ?_; rintro e w2 ⟨rfl, hb⟩)
  have H2 := hide (H1.out.below hb (fun b h => Nat.lt_of_lt_of_le (hS b h) B1.out.size))
  have G2 := hide (G1.out.below hb (fun b h => Nat.lt_of_lt_of_le (hS b h) B1.out.size))
  have X2 := hide (X1.out.below hb X1.out.lt)
  have Y2 := hide (Y1.out.below hb Y1.out.lt)
  have B2 := hide (below_next B1.out hb B1.out.size)
  clear H1 G1 X1 Y1 B1 hb kc x0 x1 x2 x3 x4 x5 x6 xl y0 y1 y2 y3 y4 y5 y6 yl
  obtain ⟨⟨x0, x1, x2, x3, x4, x5, x6⟩, xl⟩ := box7 X2.out
  obtain ⟨⟨y0, y1, y2, y3, y4, y5, y6⟩, yl⟩ := box7 Y2.out
  have kc := hide (eqBoolS_any a.A2 a'.A2 p.ran a.c2 a'.c2 S _ (fun b h => Nat.lt_of_lt_of_le (hS b h) B2.out.size) H2.out.ran G2.out.ran)
  go_upto_region 7 with (go_at_call 81; refine kc.out.mono ?_; rintro e w3 ⟨rfl, hb⟩)
  have H3 := hide (H2.out.below hb (fun b h => Nat.lt_of_lt_of_le (hS b h) B2.out.size))
  have G3 := hide (G2.out.below hb (fun b h => Nat.lt_of_lt_of_le (hS b h) B2.out.size))
  have X3 := hide (X2.out.below hb X2.out.lt)
  have Y3 := hide (Y2.out.below hb Y2.out.lt)
  have B3 := hide (below_next B2.out hb B2.out.size)
  clear H2 G2 X2 Y2 B2 hb kc x0 x1 x2 x3 x4 x5 x6 xl y0 y1 y2 y3 y4 y5 y6 yl
  obtain ⟨⟨x0, x1, x2, x3, x4, x5, x6⟩, xl⟩ := box7 X3.out
  obtain ⟨⟨y0, y1, y2, y3, y4, y5, y6⟩, yl⟩ := box7 Y3.out
  have kc := hide (eqBoolS_any a.A3 a'.A3 p.dn a.c3 a'.c3 S _ (fun b h => Nat.lt_of_lt_of_le (hS b h) B3.out.size) H3.out.dn G3.out.dn)
  go_upto_region 9 with (go_at_call 81; refine kc.out.mono ?_; rintro e w4 ⟨rfl, hb⟩)
  have H4 := hide (H3.out.below hb (fun b h => Nat.lt_of_lt_of_le (hS b h) B3.out.size))
  have G4 := hide (G3.out.below hb (fun b h => Nat.lt_of_lt_of_le (hS b h) B3.out.size))
  have X4 := hide (X3.out.below hb X3.out.lt)
  have Y4 := hide (Y3.out.below hb Y3.out.lt)
  have B4 := hide (below_next B3.out hb B3.out.size)
  clear H3 G3 X3 Y3 B3 hb kc x0 x1 x2 x3 x4 x5 x6 xl y0 y1 y2 y3 y4 y5 y6 yl
  obtain ⟨⟨x0, x1, x2, x3, x4, x5, x6⟩, xl⟩ := box7 X4.out
  obtain ⟨⟨y0, y1, y2, y3, y4, y5, y6⟩, yl⟩ := box7 Y4.out
  have kc := hide (eqIntS_any a.A4 a'.A4 p.lf a.c4 a'.c4 S _ (fun b h => Nat.lt_of_lt_of_le (hS b h) B4.out.size) H4.out.lf G4.out.lf)
  go_upto_region 11 with (go_at_call 82; refine kc.out.mono ?_; rintro e w5 ⟨rfl, hb⟩)
  have H5 := hide (H4.out.below hb (fun b h => Nat.lt_of_lt_of_le (hS b h) B4.out.size))
  have G5 := hide (G4.out.below hb (fun b h => Nat.lt_of_lt_of_le (hS b h) B4.out.size))
  have X5 := hide (X4.out.below hb X4.out.lt)
  have Y5 := hide (Y4.out.below hb Y4.out.lt)
  have B5 := hide (below_next B4.out hb B4.out.size)
  clear H4 G4 X4 Y4 B4 hb kc x0 x1 x2 x3 x4 x5 x6 xl y0 y1 y2 y3 y4 y5 y6 yl
  obtain ⟨⟨x0, x1, x2, x3, x4, x5, x6⟩, xl⟩ := box7 X5.out
  obtain ⟨⟨y0, y1, y2, y3, y4, y5, y6⟩, yl⟩ := box7 Y5.out
  have kc := hide (eqIntS_any a.A5 a'.A5 p.sm a.c5 a'.c5 S _ (fun b h => Nat.lt_of_lt_of_le (hS b h) B5.out.size) H5.out.sm G5.out.sm)
  go_upto_region 13 with (go_at_call 82; refine kc.out.mono ?_; rintro e w6 ⟨rfl, hb⟩)
  have H6 := hide (H5.out.below hb (fun b h => Nat.lt_of_lt_of_le (hS b h) B5.out.size))
  have G6 := hide (G5.out.below hb (fun b h => Nat.lt_of_lt_of_le (hS b h) B5.out.size))
  have X6 := hide (X5.out.below hb X5.out.lt)
  have Y6 := hide (Y5.out.below hb Y5.out.lt)
  have B6 := hide (below_next B5.out hb B5.out.size)
  clear H5 G5 X5 Y5 B5 hb kc x0 x1 x2 x3 x4 x5 x6 xl y0 y1 y2 y3 y4 y5 y6 yl
  obtain ⟨⟨x0, x1, x2, x3, x4, x5, x6⟩, xl⟩ := box7 X6.out
  obtain ⟨⟨y0, y1, y2, y3, y4, y5, y6⟩, yl⟩ := box7 Y6.out
  have kc := hide (eqIntS_any a.A6 a'.A6 p.vl a.c6 a'.c6 S _ (fun b h => Nat.lt_of_lt_of_le (hS b h) B6.out.size) H6.out.vl G6.out.vl)
  go_upto_region 15 with (go_at_call 82; refine kc.out.mono ?_; rintro e w7 ⟨rfl, hb⟩)
  have H7 := hide (H6.out.below hb (fun b h => Nat.lt_of_lt_of_le (hS b h) B6.out.size))
  have G7 := hide (G6.out.below hb (fun b h => Nat.lt_of_lt_of_le (hS b h) B6.out.size))
  have X7 := hide (X6.out.below hb X6.out.lt)
  have Y7 := hide (Y6.out.below hb Y6.out.lt)
  have B7 := hide (below_next B6.out hb B6.out.size)
  clear H6 G6 X6 Y6 B6 hb kc x0 x1 x2 x3 x4 x5 x6 xl y0 y1 y2 y3 y4 y5 y6 yl
  go_wp2_with fail
  go_ret
  exact ⟨rfl, B7.out⟩
end Go.Proofs.Ytfnphnjadknoaaa
