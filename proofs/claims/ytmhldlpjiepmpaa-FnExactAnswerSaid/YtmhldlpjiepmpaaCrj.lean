/- The program's jobsOk. -/
import Derived.Test.YtmhldlpjiepmpaaCrs
import Derived.Test.YtmhldlpjiepmpaaCrl
import Derived.Test.YtmhldlpjiepmpaaCrk
namespace Go.Proofs.Ytmhldlpjiepmpaa
open Go.RowKit

theorem rowB_stand (p : PoolD) (j : Nat) : rowB p j = standB (getb p.ran j) (reachB p j) (cntQ p.dq (j : Int)) := by
  unfold rowB standB
  cases getb p.ran j <;> cases reachB p j <;> simp
/-- The account that the kids give, in one form. -/
def accD (p : PoolD) (j : Nat) : Bool := getb p.ran j && decide (leftD p j = 0)
def accW (p : PoolD) (j : Nat) : Int := if accD p j then worth (getj p.js j).v (sumD p j) else 0
theorem accK_eq (p : PoolD) (j : Nat) : accK p j = accV (accD p j) (leftD p j) (sumD p j) (accW p j) := by
  unfold accK accW accD leftD sumD
  cases hr : getb p.ran j
  · simp
  · simp only [if_true, Bool.true_and]
    by_cases h : leftN p.dn (getj p.js j).ks = 0
    · rw [if_pos h, h]; rfl
    · rw [if_neg h, decide_eq_false (by omega)]; rfl
theorem accB_eq (p : PoolD) (j : Nat) : accB p j = (decide (geti p.lf j = leftD p j) && decide (geti p.sm j = sumD p j) && decide (geti p.vl j = accW p j) && (getb p.dn j == accD p j)) := by
  unfold accB accW
  rw [show (getb p.ran j && decide (leftD p j = 0)) = accD p j from rfl]
  cases h1 : getb p.dn j <;> cases h2 : accD p j <;> simp

set_option maxHeartbeats 6400000 in
theorem crewJobs_any (S : Nat → Prop) (g qp : Nat) (a : PA) (p : PoolD) (w : World) (hT : Hid (Tree p.js)) (hlen : Hid (LenP p)) (hsz : Hid (∀ k, (getj p.js k).ks.length ≤ 1048576)) (hzQ : sizeQ p.dq ≤ 1048576) (h : CrewR w S g qp a p) :
    Calls Try.prog 63 #[.pointer (some ⟨g, 0, none⟩)] w fun e w' => e = .returned (.bool (innB p && allB (rowB p) p.js.length && allB (accB p) p.js.length)) ∧ Below w.heap.size w w' := by
  obtain ⟨res, hres⟩ : ∃ res, res = (innB p && allB (rowB p) p.js.length && allB (accB p) p.js.length) := ⟨_, rfl⟩
  rw [← hres]
  replace hres := hide hres
  have h30 := hT.out.top
  have hcq := hide (fun (x : Int) => Nat.le_trans (cntQ_le p.dq x) (show (lensQ p.dq).sum ≤ 1048576 by unfold sizeQ at hzQ; omega))
  have kS := hide (standing_any S g qp a p w hT hzQ h)
  replace h := hide h
  go_enter Try.func63, Try.ntmps63
  go_upto_region 2 with (go_at_call 100; refine kS.out.mono ?_; rintro e w1 ⟨hc, hb⟩; rcases hc with ⟨hI, rfl, hF⟩ | ⟨hI, rfl⟩)
  · replace hI := hide hI
    have F1 := hide hF
    obtain ⟨⟨x0, -, -, -, -, -, -, -⟩, xl⟩ := box8 (h.out.next hb).box
    have B1 := hide hb
    clear hF hb kS
    go_wp2_with fail
    clear x0 xl
    go_loopw [19] (fun i wr => ∃ j : Nat, j ≤ p.js.length ∧ i = .int .i64 j ∧ Hid (FnAt wr w.heap.size p.js.length (fun m => (cntQ p.dq (m : Int) : Int))) ∧ Hid (Below w.heap.size w wr) ∧ Hid (∀ i, i < j → rowB p i = true ∧ accB p i = true)) (fun i _ => p.js.length - (intOf i).toNat)
    case atStart => exact ⟨0, by omega, rfl, F1, B1, hide (fun i hi => by omega)⟩
    case round =>
      clear F1 B1
      obtain ⟨j, hj, rfl, F, B, K⟩ := hrel
      by_cases hlt : j < p.js.length
      · have hlt' : (j : Int) < p.js.length := by omega
        have hC := hide (h.out.next B.out)
        obtain ⟨xc, -⟩ := F.out.cell hlt
        have hlF := F.out.lt
        obtain ⟨n, hn⟩ : ∃ n, n = cntQ p.dq (j : Int) := ⟨_, rfl⟩
        have hn1 : n ≤ 1048576 := by rw [hn]; exact hcq.out _
        rw [← hn] at xc
        have hR := hide (rowB_stand p j)
        rw [← hn] at hR
        replace hn := hide hn
        have kT := hide (standsOk_any S g qp a p wr hT hlen j n hn1 hlt hC.out)
        have kA := hide (fun w2 (hb : Below wr.heap.size wr w2) => accountOf_any S g qp a p w2 hlen j hlt (hC.out.next hb))
        have kK := hide (fun w2 (hb : Below wr.heap.size wr w2) => accountByKids_any S g qp a p w2 hT hlen hsz j hlt (hC.out.next hb))
        rw [accK_eq] at kK
        unfold accV at kA kK
        have hN := hide (show rowB p j = false → res = false from fun e => by rw [hres.out, allB_no hlt e, Bool.and_false, Bool.false_and])
        have hN2 := hide (show accB p j = false → res = false from fun e => by rw [hres.out, allB_no hlt e, Bool.and_false])
        have hY := hide (show rowB p j = true → accB p j = true → ∀ i, i < j + 1 → rowB p i = true ∧ accB p i = true from fun e1 e2 i hi => by
          rcases Nat.lt_or_ge i j with h | h
          · exact K.out i h
          · obtain rfl : i = j := by omega
            exact ⟨e1, e2⟩)
        have hacc := hide (accB_eq p j)
        obtain ⟨d, hd⟩ : ∃ z, z = getb p.dn j := ⟨_, rfl⟩
        obtain ⟨zL, hzL⟩ : ∃ z, z = geti p.lf j := ⟨_, rfl⟩
        obtain ⟨zM, hzM⟩ : ∃ z, z = geti p.sm j := ⟨_, rfl⟩
        obtain ⟨zV, hzV⟩ : ∃ z, z = geti p.vl j := ⟨_, rfl⟩
        obtain ⟨d2, hd2⟩ : ∃ z, z = accD p j := ⟨_, rfl⟩
        obtain ⟨yL, hyL⟩ : ∃ z, z = leftD p j := ⟨_, rfl⟩
        obtain ⟨yM, hyM⟩ : ∃ z, z = sumD p j := ⟨_, rfl⟩
        obtain ⟨yV, hyV⟩ : ∃ z, z = accW p j := ⟨_, rfl⟩
        rw [← hd, ← hzL, ← hzM, ← hzV] at kA
        rw [← hd2, ← hyL, ← hyM, ← hyV] at kK
        rw [← hd, ← hzL, ← hzM, ← hzV, ← hd2, ← hyL, ← hyM, ← hyV] at hacc
        replace F := hide F.out
        clear hd hzL hzM hzV hd2 hyL hyM hyV K
        cases hrow : rowB p j
        · have hE := hide (hN.out hrow)
          rw [← hR.out, hrow] at kT
          go_wp2_with (go_at_call 101; refine kT.out.mono ?_; rintro e w2 ⟨rfl, hb2⟩)
          go_ret
          exact ⟨ret_bool hE.out.symm, below_next B.out hb2 B.out.size⟩
        · rw [← hR.out, hrow] at kT
          have hRow := hide hrow
          clear hrow
          by_cases hdd : d = d2
          · subst hdd
            by_cases c1 : zL = yL
            · subst c1
              by_cases c2 : zM = yM
              · subst c2
                by_cases c3 : zV = yV
                · subst c3
                  have hw1 := hide (hY.out hRow.out (by rw [hacc.out]; simp))
                  go_wp2_with (first
                    | (go_at_call 101; refine kT.out.mono ?_; rintro e w2 ⟨rfl, hb2⟩)
                    | (go_at_call 102; refine (kA.out w2 hb2).mono ?_; rintro e w3 ⟨rfl, hb3⟩; replace hb3 := below_next hb2 hb3 hb2.size)
                    | (go_at_call 103; refine (kK.out w3 hb3).mono ?_; rintro e w4 ⟨rfl, hb4⟩; replace hb4 := below_next hb3 hb4 hb3.size))
                  go_roundw
                  case rel => exact ⟨j + 1, by omega, by go_num, hide (F.out.next hb4), hide (below_next B.out hb4 B.out.size), hw1⟩
                  case measure => simp [intOf]; omega
                · have hE := hide (hN2.out (by rw [hacc.out]; simp [c3]))
                  have hb0 : (zV == yV) = false := by simpa using c3
                  clear c3
                  go_wp2_with (first
                    | (go_at_call 101; refine kT.out.mono ?_; rintro e w2 ⟨rfl, hb2⟩)
                    | (go_at_call 102; refine (kA.out w2 hb2).mono ?_; rintro e w3 ⟨rfl, hb3⟩; replace hb3 := below_next hb2 hb3 hb2.size)
                    | (go_at_call 103; refine (kK.out w3 hb3).mono ?_; rintro e w4 ⟨rfl, hb4⟩; replace hb4 := below_next hb3 hb4 hb3.size))
                  go_ret
                  exact ⟨ret_bool hE.out.symm, below_next B.out hb4 B.out.size⟩
              · have hE := hide (hN2.out (by rw [hacc.out]; simp [c2]))
                have hb0 : (zM == yM) = false := by simpa using c2
                clear c2
                go_wp2_with (first
                  | (go_at_call 101; refine kT.out.mono ?_; rintro e w2 ⟨rfl, hb2⟩)
                  | (go_at_call 102; refine (kA.out w2 hb2).mono ?_; rintro e w3 ⟨rfl, hb3⟩; replace hb3 := below_next hb2 hb3 hb2.size)
                  | (go_at_call 103; refine (kK.out w3 hb3).mono ?_; rintro e w4 ⟨rfl, hb4⟩; replace hb4 := below_next hb3 hb4 hb3.size))
                go_ret
                exact ⟨ret_bool hE.out.symm, below_next B.out hb4 B.out.size⟩
            · have hE := hide (hN2.out (by rw [hacc.out]; simp [c1]))
              have hb0 : (zL == yL) = false := by simpa using c1
              clear c1
              go_wp2_with (first
                | (go_at_call 101; refine kT.out.mono ?_; rintro e w2 ⟨rfl, hb2⟩)
                | (go_at_call 102; refine (kA.out w2 hb2).mono ?_; rintro e w3 ⟨rfl, hb3⟩; replace hb3 := below_next hb2 hb3 hb2.size)
                | (go_at_call 103; refine (kK.out w3 hb3).mono ?_; rintro e w4 ⟨rfl, hb4⟩; replace hb4 := below_next hb3 hb4 hb3.size))
              go_ret
              exact ⟨ret_bool hE.out.symm, below_next B.out hb4 B.out.size⟩
          · have hE := hide (hN2.out (by rw [hacc.out]; simp [hdd]))
            have hb0 : (d == d2) = false := by simpa using hdd
            clear hdd
            go_wp2_with (first
              | (go_at_call 101; refine kT.out.mono ?_; rintro e w2 ⟨rfl, hb2⟩)
              | (go_at_call 102; refine (kA.out w2 hb2).mono ?_; rintro e w3 ⟨rfl, hb3⟩; replace hb3 := below_next hb2 hb3 hb2.size)
              | (go_at_call 103; refine (kK.out w3 hb3).mono ?_; rintro e w4 ⟨rfl, hb4⟩; replace hb4 := below_next hb3 hb4 hb3.size))
            go_ret
            exact ⟨ret_bool hE.out.symm, below_next B.out hb4 B.out.size⟩
      · obtain rfl : j = p.js.length := by omega
        have hE := hide (show res = true from by rw [hres.out, hI.out, allB_yes (fun i hi => (K.out i hi).1), allB_yes (fun i hi => (K.out i hi).2)]; rfl)
        clear F K
        go_wp2_with fail
        go_ret
        exact ⟨ret_bool hE.out.symm, B.out⟩
  · have hE := hide (show res = false from by rw [hres.out, hI, Bool.false_and, Bool.false_and])
    go_wp2_with fail
    go_ret
    exact ⟨ret_bool hE.out.symm, hb⟩
end Go.Proofs.Ytmhldlpjiepmpaa
