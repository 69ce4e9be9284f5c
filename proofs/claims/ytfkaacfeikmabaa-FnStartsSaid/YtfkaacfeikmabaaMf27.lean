/- bufsOk of any buffers. -/
import Derived.Test.YtfkaacfeikmabaaMf0
import Derived.Test.YtfkaacfeikmabaaMf20
import Derived.Test.YtfkaacfeikmabaaMf26
namespace Go.Proofs.Ytfkaacfeikmabaa
open Go.RowKit

set_option maxRecDepth 100000 in
set_option maxHeartbeats 12800000 in
theorem bufsOk_any (A1 A2 A3 A4 A5 A6 : Option Addr) (n1 n2 n3 n4 n5 c1 c2 c3 c4 c5 c6 : Nat) (rs : List RowD) (S : Nat → Prop) (w : World) (hz : ∀ k, k < rs.length → (getr rs k).zs.length = (getr rs k).n * 2) (hS : ∀ b, S b → b < w.heap.size) (hp : RowsAt w S A6 rs) :
    Calls Try.prog 106 #[.agg #[.slice A1 n1 c1, .slice A2 n2 c2, .slice A3 n3 c3, .slice A4 n4 c4, .slice A5 n5 c5, .slice A6 rs.length c6]] w fun e w' => e = .returned (.bool (bufsB n1 n2 rs)) ∧ Below w.heap.size w w' := by
  have hn := hp.1
  have hp := hide hp
  have hz := hide hz
  have K0 := hide (Blk.new w 141 #[.slice A1 n1 c1, .slice A2 n2 c2, .slice A3 n3 c3, .slice A4 n4 c4, .slice A5 n5 c5, .slice A6 rs.length c6])
  have hb0 := hide (below1 w (Obj.cells #[.slice A1 n1 c1, .slice A2 n2 c2, .slice A3 n3 c3, .slice A4 n4 c4, .slice A5 n5 c5, .slice A6 rs.length c6] 141))
  go_enter Try.func106, Try.ntmps106
  go_wp2_with fail
  obtain ⟨wq, hwq⟩ : ∃ wq, wq = w.alloc (Obj.cells #[.slice A1 n1 c1, .slice A2 n2 c2, .slice A3 n3 c3, .slice A4 n4 c4, .slice A5 n5 c5, .slice A6 rs.length c6] 141) := ⟨_, rfl⟩
  rw [← hwq] at K0 hb0 ⊢
  clear hwq
  have H0 : Hid (Blk wq.drew w.heap.size 141 #[.slice A1 n1 c1, .slice A2 n2 c2, .slice A3 n3 c3, .slice A4 n4 c4, .slice A5 n5 c5, .slice A6 rs.length c6]) := K0.out
  replace hb0 := hide hb0.out.drew
  clear K0
  go_region_held3 (fun w' => w'.cell? ⟨w.heap.size, 0, none⟩ = some (.slice A1 n1 c1) ∧ w'.cell? ⟨w.heap.size, 1, none⟩ = some (.slice A2 n2 c2) ∧ w'.cell? ⟨w.heap.size, 2, none⟩ = some (.slice A3 n3 c3) ∧ w'.cell? ⟨w.heap.size, 3, none⟩ = some (.slice A4 n4 c4) ∧ w'.cell? ⟨w.heap.size, 4, none⟩ = some (.slice A5 n5 c5) ∧ w'.cell? ⟨w.heap.size, 5, none⟩ = some (.slice A6 rs.length c6))
    (first | exact buf6 H0.out | exact buf6 H1.out)
    (first
    | (go_at_call 161; refine (comThreads_any _ _ _ _ _ _ _ _ _ _ _ _ _).mono ?_; rintro e w1 ⟨rfl, hb1⟩; have H1 := hide (H0.out.below hb1 H0.out.lt); have B1 := hide (below_then hb0.out hb1)))
  clear H0 hb0 hb1
  have hl1 := H1.out.lt
  by_cases hl : rs.length = n2
  · have hl' : ((rs.length : Int) != (n2 : Int)) = false := by simp [hl]
    rw [hl']
    clear hl'
    obtain ⟨k0, k1, k2, k3, k4, k5⟩ := buf6 H1.out
    have hlH := hide hl
    clear hl
    go_wp2_with fail
    clear k0 k1 k2 k3 k4 k5
    go_loopw [17] (fun i wr => ∃ (k : Nat), k ≤ rs.length ∧ i = .int .i64 k ∧ Hid (∀ j, j < k → waitsB n1 (getr rs j) = true) ∧ Hid (Below w1.heap.size w1 wr)) (fun i _ => rs.length - (intOf i).toNat)
    case atStart => exact ⟨0, Nat.zero_le _, rfl, hide (fun j hj => by omega), hide (Below.refl _ _)⟩
    case round =>
      obtain ⟨k, hk, rfl, hdone, hb⟩ := hrel
      have hbw := B1.out.trans (hb.out.mono (by omega))
      by_cases hlt : k < rs.length
      · obtain ⟨b, off, rfl, hSb, hc⟩ := (hp.out.below hbw hS).2 (by omega)
        obtain ⟨A', c', hcell, hi⟩ := hc k hlt
        have hlt' : (k : Int) < (rs.length : Int) := by omega
        have hk0 : (0 : Int) ≤ (k : Int) := by omega
        have hbl := Nat.lt_of_lt_of_le (hS b hSb) hbw.size
        have hzk := hz.out k hlt
        obtain ⟨gn, hgn⟩ : ∃ gn, gn = (getr rs k).n := ⟨_, rfl⟩
        obtain ⟨zs, hgz⟩ : ∃ zs, zs = (getr rs k).zs := ⟨_, rfl⟩
        have hwB : waitsB n1 (getr rs k) = (decide (gn ≤ 4) && allB (fun j => decide (0 ≤ geti zs (j * 2) ∧ geti zs (j * 2) < (n1 : Int))) gn) := by unfold waitsB; rw [← hgn, ← hgz]
        rw [← hgn, ← hgz] at hzk
        rw [← hgn] at hcell
        rw [← hgz] at hi
        replace hwB := hide hwB
        clear hgn hgz hc
        have hin := hi.1
        have hi := hide hi
        have hb2 := hide (hb.out.alloc hb.out.size (Obj.cells #[.slice A' gn c'] 182))
        have hbad := hide (fun (hx : waitsB n1 (getr rs k) = false) => (show bufsB n1 n2 rs = false from by unfold bufsB; rw [allB_no hlt hx]; simp))
        have hlr := Nat.lt_of_lt_of_le hl1 hb.out.size
        by_cases h4 : gn ≤ 4
        · have h4' : decide ((4 : Int) < (gn : Int)) = false := by simp; omega
          obtain ⟨w2, hw2⟩ : ∃ wq, wq = wr.alloc (Obj.cells #[.slice A' gn c'] 182) := ⟨_, rfl⟩
          have hb12 : Below wr.heap.size wr w2 := by rw [hw2]; exact below1 _ _
          have hi2 := hide (hi.out.below hb12 (fun b h => Nat.lt_of_lt_of_le (hS b h) hbw.size))
          have hlr2 := Nat.lt_of_lt_of_le hlr hb12.size
          go_wp2_with fail
          rw [← hw2] at hb2 ⊢
          clear hw2 hb12
          have hbw2 := hide (B1.out.trans (hb2.out.mono (by omega)))
          go_loopw [28] (fun i wx => ∃ (j : Nat), j ≤ gn ∧ i = .int .i64 j ∧ Hid (∀ m, m < j → 0 ≤ geti zs (m * 2) ∧ geti zs (m * 2) < (n1 : Int)) ∧ Hid (Below w2.heap.size w2 wx)) (fun i _ => gn - (intOf i).toNat)
          case atStart => exact ⟨0, Nat.zero_le _, rfl, hide (fun m hm => by omega), hide (Below.refl _ _)⟩
          case round =>
            obtain ⟨j, hj, rfl, hdj, hbx⟩ := hrel
            by_cases hjl : j < gn
            · obtain ⟨b2, off2, rfl, hSb2, hc2⟩ := (hi2.out.below hbx.out (fun b h => Nat.lt_of_lt_of_le (hS b h) hbw2.out.size)).2 (by omega)
              have x0 := hc2 (j * 2) (by omega)
              have x1 := hc2 (j * 2 + 1) (by omega)
              rw [← Nat.add_assoc] at x1
              have hjl' : (j : Int) < (gn : Int) := by omega
              have hj0 : (0 : Int) ≤ (j : Int) := by omega
              have hbl2 := Nat.lt_of_lt_of_le (hS b2 hSb2) (Nat.le_trans hbw2.out.size hbx.out.size)
              obtain ⟨gx, hgx⟩ : ∃ gx, gx = geti zs (j * 2) := ⟨_, rfl⟩
              obtain ⟨gv, hgv⟩ : ∃ gv, gv = geti zs (j * 2 + 1) := ⟨_, rfl⟩
              rw [← hgx] at x0
              rw [← hgv] at x1
              replace hgx := hide hgx
              clear hc2 hgv
              have Kx := hide (((H1.out.below hb2.out hl1).below hbx.out hlr2).alloc (Obj.cells #[.int .i64 gx, .int .i64 gv] 197))
              have X0 := hide (Blk.new wr 197 #[.int .i64 gx, .int .i64 gv])
              have hbx2 := hide (hbx.out.alloc hbx.out.size (Obj.cells #[.int .i64 gx, .int .i64 gv] 197))
              go_wp2_with fail
              obtain ⟨w3, hw3⟩ : ∃ wq, wq = wr.alloc (Obj.cells #[.int .i64 gx, .int .i64 gv] 197) := ⟨_, rfl⟩
              rw [← hw3] at Kx X0 hbx2 ⊢
              clear hw3
              generalize wr.heap.size = U at *
              have Kd := hide (show Blk w3.drew w.heap.size _ _ from Kx.out)
              have Xd := hide (show Blk w3.drew U _ _ from X0.out)
              have hbd := hide hbx2.out.drew
              go_region_held3 (fun w' => (w'.cell? ⟨w.heap.size, 0, none⟩ = some (.slice A1 n1 c1) ∧ w'.cell? ⟨w.heap.size, 1, none⟩ = some (.slice A2 n2 c2) ∧ w'.cell? ⟨w.heap.size, 2, none⟩ = some (.slice A3 n3 c3) ∧ w'.cell? ⟨w.heap.size, 3, none⟩ = some (.slice A4 n4 c4) ∧ w'.cell? ⟨w.heap.size, 4, none⟩ = some (.slice A5 n5 c5) ∧ w'.cell? ⟨w.heap.size, 5, none⟩ = some (.slice (some ⟨b, off, none⟩) rs.length c6)) ∧ w'.cell? ⟨U, 0, none⟩ = some (.int .i64 gx))
                (first | exact ⟨buf6 Kd.out, Xd.out.cell 0⟩ | exact ⟨buf6 K5.out, X5.out.cell 0⟩)
                (first
                | (go_at_call 103; refine (comCells_any _ _ _ _ _ _ _ _ _ _ _ _ _).mono ?_; rintro e w5 ⟨rfl, hb5⟩; have K5 := hide (Kd.out.below hb5 Kd.out.lt); have X5 := hide (Xd.out.below hb5 Xd.out.lt); have B5 := hide (below_then hbd.out hb5))
                | (go_at_call 162; refine (isCell_any _ _ _).mono ?_; rintro e w6 ⟨rfl, rfl⟩))
              by_cases hin : 0 ≤ gx ∧ gx < (n1 : Int)
              · have hcB : cellB gx n1 = true := cellB_yes hin
                rw [hcB]
                go_wp2_with fail
                go_roundw
                case rel => exact ⟨j + 1, by omega, by go_num, hide (fun m hm => by
                  rcases Nat.lt_succ_iff_lt_or_eq.1 hm with h | rfl
                  · exact hdj.out m h
                  · rw [← hgx.out]; exact hin), B5⟩
                case measure => simp [intOf]; omega
              · have hcB : cellB gx n1 = false := cellB_no hin
                have hE := hide (hbad.out (by rw [hwB.out, allB_no hjl (by rw [decide_eq_false]; rw [← hgx.out]; exact hin)]; simp))
                rw [hcB]
                go_wp2_with fail
                go_ret
                exact ⟨ret_bool hE.out.symm, hbw2.out.trans (B5.out.mono (by have := hbw2.out.size; omega))⟩
            · obtain rfl : j = gn := by omega
              go_wp2_with fail
              go_roundw
              case rel => exact ⟨k + 1, by omega, by go_num, hide (fun m hm => by
                rcases Nat.lt_succ_iff_lt_or_eq.1 hm with h | rfl
                · exact hdone.out m h
                · rw [hwB.out, allB_yes (fun m hm => decide_eq_true (hdj.out m hm))]; simp [h4]), hide (hb2.out.trans (hbx.out.mono hb2.out.size))⟩
              case measure => simp [intOf]; omega
        · have h4' : decide ((4 : Int) < (gn : Int)) = true := by simp; omega
          have hE := hide (hbad.out (by rw [hwB.out]; simp [h4]))
          go_wp2_with fail
          go_ret
          exact ⟨ret_bool hE.out.symm, B1.out.trans (hb2.out.mono (by omega))⟩
      · obtain rfl : k = rs.length := by omega
        have hE := hide (show bufsB n1 n2 rs = true from by unfold bufsB; rw [allB_yes hdone.out]; simp [hlH.out])
        go_wp2_with fail
        go_ret
        exact ⟨ret_bool hE.out.symm, hbw⟩
  · have hl' : ((rs.length : Int) != (n2 : Int)) = true := by rw [bne_iff_ne]; omega
    have hE := hide (show bufsB n1 n2 rs = false from by unfold bufsB; simp [hl])
    go_wp2_with fail
    go_ret
    exact ⟨ret_bool hE.out.symm, B1.out⟩
end Go.Proofs.Ytfkaacfeikmabaa
