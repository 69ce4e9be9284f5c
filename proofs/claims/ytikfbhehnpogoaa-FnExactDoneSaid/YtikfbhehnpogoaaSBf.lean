/- spec.l2bufs, spec.StateOk of any state. -/
import Derived.Test.YtikfbhehnpogoaaL4ok
import Derived.Test.YtikfbhehnpogoaaSInsOk
namespace Go.Proofs.Ytikfbhehnpogoaa
open Go.RowKit

set_option maxRecDepth 100000 in
set_option maxHeartbeats 12800000 in
theorem sl2bufs_any (s : StD) (A1 A2 : Option Addr) (n1 n2 c1 c2 n : Nat) (w : World) (hs : StAt w n s) (hl : StLen s) (_hn1 : n1 ≤ 9223372036854775807) :
    Calls Try.prog 83 #[.agg #[.slice A1 n1 c1, .slice A2 n2 c2], .agg s.cells] w fun e w' => e = .returned (.bool (bufsB n1 n2 s.bufs.rs)) ∧ Below w.heap.size w w' := by
  have hn : n ≤ w.heap.size := hs.sz
  have hS : ∀ b, Old n b → b < w.heap.size := hs.lts
  have hb0 := hide (below2 w (Obj.cells #[.slice A1 n1 c1, .slice A2 n2 c2] 26) (Obj.cells s.cells 33))
  have G0 := hide ((Blk.new w 26 #[.slice A1 n1 c1, .slice A2 n2 c2]).alloc (Obj.cells s.cells 33))
  have K0 := Blk.new (w.alloc (Obj.cells #[.slice A1 n1 c1, .slice A2 n2 c2] 26)) 33 s.cells
  simp only [World.size_alloc] at K0
  replace K0 := hide K0
  obtain ⟨res, hres⟩ : ∃ res, res = bufsB n1 n2 s.bufs.rs := ⟨_, rfl⟩
  rw [← hres]
  replace hres := hide hres
  have hlB := hl.bufs
  have hBn := hs.bufs.1
  have hs0 := hide (hs.next hb0.out)
  replace hl := hide hl
  replace hs := hide hs
  unfold StD.cells at hb0 K0 G0 hs0 ⊢
  go_enter Try.func83, Try.ntmps83
  by_cases x1 : s.bufs.n = n2
  · have x1' : ((s.bufs.n : Int) != (n2 : Int)) = false := by simp [x1]
    have x1h := hide (show s.bufs.rs.length = n2 by omega)
    clear x1
    go_wp2_with fail
    obtain ⟨w0, hw0⟩ : ∃ wq, wq = (w.alloc (Obj.cells #[.slice A1 n1 c1, .slice A2 n2 c2] 26)).alloc (Obj.cells #[.int .i64 s.kind, .slice s.pc.A s.pc.n s.pc.c, .slice s.F.A s.F.n s.F.c, .slice s.mem.A s.mem.n s.mem.c, .slice s.bufs.A s.bufs.n s.bufs.c, .slice s.H.A s.H.n s.H.c, .slice s.view.A s.view.n s.view.c, .slice s.sc.A s.sc.n s.sc.c, .int .i64 s.next] 33) := ⟨_, rfl⟩
    rw [← hw0] at hs0 K0 G0 hb0 ⊢
    clear hw0
    have lg := K0.out.lt
    go_loopw [5] (fun i wr => ∃ (k : Nat), k ≤ s.bufs.rs.length ∧ i = .int .i64 k ∧ Hid (∀ j, j < k → waitsB n1 (getr s.bufs.rs j) = true) ∧ wr = w0) (fun i _ => s.bufs.rs.length - (intOf i).toNat)
    case atStart => exact ⟨0, Nat.zero_le _, rfl, hide (fun j hj => by omega), rfl⟩
    case round =>
      obtain ⟨k, hk, rfl, hdone, rfl⟩ := hrel
      have kx4 : wr.cell? ⟨w.heap.size + 1, 4, none⟩ = some (.slice s.bufs.A s.bufs.n s.bufs.c) := K0.out.cell 4
      have kg0 : wr.cell? ⟨w.heap.size, 0, none⟩ = some (.slice A1 n1 c1) := G0.out.cell 0
      by_cases hlt : k < s.bufs.rs.length
      · obtain ⟨b, off, eA, hSb, hc⟩ := hs0.out.bufs.2 (by omega)
        rw [eA] at kx4
        replace eA := hide eA
        obtain ⟨A', c', hcell, hi⟩ := hc k hlt
        have hlt' : (k : Int) < (s.bufs.n : Int) := by omega
        have hk0 : (0 : Int) ≤ (k : Int) := by omega
        have hbl := Nat.lt_of_lt_of_le hSb hs0.out.sz
        have hzk := hl.out.eB k hlt
        obtain ⟨gn, hgn⟩ : ∃ gn, gn = (getr s.bufs.rs k).n := ⟨_, rfl⟩
        obtain ⟨zs, hgz⟩ : ∃ zs, zs = (getr s.bufs.rs k).zs := ⟨_, rfl⟩
        have hwB : waitsB n1 (getr s.bufs.rs k) = (decide (gn ≤ 4) && allB (fun j => decide (0 ≤ geti zs (j * 2) ∧ geti zs (j * 2) < (n1 : Int))) gn) := by unfold waitsB; rw [← hgn, ← hgz]
        rw [← hgn, ← hgz] at hzk
        rw [← hgn] at hcell
        rw [← hgz] at hi
        replace hwB := hide hwB
        clear hgn hgz hc
        have hin := hi.1
        replace hi := hide hi
        have hbad := hide (fun (hx : waitsB n1 (getr s.bufs.rs k) = false) => (show res = false from by rw [hres.out]; unfold bufsB; rw [allB_no hlt hx]; simp))
        replace hlB := hide hlB
        by_cases h4 : gn ≤ 4
        · have h4' : decide ((4 : Int) < (gn : Int)) = false := by simp; omega
          go_wp2_with fail
          go_loopw [6] (fun i ws => ∃ (j : Nat), j ≤ gn ∧ i = .int .i64 j ∧ Hid (∀ m, m < j → 0 ≤ geti zs (m * 2) ∧ geti zs (m * 2) < (n1 : Int)) ∧ ws = wr) (fun i _ => gn - (intOf i).toNat)
          case atStart => exact ⟨0, Nat.zero_le _, rfl, hide (fun m hm => by omega), rfl⟩
          case round =>
            obtain ⟨j, hj, rfl, hdj, rfl⟩ := hrel
            by_cases hjl : j < gn
            · obtain ⟨b2, off2, rfl, hSb2, hc2⟩ := hi.out.2 (by omega)
              have x0 := hc2 (j * 2) (by omega)
              have hjl' : (j : Int) < (gn : Int) := by omega
              have hj0 : (0 : Int) ≤ (j : Int) := by omega
              have hbl2 := Nat.lt_of_lt_of_le hSb2 hs0.out.sz
              obtain ⟨gx, hgx⟩ : ∃ gx, gx = geti zs (j * 2) := ⟨_, rfl⟩
              rw [← hgx] at x0
              replace hgx := hide hgx
              clear hc2
              by_cases y0 : gx < 0
              · have y0' : decide (gx < 0) = true := decide_eq_true y0
                have hE := hide (hbad.out (by rw [hwB.out, allB_no hjl (by rw [decide_eq_false]; rw [← hgx.out]; omega)]; simp))
                clear y0
                go_wp2_with fail
                go_ret
                exact ⟨ret_bool hE.out.symm, hb0.out⟩
              · have y0' : decide (gx < 0) = false := decide_eq_false y0
                by_cases y1 : (n1 : Int) ≤ gx
                · have y1' : decide ((n1 : Int) ≤ gx) = true := decide_eq_true y1
                  have hE := hide (hbad.out (by rw [hwB.out, allB_no hjl (by rw [decide_eq_false]; rw [← hgx.out]; omega)]; simp))
                  clear y0 y1
                  go_wp2_with fail
                  go_ret
                  exact ⟨ret_bool hE.out.symm, hb0.out⟩
                · have y1' : decide ((n1 : Int) ≤ gx) = false := decide_eq_false y1
                  have hok := hide (show 0 ≤ geti zs (j * 2) ∧ geti zs (j * 2) < (n1 : Int) from by rw [← hgx.out]; omega)
                  clear y0 y1
                  go_wp2_with fail
                  go_roundw
                  case rel => exact ⟨j + 1, by omega, by go_num, hide (fun m hm => by
                    rcases Nat.lt_succ_iff_lt_or_eq.1 hm with h | rfl
                    · exact hdj.out m h
                    · exact hok.out), by trivial⟩
                  case measure => simp [intOf]; omega
            · obtain rfl : j = gn := by omega
              go_wp2_with fail
              go_roundw
              case rel => exact ⟨k + 1, by omega, by go_num, hide (fun m hm => by
                rcases Nat.lt_succ_iff_lt_or_eq.1 hm with h | rfl
                · exact hdone.out m h
                · rw [hwB.out, allB_yes (fun m hm => decide_eq_true (hdj.out m hm))]; simp [h4]), by trivial⟩
              case measure => simp [intOf]; omega
        · have h4' : decide ((4 : Int) < (gn : Int)) = true := by simp; omega
          have hE := hide (hbad.out (by rw [hwB.out]; simp [h4]))
          go_wp2_with fail
          go_ret
          exact ⟨ret_bool hE.out.symm, hb0.out⟩
      · obtain rfl : k = s.bufs.rs.length := by omega
        have hE := hide (show res = true from by rw [hres.out]; unfold bufsB; rw [allB_yes hdone.out]; simp [x1h.out])
        have hnl : decide ((s.bufs.rs.length : Int) < (s.bufs.n : Int)) = false := decide_eq_false (by omega)
        have hnl2 : ¬ ((s.bufs.rs.length : Int) < (s.bufs.n : Int)) := by omega
        replace hlB := hide hlB
        go_wp2_with fail
        go_ret
        exact ⟨ret_bool hE.out.symm, hb0.out⟩
  · have x1' : ((s.bufs.n : Int) != (n2 : Int)) = true := by rw [bne_iff_ne]; omega
    have hE := hide (show res = false from by rw [hres.out]; unfold bufsB; simp [show ¬ s.bufs.rs.length = n2 by omega])
    clear x1
    go_wp2_with fail
    go_ret
    exact ⟨ret_bool hE.out.symm, hb0.out⟩

/-- Is it a kind? -/
def kindB (k : Int) : Bool := decide (0 ≤ k) && decide (k ≤ 2)
set_option maxHeartbeats 800000 in
theorem l2kind_any (k : Int) (w : World) : Calls Try.prog 50 #[.int .i64 k] w fun e w' => e = .returned (.bool (kindB k)) ∧ w = w' := by
  by_cases h0 : 0 ≤ k
  · have h0' : decide (0 ≤ k) = true := decide_eq_true h0
    have hE : kindB k = decide (k ≤ 2) := by unfold kindB; rw [h0']; rfl
    rw [hE]
    clear h0 hE
    go_enter Try.func50, Try.ntmps50
    go_wp2
    go_ret
    exact ⟨rfl, rfl⟩
  · have h0' : decide (0 ≤ k) = false := decide_eq_false h0
    have hE : kindB k = false := by unfold kindB; rw [h0']; rfl
    rw [hE]
    clear h0 hE
    go_enter Try.func50, Try.ntmps50
    go_wp2
    go_ret
    exact ⟨rfl, rfl⟩
end Go.Proofs.Ytikfbhehnpogoaa
