/- spec.StateOk of any state. -/
import Derived.Test.YtikfbhehnpogoaaSBf
namespace Go.Proofs.Ytikfbhehnpogoaa
open Go.RowKit

set_option maxRecDepth 100000 in
set_option maxHeartbeats 25600000 in
theorem sstateOk_in (p : ProgD) (s : StD) (A1 A2 : Option Addr) (c1 c2 n : Nat) (w : World) (hcc : p.init.length ≤ c1 ∧ p.ts.length ≤ c2) (hi : IntsAt w (Old n) A1 p.init) (ht : ThreadsAt w (Old n) A2 p.ts) (hs : StAt w n s) (hl : StLen s) :
    Calls Try.prog 24 #[.agg #[.slice A1 p.init.length c1, .slice A2 p.ts.length c2], .agg s.cells] w fun e w' => e = .returned (.bool (stateB p s)) ∧ Below w.heap.size w w' := by
  have hn : n ≤ w.heap.size := hs.sz
  have hS : ∀ b, Old n b → b < w.heap.size := hs.lts
  have hin := hi.1
  have htn := ht.1
  have hb0 := hide (below2 w (Obj.cells #[.slice A1 p.init.length c1, .slice A2 p.ts.length c2] 26) (Obj.cells s.cells 33))
  have G0 := hide ((Blk.new w 26 #[.slice A1 p.init.length c1, .slice A2 p.ts.length c2]).alloc (Obj.cells s.cells 33))
  have K0 := Blk.new (w.alloc (Obj.cells #[.slice A1 p.init.length c1, .slice A2 p.ts.length c2] 26)) 33 s.cells
  simp only [World.size_alloc] at K0
  replace K0 := hide K0
  have hok := hide (sprogOk_any (.agg #[.slice A1 p.init.length c1, .slice A2 p.ts.length c2]) p (Old n) _ (fun b h => Nat.lt_of_lt_of_le (hS b h) hb0.out.size) ⟨A1, c1, A2, c2, rfl, hcc, hi.below hb0.out hS, ht.below hb0.out hS⟩)
  obtain ⟨res, hres⟩ : ∃ res, res = stateB p s := ⟨_, rfl⟩
  rw [← hres]
  replace hres := hide hres
  have hs0 := hide (hs.next hb0.out)
  have ht0 := hide (ht.below hb0.out hS)
  have e4 := hide (fun (wX : World) (h : StAt wX n s) => sl4ok_any s A1 A2 p.init.length p.ts.length c1 c2 n wX h hl)
  have e2 := hide (fun (wX : World) (h : StAt wX n s) => sl2bufs_any s A1 A2 p.init.length p.ts.length c1 c2 n wX h hl hin)
  replace hl := hide hl
  clear hs ht hi
  unfold StD.cells at hb0 K0 G0 hs0 ht0 hok e4 e2 ⊢
  go_enter Try.func24, Try.ntmps24
  go_wp2_with fail
  refine hok.out.mono ?_
  rintro e w1 ⟨rfl, hb1⟩
  have B1 := hide (below_then hb0.out hb1)
  have G1 := hide (G0.out.below hb1 G0.out.lt)
  have K1 := hide (K0.out.below hb1 K0.out.lt)
  have hs1 := hide (hs0.out.next hb1)
  have ht1 := hide (ht0.out.below hb1 hs0.out.lts)
  have lg := K1.out.lt
  clear hok hb1 hb0 G0 K0 hs0 ht0
  cases hB : progB p
  · have hE := hide (show res = false from by rw [hres.out]; unfold stateB; rw [hB]; rfl)
    go_wp2_with fail
    go_ret
    exact ⟨ret_bool hE.out.symm, B1.out⟩
  · have hE1 := hide (show res = (comB p.ts s.pc.zs s.F.rs && restB p s) from by rw [hres.out]; unfold stateB; rw [hB]; rfl)
    clear hres
    have k0 : w1.cell? ⟨w.heap.size + 1, 0, none⟩ = some (.int .i64 s.kind) := K1.out.cell 0
    go_wp2_with fail
    refine (l2kind_any s.kind w1).mono ?_
    rintro e w2 ⟨rfl, rfl⟩
    clear k0
    cases hkb : kindB s.kind
    · have hE := hide (show res = false from by
        rw [hE1.out]; unfold restB kindB at *; simp at hkb
        rw [if_neg (by omega), if_neg (by omega), if_neg (by omega)]; simp)
      go_wp2_with fail
      go_ret
      exact ⟨ret_bool hE.out.symm, B1.out⟩
    · have hkd : s.kind = 0 ∨ s.kind = 1 ∨ s.kind = 2 := by unfold kindB at hkb; simp at hkb; omega
      clear hkb
      have hlp := hl.out.pc
      have hlf := hl.out.F
      by_cases x1 : s.pc.n = p.ts.length
      · have x1' : ((s.pc.n : Int) != (p.ts.length : Int)) = false := by simp [x1]
        by_cases x2 : s.F.n = p.ts.length
        · have x2' : ((s.F.n : Int) != (p.ts.length : Int)) = false := by simp [x2]
          have hpl : s.pc.zs.length = p.ts.length := by omega
          have hfl : s.F.rs.length = p.ts.length := by omega
          have hpn : p.ts.length ≤ s.pc.n ∧ p.ts.length ≤ s.F.n := by omega
          obtain ⟨hpn1, hpn2⟩ := hpn
          replace hpl := hide hpl
          replace hfl := hide hfl
          clear x1 x2 hlp hlf
          replace hkd := hide hkd
          have k1 : w1.cell? ⟨w.heap.size + 1, 1, none⟩ = some (.slice s.pc.A s.pc.n s.pc.c) := K1.out.cell 1
          have k2 : w1.cell? ⟨w.heap.size + 1, 2, none⟩ = some (.slice s.F.A s.F.n s.F.c) := K1.out.cell 2
          have g1 : w1.cell? ⟨w.heap.size, 1, none⟩ = some (.slice A2 p.ts.length c2) := G1.out.cell 1
          go_wp2_with fail
          clear k1 k2 g1 x1' x2'
          go_loopw [5] (fun i wr => ∃ (k : Nat), k ≤ p.ts.length ∧ i = .int .i64 k ∧ Hid (∀ j, j < k → 0 ≤ geti s.pc.zs j ∧ geti s.pc.zs j ≤ ((gett p.ts j).length : Int) ∧ (getr s.F.rs j).n = 6) ∧ Hid (Below w1.heap.size w1 wr)) (fun i _ => p.ts.length - (intOf i).toNat)
          case atStart => exact ⟨0, Nat.zero_le _, rfl, hide (fun j hj => by omega), hide (Below.refl _ _)⟩
          case round =>
            obtain ⟨k, hk, rfl, hdone, hbr⟩ := hrel
            have G2 := hide (G1.out.below hbr.out G1.out.lt)
            have K2 := hide (K1.out.below hbr.out lg)
            have S2 := hide (hs1.out.next hbr.out)
            have T2 := hide (ht1.out.below hbr.out hs1.out.lts)
            have B2 := hide (below_then B1.out hbr.out)
            have lg2 := K2.out.lt
            have k1 : wr.cell? ⟨w.heap.size + 1, 1, none⟩ = some (.slice s.pc.A s.pc.n s.pc.c) := K2.out.cell 1
            have k2 : wr.cell? ⟨w.heap.size + 1, 2, none⟩ = some (.slice s.F.A s.F.n s.F.c) := K2.out.cell 2
            have g1 : wr.cell? ⟨w.heap.size, 1, none⟩ = some (.slice A2 p.ts.length c2) := G2.out.cell 1
            by_cases hlt : k < p.ts.length
            · obtain ⟨b, off, eA, hSb, hc⟩ := T2.out.2 (by omega)
              obtain ⟨A', c', hcell, _, hth⟩ := hc k hlt
              have hn5 := hth.1
              clear hth hc
              obtain ⟨b2, off2, eA2, hSb2, hc2⟩ := S2.out.pc.2 (by have := hpl.out; omega)
              have hcell2 := hc2 k (by have := hpl.out; omega)
              obtain ⟨b3, off3, eA3, hSb3, hc3⟩ := S2.out.F.2 (by have := hfl.out; omega)
              obtain ⟨A'', c'', hcell3, hi3⟩ := hc3 k (by have := hfl.out; omega)
              have hn6 := hl.out.eF k (by have := hfl.out; omega)
              have hn7 := hi3.1
              rw [hn6] at hn7
              clear hc2 hc3 hi3 hn6
              rw [eA] at g1
              rw [eA2] at k1
              rw [eA3] at k2
              clear eA eA2 eA3
              have hlt' : (k : Int) < (p.ts.length : Int) := by omega
              have hlt3 : (k : Int) < (s.pc.n : Int) := by omega
              have hlt4 : (k : Int) < (s.F.n : Int) := by omega
              have hk0 : (0 : Int) ≤ (k : Int) := by omega
              obtain ⟨gn, hgn⟩ : ∃ gn, gn = (getr s.F.rs k).n := ⟨_, rfl⟩
              obtain ⟨gp, hgp⟩ : ∃ gp, gp = geti s.pc.zs k := ⟨_, rfl⟩
              obtain ⟨gl, hgl⟩ : ∃ gl, gl = (gett p.ts k).length := ⟨_, rfl⟩
              rw [← hgn] at hcell3 hn7
              rw [← hgp] at hcell2
              rw [← hgl] at hcell hn5
              have hbad := hide (fun (hx : ¬ (0 ≤ gp ∧ gp ≤ (gl : Int) ∧ gn = 6)) => (show res = false from by rw [hE1.out]; unfold comB; rw [allB_no hlt (by rw [decide_eq_false]; rw [← hgp, ← hgl, ← hgn]; exact hx)]; simp))
              have hgood := hide (fun (hx : 0 ≤ gp ∧ gp ≤ (gl : Int) ∧ gn = 6) => (show 0 ≤ geti s.pc.zs k ∧ geti s.pc.zs k ≤ ((gett p.ts k).length : Int) ∧ (getr s.F.rs k).n = 6 from by rw [← hgp, ← hgl, ← hgn]; exact hx))
              clear hgn hgp hgl
              by_cases hx1 : gp < 0
              · have hE := hide (hbad.out (by omega))
                have hd1 : decide (gp < 0) = true := decide_eq_true hx1
                clear hx1
                go_wp2_with fail
                go_quiet (fail)
                go_wp2_with fail
                go_ret
                exact ⟨ret_bool hE.out.symm, below_drewN B2.out _⟩
              · have hd1 : decide (gp < 0) = false := decide_eq_false hx1
                by_cases hx2 : (gl : Int) < gp
                · have hE := hide (hbad.out (by omega))
                  have hd2 : decide ((gl : Int) < gp) = true := decide_eq_true hx2
                  clear hx1 hx2
                  go_wp2_with fail
                  go_quiet (fail)
                  go_wp2_with fail
                  go_ret
                  exact ⟨ret_bool hE.out.symm, below_drewN B2.out _⟩
                · have hd2 : decide ((gl : Int) < gp) = false := decide_eq_false hx2
                  by_cases hx3 : gn = 6
                  · have hok := hide (hgood.out ⟨by omega, by omega, hx3⟩)
                    subst hx3
                    clear hx1 hx2 hbad hgood
                    go_wp2_with fail
                    go_quiet (fail)
                    go_wp2_with fail
                    go_roundw
                    case rel => exact ⟨k + 1, by omega, by go_num, hide (fun j hj => by
                      rcases Nat.lt_succ_iff_lt_or_eq.1 hj with h | rfl
                      · exact hdone.out j h
                      · exact hok.out), hide (below_drewN hbr.out _)⟩
                    case measure => simp [intOf]; omega
                  · have hd3 : ((gn : Int) != 6) = true := by rw [bne_iff_ne]; omega
                    have hE := hide (hbad.out (by omega))
                    clear hx1 hx2 hx3
                    go_wp2_with fail
                    go_quiet (fail)
                    go_wp2_with fail
                    go_ret
                    exact ⟨ret_bool hE.out.symm, below_drewN B2.out _⟩
            · obtain rfl : k = p.ts.length := by omega
              have hE2 := hide (show res = restB p s from by rw [hE1.out]; unfold comB; rw [allB_yes (fun j hj => decide_eq_true (hdone.out j hj))]; simp [hpl.out, hfl.out])
              have c4 := hide (e4.out wr S2.out)
              have c2' := hide (e2.out wr S2.out)
              have hlb := hl.out.bufs
              have hlh := hl.out.H
              have hlv := hl.out.view
              clear hE1 hdone k1 k2 e4 e2
              have k0 : wr.cell? ⟨w.heap.size + 1, 0, none⟩ = some (.int .i64 s.kind) := K2.out.cell 0
              have k1 : wr.cell? ⟨w.heap.size + 1, 1, none⟩ = some (.slice s.pc.A s.pc.n s.pc.c) := K2.out.cell 1
              have k2 : wr.cell? ⟨w.heap.size + 1, 2, none⟩ = some (.slice s.F.A s.F.n s.F.c) := K2.out.cell 2
              have k3 : wr.cell? ⟨w.heap.size + 1, 3, none⟩ = some (.slice s.mem.A s.mem.n s.mem.c) := K2.out.cell 3
              have k4 : wr.cell? ⟨w.heap.size + 1, 4, none⟩ = some (.slice s.bufs.A s.bufs.n s.bufs.c) := K2.out.cell 4
              have k5 : wr.cell? ⟨w.heap.size + 1, 5, none⟩ = some (.slice s.H.A s.H.n s.H.c) := K2.out.cell 5
              have k6 : wr.cell? ⟨w.heap.size + 1, 6, none⟩ = some (.slice s.view.A s.view.n s.view.c) := K2.out.cell 6
              have k7 : wr.cell? ⟨w.heap.size + 1, 7, none⟩ = some (.slice s.sc.A s.sc.n s.sc.c) := K2.out.cell 7
              have k8 : wr.cell? ⟨w.heap.size + 1, 8, none⟩ = some (.int .i64 s.next) := K2.out.cell 8
              have g0 : wr.cell? ⟨w.heap.size, 0, none⟩ = some (.slice A1 p.init.length c1) := G2.out.cell 0
              by_cases q2 : s.kind = 2
              · have q2' : (s.kind == 2) = true := by simp [q2]
                have hE := hide (show res = (decide (s.mem.n = 0) && decide (s.bufs.n = 0) && viewsB p.init.length p.ts.length s.next s.H.hs s.view.rs s.sc.zs) from by rw [hE2.out]; unfold restB; rw [if_neg (by omega), if_neg (by omega), if_pos q2, hlb])
                clear q2 hlb hlh hlv hE2
                by_cases m0 : s.mem.n = 0
                · have m0' : ((s.mem.n : Int) == 0) = true := by simp [m0]
                  by_cases b0 : s.bufs.n = 0
                  · have b0' : ((s.bufs.n : Int) == 0) = true := by simp [b0]
                    have hF := hide (show res = viewsB p.init.length p.ts.length s.next s.H.hs s.view.rs s.sc.zs from by rw [hE.out, m0, b0]; simp)
                    clear m0 b0 hE
                    go_wp2_with fail
                    refine c4.out.mono ?_
                    rintro e w4 ⟨rfl, hb4⟩
                    go_wp2_with fail
                    go_ret
                    exact ⟨ret_bool hF.out.symm, below_then B2.out hb4⟩
                  · have b0' : ((s.bufs.n : Int) == 0) = false := by rw [beq_eq_false_iff_ne]; omega
                    have hF := hide (show res = false from by rw [hE.out]; simp [b0])
                    clear m0 b0 hE
                    go_wp2_with fail
                    go_ret
                    exact ⟨ret_bool hF.out.symm, B2.out⟩
                · have m0' : ((s.mem.n : Int) == 0) = false := by rw [beq_eq_false_iff_ne]; omega
                  have hF := hide (show res = false from by rw [hE.out]; simp [m0])
                  clear m0 hE
                  go_wp2_with fail
                  go_ret
                  exact ⟨ret_bool hF.out.symm, B2.out⟩
              · have q2' : (s.kind == 2) = false := by rw [beq_eq_false_iff_ne]; exact q2
                have hE : Hid (res = (decide (s.mem.n = p.init.length) && (if s.kind = 0 then decide (s.bufs.n = 0) else bufsB p.init.length p.ts.length s.bufs.rs) && (decide (s.H.n = 0) && decide (s.view.n = 0) && decide (s.sc.n = 0) && decide (s.next = 0)))) := hide (by
                  rw [hE2.out]; unfold restB noViewsB
                  rw [hlb, hlh, hlv]
                  rcases hkd.out with h | h | h
                  · rw [if_pos h, if_pos h]
                  · rw [if_neg (by omega), if_pos h, if_neg (by omega)]
                  · exact absurd h q2)
                clear hlb hlh hlv hE2 q2
                by_cases z0 : s.mem.n = p.init.length
                · have z0' : ((s.mem.n : Int) != (p.init.length : Int)) = false := by simp [z0]
                  by_cases z1 : s.H.n = 0
                  · have z1' : ((s.H.n : Int) != 0) = false := by simp [z1]
                    by_cases z2 : s.view.n = 0
                    · have z2' : ((s.view.n : Int) != 0) = false := by simp [z2]
                      by_cases z3 : s.sc.n = 0
                      · have z3' : ((s.sc.n : Int) != 0) = false := by simp [z3]
                        by_cases z4 : s.next = 0
                        · have z4' : (s.next != 0) = false := by simp [z4]
                          have hF := hide (show res = (if s.kind = 0 then decide (s.bufs.n = 0) else bufsB p.init.length p.ts.length s.bufs.rs) from by rw [hE.out, z0, z1, z2, z3, z4]; simp)
                          clear z0 z1 z2 z3 z4 hE
                          by_cases q0 : s.kind = 0
                          · have q0' : (s.kind == 0) = true := by simp [q0]
                            have hG := hide (show res = decide (s.bufs.n = 0) from by rw [hF.out, if_pos q0])
                            clear q0 hF
                            go_wp2_with fail
                            go_ret
                            exact ⟨ret_bool ((noCells _).trans hG.out.symm), B2.out⟩
                          · have q0' : (s.kind == 0) = false := by rw [beq_eq_false_iff_ne]; exact q0
                            have hG := hide (show res = bufsB p.init.length p.ts.length s.bufs.rs from by rw [hF.out, if_neg q0])
                            clear q0 hF
                            go_wp2_with fail
                            refine c2'.out.mono ?_
                            rintro e w4 ⟨rfl, hb4⟩
                            go_wp2_with fail
                            go_ret
                            exact ⟨ret_bool hG.out.symm, below_then B2.out hb4⟩
                        · have z4' : (s.next != 0) = true := by rw [bne_iff_ne]; omega
                          have hF := hide (show res = false from by rw [hE.out]; simp [z4])
                          clear z0 z1 z2 z3 z4 hE
                          go_wp2_with fail
                          go_ret
                          exact ⟨ret_bool hF.out.symm, B2.out⟩
                      · have z3' : ((s.sc.n : Int) != 0) = true := by rw [bne_iff_ne]; omega
                        have hF := hide (show res = false from by rw [hE.out]; simp [z3])
                        clear z0 z1 z2 z3 hE
                        go_wp2_with fail
                        go_ret
                        exact ⟨ret_bool hF.out.symm, B2.out⟩
                    · have z2' : ((s.view.n : Int) != 0) = true := by rw [bne_iff_ne]; omega
                      have hF := hide (show res = false from by rw [hE.out]; simp [z2])
                      clear z0 z1 z2 hE
                      go_wp2_with fail
                      go_ret
                      exact ⟨ret_bool hF.out.symm, B2.out⟩
                  · have z1' : ((s.H.n : Int) != 0) = true := by rw [bne_iff_ne]; omega
                    have hF := hide (show res = false from by rw [hE.out]; simp [z1])
                    clear z0 z1 hE
                    go_wp2_with fail
                    go_ret
                    exact ⟨ret_bool hF.out.symm, B2.out⟩
                · have z0' : ((s.mem.n : Int) != (p.init.length : Int)) = true := by rw [bne_iff_ne]; omega
                  have hF := hide (show res = false from by rw [hE.out]; simp [z0])
                  clear z0 hE
                  go_wp2_with fail
                  go_ret
                  exact ⟨ret_bool hF.out.symm, B2.out⟩
        · have x2' : ((s.F.n : Int) != (p.ts.length : Int)) = true := by rw [bne_iff_ne]; omega
          have hE := hide (show res = false from by rw [hE1.out]; unfold comB; simp [show ¬ s.F.rs.length = p.ts.length by omega])
          clear x1 x2
          have k1 : w1.cell? ⟨w.heap.size + 1, 1, none⟩ = some (.slice s.pc.A s.pc.n s.pc.c) := K1.out.cell 1
          have k2 : w1.cell? ⟨w.heap.size + 1, 2, none⟩ = some (.slice s.F.A s.F.n s.F.c) := K1.out.cell 2
          have g1 : w1.cell? ⟨w.heap.size, 1, none⟩ = some (.slice A2 p.ts.length c2) := G1.out.cell 1
          go_wp2_with fail
          go_ret
          exact ⟨ret_bool hE.out.symm, B1.out⟩
      · have x1' : ((s.pc.n : Int) != (p.ts.length : Int)) = true := by rw [bne_iff_ne]; omega
        have hE := hide (show res = false from by rw [hE1.out]; unfold comB; simp [show ¬ s.pc.zs.length = p.ts.length by omega])
        clear x1
        have k1 : w1.cell? ⟨w.heap.size + 1, 1, none⟩ = some (.slice s.pc.A s.pc.n s.pc.c) := K1.out.cell 1
        have k2 : w1.cell? ⟨w.heap.size + 1, 2, none⟩ = some (.slice s.F.A s.F.n s.F.c) := K1.out.cell 2
        have g1 : w1.cell? ⟨w.heap.size, 1, none⟩ = some (.slice A2 p.ts.length c2) := G1.out.cell 1
        go_wp2_with fail
        go_ret
        exact ⟨ret_bool hE.out.symm, B1.out⟩

theorem sstateOk_any {p : ProgD} {s : StD} {n : Nat} {v : Value} {w : World} (hp : ProgAt w (Old n) v p) (hs : StAt w n s) (hl : StLen s) :
    Calls Try.prog 24 #[v, .agg s.cells] w fun e w' => e = .returned (.bool (stateB p s)) ∧ Below w.heap.size w w' := by
  obtain ⟨A1, c1, A2, c2, rfl, hcc, hi, ht⟩ := hp
  exact sstateOk_in p s A1 A2 c1 c2 n w hcc hi ht hs hl
end Go.Proofs.Ytikfbhehnpogoaa
