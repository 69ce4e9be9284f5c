/- The model's l9finish: a job has Done, and all above that this ends. -/
import Derived.Test.YtfnphnjadknoaaaMp0
import Derived.Test.YtfnphnjadknoaaaMp32
namespace Go.Proofs.Ytfnphnjadknoaaa
open Go.RowKit

set_option maxRecDepth 100000 in
set_option maxHeartbeats 12800000 in
theorem sfinish_any (f : Nat → Nat) (B g qp : Nat) (x : PV) (D : Nat) (P : PoolD) (J : Nat) (w : World) (hJD : J < D) (hI0 : Hid (PInv P (J : Int))) (hsz0 : Hid (∀ k, (getj P.js k).ks.length ≤ 1048576)) (h0 : Hid (BoxO w f B g x P)) (hq0 : Hid (FnAt w qp P.js.length (fun m => parI P.js P.js.length (m : Int)))) (fq : f qp = 0) :
    Calls Try.prog 104 #[.pointer (some ⟨g, 0, none⟩), .slice (some ⟨qp, 0, none⟩) P.js.length P.js.length, .int .i64 J] w fun e w' => e = .returned (.tuple #[]) ∧ BoxO w' f B g x (finP D P J) ∧ OwnC f B w w' := by
  obtain ⟨N, hN⟩ : ∃ N, N = P.js.length := ⟨_, rfl⟩
  obtain ⟨fin, hfin⟩ : ∃ fin, fin = finP D P J := ⟨_, rfl⟩
  replace hq0 : Hid (FnAt w qp N (fun m => parI P.js P.js.length (m : Int))) := by rw [hN]; exact hq0
  rw [← hN, ← hfin]
  replace hN := hide hN
  replace hfin := hide hfin
  go_enter Try.func104, Try.ntmps104
  go_wp2_with fail
  go_loopw [2] (fun jv wr => ∃ (j : Nat) (d : Nat) (p : PoolD), jv = .int .i64 j ∧ j < d ∧ Hid (PInv p (j : Int)) ∧ Hid (∀ k, (getj p.js k).ks.length ≤ 1048576) ∧ Hid (BoxO wr f B g x p) ∧ Hid (FnAt wr qp N (fun m => parI p.js p.js.length (m : Int))) ∧ Hid (p.js.length = N) ∧ Hid (finP d p j = fin) ∧ Hid (OwnC f B w wr)) (fun jv _ => (intOf jv).toNat)
  case atStart => exact ⟨J, D, P, rfl, hJD, hI0, hsz0, h0, hq0, hide hN.out.symm, hide hfin.out.symm, hide (Chg.refl _ _)⟩
  case round =>
    clear hI0 hsz0 h0 hq0 hJD
    obtain ⟨j, d1, p, rfl, hjd, hI, hsz, h, hq, hNp, hfp, hO0⟩ := hrel
    obtain ⟨d, rfl⟩ : ∃ d, d1 = d + 1 := ⟨d1 - 1, by omega⟩
    have hj : j < p.js.length := by have := (hI.out.exc (by omega)).1; omega
    have hj' : (j : Int) < p.js.length := by omega
    have hjN : (j : Int) < N := by have := hNp.out; omega
    have h30 := hI.out.tree.top
    have e3 := hI.out.ldn
    have e4 := hI.out.llf
    have e5 := hI.out.lsm
    have e6 := hI.out.lvl
    have m3 : (j : Int) < p.dn.length := by omega
    have m5 : (j : Int) < p.sm.length := by omega
    have m6 : (j : Int) < p.vl.length := by omega
    have l3 : j < p.dn.length := by omega
    have l5 : j < p.sm.length := by omega
    have l6 : j < p.vl.length := by omega
    obtain ⟨⟨-, -, -, y3, -, -, -⟩, yl⟩ := box7 h.out.box
    obtain ⟨b3, o3, c3, v3, f3, lb3, xd, zd⟩ := h.out.pool.dn.one l3
    rw [v3] at y3
    have s1 := h.out.set_dn l3 v3 true
    obtain ⟨w1, hw1⟩ : ∃ w1, w1 = wr.setCell ⟨b3, o3 + j, none⟩ (.bool true) := ⟨_, rfl⟩
    rw [← hw1] at s1
    have hC1 := s1.1
    have hO1 := hO0.out.trans (OwnC.of_lab s1.2 (by omega))
    have hq1 := hq.out.labs s1.2 (by rw [fq]; omega)
    clear s1
    replace h := hide h.out
    replace v3 := hide v3
    replace e3 := hide e3
    go_upto_region 1 with fail
    rw [← hw1]
    clear hw1 y3 yl xd zd lb3 f3
    obtain ⟨⟨x0, -, -, -, -, x5, x6⟩, xl⟩ := box7 hC1.box
    obtain ⟨b5, o5, c5, v5, f5, -, xs, -⟩ := hC1.pool.sm.one l5
    obtain ⟨b6, o6, c6, v6, f6, lb6, xw, zw⟩ := hC1.pool.vl.one l6
    obtain ⟨b0, o0, c0, v0, f0, -, -, hL⟩ := hC1.pool.jobs.heads.at_ (k := j * 2) (by show j * 2 < p.js.length * 2; omega)
    have xv := (hL (j * 2) (by show j * 2 < p.js.length * 2; omega)).1
    rw [gJob_v] at xv
    clear hL
    have fg := hC1.fg
    have ng6 : g ≠ b6 := fun e => by rw [← e] at f6; omega
    have ng5 : g ≠ b5 := fun e => by rw [← e] at f5; omega
    have n06 : b0 ≠ b6 := fun e => by rw [← e] at f6; omega
    have n56 : b5 ≠ b6 := fun e => by rw [← e] at f6; omega
    have n65 : b6 ≠ b5 := fun e => n56 e.symm
    rw [v0] at x0
    rw [v5] at x5
    rw [v6] at x6
    replace x0 : w1.cell? ⟨g, 0, none⟩ = some (.slice (some ⟨b0, o0, none⟩) p.js.length c0) := x0
    replace x5 : w1.cell? ⟨g, 5, none⟩ = some (.slice (some ⟨b5, o5, none⟩) p.sm.length c5) := x5
    replace x6 : w1.cell? ⟨g, 6, none⟩ = some (.slice (some ⟨b6, o6, none⟩) p.vl.length c6) := x6
    obtain ⟨vj, hvj⟩ : ∃ z, z = (getj p.js j).v := ⟨_, rfl⟩
    replace xv : w1.cell? ⟨b0, o0 + j * 2, none⟩ = some (.int .i64 vj) := by rw [hvj]; exact xv
    obtain ⟨sj, hsj⟩ : ∃ z, z = geti p.sm j := ⟨_, rfl⟩
    replace xs : w1.cell? ⟨b5, o5 + j, none⟩ = some (.int .i64 sj) := by rw [hsj]; exact xs
    obtain ⟨val, hval⟩ : ∃ z, z = IntKind.i64.wrap (vj + IntKind.i64.wrap (2 * sj)) := ⟨_, rfl⟩
    have hworth : val = worth (getj p.js j).v (geti p.sm j) := by rw [hval, hvj, hsj, w64, w64]; rfl
    have s2 := hC1.set_vl (j := j) l6 v6 val
    have hC2 := s2.1.next (Below.refl _ _).drew
    have hO2 := hO1.trans ((OwnC.of_lab s2.2 (by omega)).trans (Chg.of_below (Below.refl _ _).drew))
    have hq2 := (hq1.labs s2.2 (by rw [fq]; omega)).next (Below.refl _ _).drew
    rw [hval] at hC2 hO2 hq2
    obtain ⟨w2, hw2⟩ : ∃ w2, w2 = (w1.setCell ⟨b6, o6 + j, none⟩ (.int .i64 (IntKind.i64.wrap (vj + IntKind.i64.wrap (2 * sj))))).drew := ⟨_, rfl⟩
    rw [← hw2] at hC2 hO2 hq2
    rw [← hval] at hC2
    have hC2 : BoxO w2 f B g x (doneP p j) := by
      have : doneP p j = { p with dn := p.dn.set j true, vl := p.vl.set j val } := by unfold doneP; rw [hworth]
      rw [this]
      exact hC2
    clear s2
    replace hC1 := hide hC1
    replace hC2 := hide hC2
    replace hO1 := hide hO1
    replace hO2 := hide hO2
    replace hq1 := hide hq1
    replace hq2 := hide hq2
    replace hworth := hide hworth
    replace hval := hide hval
    replace hvj := hide hvj
    replace hsj := hide hsj
    replace v5 := hide v5
    replace v6 := hide v6
    clear f5 f6 f0 v0 e4 e5 e6 fg
    refine wp_region_held_drew (S := (fun w' => w'.cell? ⟨g, 6, none⟩ = some (.slice (some ⟨b6, o6, none⟩) p.vl.length c6) ∧ w'.cell? ⟨g, 0, none⟩ = some (.slice (some ⟨b0, o0, none⟩) p.js.length c0) ∧ w'.cell? ⟨g, 5, none⟩ = some (.slice (some ⟨b5, o5, none⟩) p.sm.length c5) ∧ w'.cell? ⟨b0, o0 + j * 2, none⟩ = some (.int .i64 vj) ∧ w'.cell? ⟨b5, o5 + j, none⟩ = some (.int .i64 sj))) (by kernel_rfl) ?_ (fun hHeld => ?_)
    · exact ⟨x6, x0, x5, xv, xs⟩
    refine wpAnyH_take (i := 0) (oi := { dst := some 13, op := Op.move (.tmp 0), type := 85, pos := "l09_jobs.go:147", after := #[], guard := none }) (v := ?_) rfl (by kernel_rfl) (by kernel_rfl) (by kernel_rfl) (fun _ _ _ h => h) (Or.inl ⟨by rfl, ?_⟩) hHeld ?_
    rotate_left
    · (intro wq hSw; (try dsimp only at hSw); first | (go_simp; done) | (go_simp; with_reducible rfl))
    try simp only [Act.put, qa, qb, qc]
    refine wpAnyH_take (i := 1) (oi := { dst := some 14, op := Op.nilCheck (.tmp 13), type := 0, pos := "l09_jobs.go:147", after := #[⟨0, .data⟩], guard := none }) (v := ?_) rfl (by kernel_rfl) (by kernel_rfl) (by kernel_rfl) (fun _ _ _ h => h) (Or.inl ⟨by rfl, ?_⟩) hHeld ?_
    rotate_left
    · (intro wq hSw; (try dsimp only at hSw); first | (go_simp; done) | (go_simp; with_reducible rfl))
    try simp only [Act.put, qa, qb, qc]
    refine wpAnyH_take (i := 2) (oi := { dst := some 15, op := Op.fieldAddr 28 (.tmp 14) 6, type := 0, pos := "l09_jobs.go:147", after := #[⟨1, .data⟩], guard := none }) (v := ?_) rfl (by kernel_rfl) (by kernel_rfl) (by kernel_rfl) (fun _ _ _ h => h) (Or.inl ⟨by rfl, ?_⟩) hHeld ?_
    rotate_left
    · (intro wq hSw; (try dsimp only at hSw); first | (go_simp; done) | (go_simp; with_reducible rfl))
    try simp only [Act.put, qa, qb, qc]
    refine wpAnyH_take (i := 3) (oi := { dst := some 16, op := Op.load 26 (.tmp 15), type := 26, pos := "l09_jobs.go:147", after := #[⟨2, .data⟩], guard := none }) (v := ?_) rfl (by kernel_rfl) (by kernel_rfl) (by kernel_rfl) (fun _ _ _ h => h) (Or.inl ⟨by rfl, ?_⟩) hHeld ?_
    rotate_left
    · (intro wq hSw; (try dsimp only at hSw); first | (go_simp; done) | (go_simp; with_reducible rfl))
    try simp only [Act.put, qa, qb, qc]
    refine wpAnyH_take (i := 4) (oi := { dst := some 17, op := Op.move (.tmp 2), type := 3, pos := "l09_jobs.go:147", after := #[], guard := none }) (v := ?_) rfl (by kernel_rfl) (by kernel_rfl) (by kernel_rfl) (fun _ _ _ h => h) (Or.inl ⟨by rfl, ?_⟩) hHeld ?_
    rotate_left
    · (intro wq hSw; (try dsimp only at hSw); first | (go_simp; done) | (go_simp; with_reducible rfl))
    try simp only [Act.put, qa, qb, qc]
    refine wpAnyH_take (i := 5) (oi := { dst := some 18, op := Op.move (.tmp 0), type := 85, pos := "l09_jobs.go:147", after := #[], guard := none }) (v := ?_) rfl (by kernel_rfl) (by kernel_rfl) (by kernel_rfl) (fun _ _ _ h => h) (Or.inl ⟨by rfl, ?_⟩) hHeld ?_
    rotate_left
    · (intro wq hSw; (try dsimp only at hSw); first | (go_simp; done) | (go_simp; with_reducible rfl))
    try simp only [Act.put, qa, qb, qc]
    refine wpAnyH_take (i := 6) (oi := { dst := some 19, op := Op.nilCheck (.tmp 18), type := 0, pos := "l09_jobs.go:147", after := #[⟨5, .data⟩], guard := none }) (v := ?_) rfl (by kernel_rfl) (by kernel_rfl) (by kernel_rfl) (fun _ _ _ h => h) (Or.inl ⟨by rfl, ?_⟩) hHeld ?_
    rotate_left
    · (intro wq hSw; (try dsimp only at hSw); first | (go_simp; done) | (go_simp; with_reducible rfl))
    try simp only [Act.put, qa, qb, qc]
    refine wpAnyH_take (i := 7) (oi := { dst := some 20, op := Op.fieldAddr 28 (.tmp 19) 0, type := 0, pos := "l09_jobs.go:147", after := #[⟨6, .data⟩], guard := none }) (v := ?_) rfl (by kernel_rfl) (by kernel_rfl) (by kernel_rfl) (fun _ _ _ h => h) (Or.inl ⟨by rfl, ?_⟩) hHeld ?_
    rotate_left
    · (intro wq hSw; (try dsimp only at hSw); first | (go_simp; done) | (go_simp; with_reducible rfl))
    try simp only [Act.put, qa, qb, qc]
    refine wpAnyH_take (i := 8) (oi := { dst := some 21, op := Op.load 23 (.tmp 20), type := 23, pos := "l09_jobs.go:147", after := #[⟨7, .data⟩], guard := none }) (v := ?_) rfl (by kernel_rfl) (by kernel_rfl) (by kernel_rfl) (fun _ _ _ h => h) (Or.inl ⟨by rfl, ?_⟩) hHeld ?_
    rotate_left
    · (intro wq hSw; (try dsimp only at hSw); first | (go_simp; done) | (go_simp; with_reducible rfl))
    try simp only [Act.put, qa, qb, qc]
    refine wpAnyH_take (i := 9) (oi := { dst := some 22, op := Op.move (.tmp 2), type := 3, pos := "l09_jobs.go:147", after := #[], guard := none }) (v := ?_) rfl (by kernel_rfl) (by kernel_rfl) (by kernel_rfl) (fun _ _ _ h => h) (Or.inl ⟨by rfl, ?_⟩) hHeld ?_
    rotate_left
    · (intro wq hSw; (try dsimp only at hSw); first | (go_simp; done) | (go_simp; with_reducible rfl))
    try simp only [Act.put, qa, qb, qc]
    refine wpAnyH_take (i := 10) (oi := { dst := some 23, op := Op.indexAddr 23 (.tmp 21) (.tmp 22), type := 0, pos := "l09_jobs.go:147", after := #[⟨8, .data⟩, ⟨9, .data⟩], guard := none }) (v := ?_) rfl (by kernel_rfl) (by kernel_rfl) (by kernel_rfl) (fun _ _ _ h => h) (Or.inl ⟨by rfl, ?_⟩) hHeld ?_
    rotate_left
    · (intro wq hSw; (try dsimp only at hSw); first | (go_simp; done) | (go_simp; with_reducible rfl))
    try simp only [Act.put, qa, qb, qc]
    refine wpAnyH_take (i := 11) (oi := { dst := some 24, op := Op.fieldAddr 42 (.tmp 23) 0, type := 0, pos := "l09_jobs.go:147", after := #[⟨10, .data⟩], guard := none }) (v := ?_) rfl (by kernel_rfl) (by kernel_rfl) (by kernel_rfl) (fun _ _ _ h => h) (Or.inl ⟨by rfl, ?_⟩) hHeld ?_
    rotate_left
    · (intro wq hSw; (try dsimp only at hSw); first | (go_simp; done) | (go_simp; with_reducible rfl))
    try simp only [Act.put, qa, qb, qc]
    refine wpAnyH_take (i := 12) (oi := { dst := some 25, op := Op.load 3 (.tmp 24), type := 3, pos := "l09_jobs.go:147", after := #[⟨11, .data⟩], guard := none }) (v := ?_) rfl (by kernel_rfl) (by kernel_rfl) (by kernel_rfl) (fun _ _ _ h => h) (Or.inl ⟨by rfl, ?_⟩) hHeld ?_
    rotate_left
    · (intro wq hSw; (try dsimp only at hSw); first | (go_simp; done) | (go_simp; with_reducible rfl))
    try simp only [Act.put, qa, qb, qc]
    refine wpAnyH_take (i := 13) (oi := { dst := some 26, op := Op.move (.tmp 0), type := 85, pos := "l09_jobs.go:147", after := #[], guard := none }) (v := ?_) rfl (by kernel_rfl) (by kernel_rfl) (by kernel_rfl) (fun _ _ _ h => h) (Or.inl ⟨by rfl, ?_⟩) hHeld ?_
    rotate_left
    · (intro wq hSw; (try dsimp only at hSw); first | (go_simp; done) | (go_simp; with_reducible rfl))
    try simp only [Act.put, qa, qb, qc]
    refine wpAnyH_take (i := 14) (oi := { dst := some 27, op := Op.nilCheck (.tmp 26), type := 0, pos := "l09_jobs.go:147", after := #[⟨13, .data⟩], guard := none }) (v := ?_) rfl (by kernel_rfl) (by kernel_rfl) (by kernel_rfl) (fun _ _ _ h => h) (Or.inl ⟨by rfl, ?_⟩) hHeld ?_
    rotate_left
    · (intro wq hSw; (try dsimp only at hSw); first | (go_simp; done) | (go_simp; with_reducible rfl))
    try simp only [Act.put, qa, qb, qc]
    refine wpAnyH_take (i := 15) (oi := { dst := some 28, op := Op.fieldAddr 28 (.tmp 27) 5, type := 0, pos := "l09_jobs.go:147", after := #[⟨14, .data⟩], guard := none }) (v := ?_) rfl (by kernel_rfl) (by kernel_rfl) (by kernel_rfl) (fun _ _ _ h => h) (Or.inl ⟨by rfl, ?_⟩) hHeld ?_
    rotate_left
    · (intro wq hSw; (try dsimp only at hSw); first | (go_simp; done) | (go_simp; with_reducible rfl))
    try simp only [Act.put, qa, qb, qc]
    refine wpAnyH_take (i := 16) (oi := { dst := some 29, op := Op.load 26 (.tmp 28), type := 26, pos := "l09_jobs.go:147", after := #[⟨15, .data⟩], guard := none }) (v := ?_) rfl (by kernel_rfl) (by kernel_rfl) (by kernel_rfl) (fun _ _ _ h => h) (Or.inl ⟨by rfl, ?_⟩) hHeld ?_
    rotate_left
    · (intro wq hSw; (try dsimp only at hSw); first | (go_simp; done) | (go_simp; with_reducible rfl))
    try simp only [Act.put, qa, qb, qc]
    refine wpAnyH_take (i := 17) (oi := { dst := some 30, op := Op.move (.tmp 2), type := 3, pos := "l09_jobs.go:147", after := #[], guard := none }) (v := ?_) rfl (by kernel_rfl) (by kernel_rfl) (by kernel_rfl) (fun _ _ _ h => h) (Or.inl ⟨by rfl, ?_⟩) hHeld ?_
    rotate_left
    · (intro wq hSw; (try dsimp only at hSw); first | (go_simp; done) | (go_simp; with_reducible rfl))
    try simp only [Act.put, qa, qb, qc]
    refine wpAnyH_take (i := 18) (oi := { dst := some 31, op := Op.indexAddr 26 (.tmp 29) (.tmp 30), type := 0, pos := "l09_jobs.go:147", after := #[⟨16, .data⟩, ⟨17, .data⟩], guard := none }) (v := ?_) rfl (by kernel_rfl) (by kernel_rfl) (by kernel_rfl) (fun _ _ _ h => h) (Or.inl ⟨by rfl, ?_⟩) hHeld ?_
    rotate_left
    · (intro wq hSw; (try dsimp only at hSw); first | (go_simp; done) | (go_simp; with_reducible rfl))
    try simp only [Act.put, qa, qb, qc]
    refine wpAnyH_take (i := 19) (oi := { dst := some 32, op := Op.load 3 (.tmp 31), type := 3, pos := "l09_jobs.go:147", after := #[⟨18, .data⟩], guard := none }) (v := ?_) rfl (by kernel_rfl) (by kernel_rfl) (by kernel_rfl) (fun _ _ _ h => h) (Or.inl ⟨by rfl, ?_⟩) hHeld ?_
    rotate_left
    · (intro wq hSw; (try dsimp only at hSw); first | (go_simp; done) | (go_simp; with_reducible rfl))
    try simp only [Act.put, qa, qb, qc]
    refine wpAnyH_take (i := 20) (oi := { dst := some 33, op := Op.binOp BinOp.mul 3 (.const (Value.int IntKind.i64 2)) (.tmp 32) 3, type := 3, pos := "l09_jobs.go:147", after := #[⟨19, .data⟩], guard := none }) (v := ?_) rfl (by kernel_rfl) (by kernel_rfl) (by kernel_rfl) (fun _ _ _ h => h) (Or.inl ⟨by rfl, ?_⟩) hHeld ?_
    rotate_left
    · (intro wq hSw; (try dsimp only at hSw); first | (go_simp; done) | (go_simp; with_reducible rfl))
    try simp only [Act.put, qa, qb, qc]
    refine wpAnyH_take (i := 21) (oi := { dst := some 34, op := Op.binOp BinOp.add 3 (.tmp 25) (.tmp 33) 3, type := 3, pos := "l09_jobs.go:147", after := #[⟨12, .data⟩, ⟨20, .data⟩], guard := none }) (v := ?_) rfl (by kernel_rfl) (by kernel_rfl) (by kernel_rfl) (fun _ _ _ h => h) (Or.inl ⟨by rfl, ?_⟩) hHeld ?_
    rotate_left
    · (intro wq hSw; (try dsimp only at hSw); first | (go_simp; done) | (go_simp; with_reducible rfl))
    try simp only [Act.put, qa, qb, qc]
    refine wpAnyH_take (i := 22) (oi := { dst := some 35, op := Op.indexAddr 26 (.tmp 16) (.tmp 17), type := 0, pos := "l09_jobs.go:147", after := #[⟨3, .data⟩, ⟨4, .data⟩, ⟨0, .phase⟩, ⟨1, .phase⟩, ⟨2, .phase⟩, ⟨3, .phase⟩, ⟨4, .phase⟩, ⟨5, .phase⟩, ⟨6, .phase⟩, ⟨7, .phase⟩, ⟨8, .phase⟩, ⟨9, .phase⟩, ⟨10, .phase⟩, ⟨11, .phase⟩, ⟨12, .phase⟩, ⟨13, .phase⟩, ⟨14, .phase⟩, ⟨15, .phase⟩, ⟨16, .phase⟩, ⟨17, .phase⟩, ⟨18, .phase⟩, ⟨19, .phase⟩, ⟨20, .phase⟩, ⟨21, .phase⟩], guard := none }) (v := ?_) rfl (by kernel_rfl) (by kernel_rfl) (by kernel_rfl) (fun _ _ _ h => h) (Or.inl ⟨by rfl, ?_⟩) hHeld ?_
    rotate_left
    · (intro wq hSw; (try dsimp only at hSw); first | (go_simp; done) | (go_simp; with_reducible rfl))
    try simp only [Act.put, qa, qb, qc]
    refine wpAnyH_ready (rs := [23]) (by kernel_rfl) (by simp) ?_
    refine AllReadyH.cons (o := { dst := none, op := Op.store 3 (.tmp 35) (.tmp 34), type := 0, pos := "l09_jobs.go:147", after := #[⟨22, .data⟩, ⟨21, .data⟩, ⟨0, .phase⟩, ⟨1, .phase⟩, ⟨2, .phase⟩, ⟨3, .phase⟩, ⟨4, .phase⟩, ⟨5, .phase⟩, ⟨6, .phase⟩, ⟨7, .phase⟩, ⟨8, .phase⟩, ⟨9, .phase⟩, ⟨10, .phase⟩, ⟨11, .phase⟩, ⟨12, .phase⟩, ⟨13, .phase⟩, ⟨14, .phase⟩, ⟨15, .phase⟩, ⟨16, .phase⟩, ⟨17, .phase⟩, ⟨18, .phase⟩, ⟨19, .phase⟩, ⟨20, .phase⟩, ⟨21, .phase⟩], guard := none }) rfl (fun K hK => ?_) AllReadyH.nil
    go_simp
    skip
    refine hK.out _ _ ?_ (fun hHeldN => ?_)
    · exact ⟨cell_far hHeld.1 ng6, cell_far hHeld.2.1 ng6, cell_far hHeld.2.2.1 ng6, cell_far hHeld.2.2.2.1 n06, cell_far hHeld.2.2.2.2 n56⟩
    clear hK K hHeld
    have hHeld := hHeldN
    clear hHeldN
    try simp only [Act.put, qa, qb, qc]
    refine wpAnyH_done (by kernel_rfl) ?_ _
    clear hHeld
    go_upto_region 2 with fail
    rw [← hw2]
    clear hw2 x0 x5 x6 xv xs xw zw ng6 n06 n56 lb6
    obtain ⟨i0, hi0⟩ : ∃ z, z = parD p j := ⟨_, rfl⟩
    have zp : w2.cell? ⟨qp, j, none⟩ = some (.int .i64 i0) := by rw [hi0]; exact (hq2.out.cell (by have := hNp.out; omega)).1
    by_cases hpar : i0 < 0
    · have hrng := parI_rng p.js p.js.length (j : Int)
      have hFin := hide (show fin = doneP p j from by
        rw [← hfp.out]; unfold finP
        rw [if_pos (by rw [← hi0]; have : -1 ≤ i0 := by rw [hi0]; exact hrng.1
                       omega)])
      replace hi0 := hide hi0
      clear hrng
      go_wp2_with fail
      refine bodyPost_ret (v := .tuple #[]) (by simp [results, Try.results104, go_sem]; done) rfl ?_
      exact ⟨rfl, by rw [hFin.out]; exact hC2.out, hO2.out⟩
    · have hp1 : ¬ (parD p j = -1) := by rw [← hi0]; omega
      obtain ⟨i, hi1, hij, -, hi, -, -, hlf1, hlf2⟩ := hI.out.waits hp1
      have hup := hI.out.up hi1 hsz.out
      have hii : i0 = i := by rw [hi0, hi1]
      have hFin := hide (show finP (d + 1) p j = if geti (paidP (doneP p j) j i).lf i = 0 then finP d (paidP (doneP p j) j i) i else paidP (doneP p j) j i from by
        rw [finP, if_neg hp1, hi1, Int.toNat_natCast])
      replace hi0 := hide hi0
      rw [hii] at zp
      replace hup := hide hup
      clear hpar hii hp1
      have hnn : ¬ ((i : Int) < 0) := by omega
      have k5 : i < (doneP p j).sm.length := by show i < p.sm.length; have := hI.out.lsm; omega
      have k4 : i < (doneP p j).lf.length := by show i < p.lf.length; have := hI.out.llf; omega
      have i5 : (i : Int) < p.sm.length := by have : i < p.sm.length := k5; omega
      have i4 : (i : Int) < p.lf.length := by have : i < p.lf.length := k4; omega
      have e6 : (doneP p j).vl.length = p.vl.length := by show (p.vl.set j _).length = _; rw [List.length_set]
      obtain ⟨⟨-, -, -, -, -, z5, z6⟩, zl⟩ := box7 hC2.out.box
      obtain ⟨b5', o5', c5', q5, f5, lb5, xs, zs⟩ := hC2.out.pool.sm.one k5
      have q5' := v5.out.symm.trans q5
      cases q5'
      obtain ⟨b6', o6', c6', q6, f6, lb6, xw, zw⟩ := hC2.out.pool.vl.one (k := j) (by rw [e6]; exact l6)
      have q6' := v6.out.symm.trans q6
      rw [e6] at q6'
      cases q6'
      have fg := hC2.out.fg
      replace z5 : w2.cell? ⟨g, 5, none⟩ = some (.slice (some ⟨b5, o5, none⟩) p.sm.length c5) := by rw [← v5.out]; exact z5
      replace z6 : w2.cell? ⟨g, 6, none⟩ = some (.slice (some ⟨b6, o6, none⟩) p.vl.length c6) := by rw [← v6.out]; exact z6
      have zv : w2.cell? ⟨b6, o6 + j, none⟩ = some (.int .i64 val) := by
        rw [hworth.out]
        have : geti (doneP p j).vl j = worth (getj p.js j).v (geti p.sm j) := getz_at l6
        have h1 := xw
        unfold gI at h1
        rw [this] at h1
        exact h1
      obtain ⟨si, hsi⟩ : ∃ z, z = geti p.sm i := ⟨_, rfl⟩
      have zi : w2.cell? ⟨b5, o5 + i, none⟩ = some (.int .i64 si) := by rw [hsi]; exact xs
      have s1 := hC2.out.set_sm k5 q5 (IntKind.i64.wrap (si + val))
      have hC3 := s1.1.next (Below.refl _ _).drew
      have hO3 := hO2.out.trans ((OwnC.of_lab s1.2 (by omega)).trans (Chg.of_below (Below.refl _ _).drew))
      have hq3 := (hq2.out.labs s1.2 (by rw [fq]; omega)).next (Below.refl _ _).drew
      obtain ⟨w3, hw3⟩ : ∃ w3, w3 = (w2.setCell ⟨b5, o5 + i, none⟩ (.int .i64 (IntKind.i64.wrap (si + val)))).drew := ⟨_, rfl⟩
      rw [← hw3] at hC3 hO3 hq3
      replace hC3 := hide hC3
      replace hO3 := hide hO3
      replace hq3 := hide hq3
      clear s1 xs xw zw f5 f6 fg
      replace q5 := hide q5
      replace q6 := hide q6
      replace hsi := hide hsi
      go_upto_region 4 with fail
      refine wp_region_held_drew (S := (fun w' => w'.cell? ⟨g, 5, none⟩ = some (.slice (some ⟨b5, o5, none⟩) p.sm.length c5) ∧ w'.cell? ⟨g, 6, none⟩ = some (.slice (some ⟨b6, o6, none⟩) p.vl.length c6) ∧ w'.cell? ⟨b6, o6 + j, none⟩ = some (.int .i64 val))) (by kernel_rfl) ?_ (fun hHeld => ?_)
      · exact ⟨z5, z6, zv⟩
      refine wpAnyH_take (i := 0) (oi := { dst := some 45, op := Op.move (.tmp 0), type := 85, pos := "l09_jobs.go:152", after := #[], guard := none }) (v := ?_) rfl (by kernel_rfl) (by kernel_rfl) (by kernel_rfl) (fun _ _ _ h => h) (Or.inl ⟨by rfl, ?_⟩) hHeld ?_
      rotate_left
      · (intro wq hSw; (try dsimp only at hSw); first | (go_simp; done) | (go_simp; with_reducible rfl))
      try simp only [Act.put, qa, qb, qc]
      refine wpAnyH_take (i := 1) (oi := { dst := some 46, op := Op.nilCheck (.tmp 45), type := 0, pos := "l09_jobs.go:152", after := #[⟨0, .data⟩], guard := none }) (v := ?_) rfl (by kernel_rfl) (by kernel_rfl) (by kernel_rfl) (fun _ _ _ h => h) (Or.inl ⟨by rfl, ?_⟩) hHeld ?_
      rotate_left
      · (intro wq hSw; (try dsimp only at hSw); first | (go_simp; done) | (go_simp; with_reducible rfl))
      try simp only [Act.put, qa, qb, qc]
      refine wpAnyH_take (i := 2) (oi := { dst := some 47, op := Op.fieldAddr 28 (.tmp 46) 5, type := 0, pos := "l09_jobs.go:152", after := #[⟨1, .data⟩], guard := none }) (v := ?_) rfl (by kernel_rfl) (by kernel_rfl) (by kernel_rfl) (fun _ _ _ h => h) (Or.inl ⟨by rfl, ?_⟩) hHeld ?_
      rotate_left
      · (intro wq hSw; (try dsimp only at hSw); first | (go_simp; done) | (go_simp; with_reducible rfl))
      try simp only [Act.put, qa, qb, qc]
      refine wpAnyH_take (i := 3) (oi := { dst := some 48, op := Op.load 26 (.tmp 47), type := 26, pos := "l09_jobs.go:152", after := #[⟨2, .data⟩], guard := none }) (v := ?_) rfl (by kernel_rfl) (by kernel_rfl) (by kernel_rfl) (fun _ _ _ h => h) (Or.inl ⟨by rfl, ?_⟩) hHeld ?_
      rotate_left
      · (intro wq hSw; (try dsimp only at hSw); first | (go_simp; done) | (go_simp; with_reducible rfl))
      try simp only [Act.put, qa, qb, qc]
      refine wpAnyH_take (i := 4) (oi := { dst := some 49, op := Op.move (.tmp 6), type := 3, pos := "l09_jobs.go:152", after := #[], guard := none }) (v := ?_) rfl (by kernel_rfl) (by kernel_rfl) (by kernel_rfl) (fun _ _ _ h => h) (Or.inl ⟨by rfl, ?_⟩) hHeld ?_
      rotate_left
      · (intro wq hSw; (try dsimp only at hSw); first | (go_simp; done) | (go_simp; with_reducible rfl))
      try simp only [Act.put, qa, qb, qc]
      refine wpAnyH_take (i := 5) (oi := { dst := some 50, op := Op.move (.tmp 0), type := 85, pos := "l09_jobs.go:152", after := #[], guard := none }) (v := ?_) rfl (by kernel_rfl) (by kernel_rfl) (by kernel_rfl) (fun _ _ _ h => h) (Or.inl ⟨by rfl, ?_⟩) hHeld ?_
      rotate_left
      · (intro wq hSw; (try dsimp only at hSw); first | (go_simp; done) | (go_simp; with_reducible rfl))
      try simp only [Act.put, qa, qb, qc]
      refine wpAnyH_take (i := 6) (oi := { dst := some 51, op := Op.nilCheck (.tmp 50), type := 0, pos := "l09_jobs.go:152", after := #[⟨5, .data⟩], guard := none }) (v := ?_) rfl (by kernel_rfl) (by kernel_rfl) (by kernel_rfl) (fun _ _ _ h => h) (Or.inl ⟨by rfl, ?_⟩) hHeld ?_
      rotate_left
      · (intro wq hSw; (try dsimp only at hSw); first | (go_simp; done) | (go_simp; with_reducible rfl))
      try simp only [Act.put, qa, qb, qc]
      refine wpAnyH_take (i := 7) (oi := { dst := some 52, op := Op.fieldAddr 28 (.tmp 51) 5, type := 0, pos := "l09_jobs.go:152", after := #[⟨6, .data⟩], guard := none }) (v := ?_) rfl (by kernel_rfl) (by kernel_rfl) (by kernel_rfl) (fun _ _ _ h => h) (Or.inl ⟨by rfl, ?_⟩) hHeld ?_
      rotate_left
      · (intro wq hSw; (try dsimp only at hSw); first | (go_simp; done) | (go_simp; with_reducible rfl))
      try simp only [Act.put, qa, qb, qc]
      refine wpAnyH_take (i := 8) (oi := { dst := some 53, op := Op.load 26 (.tmp 52), type := 26, pos := "l09_jobs.go:152", after := #[⟨7, .data⟩], guard := none }) (v := ?_) rfl (by kernel_rfl) (by kernel_rfl) (by kernel_rfl) (fun _ _ _ h => h) (Or.inl ⟨by rfl, ?_⟩) hHeld ?_
      rotate_left
      · (intro wq hSw; (try dsimp only at hSw); first | (go_simp; done) | (go_simp; with_reducible rfl))
      try simp only [Act.put, qa, qb, qc]
      refine wpAnyH_take (i := 9) (oi := { dst := some 54, op := Op.move (.tmp 6), type := 3, pos := "l09_jobs.go:152", after := #[], guard := none }) (v := ?_) rfl (by kernel_rfl) (by kernel_rfl) (by kernel_rfl) (fun _ _ _ h => h) (Or.inl ⟨by rfl, ?_⟩) hHeld ?_
      rotate_left
      · (intro wq hSw; (try dsimp only at hSw); first | (go_simp; done) | (go_simp; with_reducible rfl))
      try simp only [Act.put, qa, qb, qc]
      refine wpAnyH_take (i := 10) (oi := { dst := some 55, op := Op.indexAddr 26 (.tmp 53) (.tmp 54), type := 0, pos := "l09_jobs.go:152", after := #[⟨8, .data⟩, ⟨9, .data⟩], guard := none }) (v := ?_) rfl (by kernel_rfl) (by kernel_rfl) (by kernel_rfl) (fun _ _ _ h => h) (Or.inl ⟨by rfl, ?_⟩) hHeld ?_
      rotate_left
      · (intro wq hSw; (try dsimp only at hSw); first | (go_simp; done) | (go_simp; with_reducible rfl))
      try simp only [Act.put, qa, qb, qc]
      refine wpAnyH_take (i := 12) (oi := { dst := some 57, op := Op.move (.tmp 0), type := 85, pos := "l09_jobs.go:152", after := #[], guard := none }) (v := ?_) rfl (by kernel_rfl) (by kernel_rfl) (by kernel_rfl) (fun _ _ _ h => h) (Or.inl ⟨by rfl, ?_⟩) hHeld ?_
      rotate_left
      · (intro wq hSw; (try dsimp only at hSw); first | (go_simp; done) | (go_simp; with_reducible rfl))
      try simp only [Act.put, qa, qb, qc]
      refine wpAnyH_take (i := 13) (oi := { dst := some 58, op := Op.nilCheck (.tmp 57), type := 0, pos := "l09_jobs.go:152", after := #[⟨12, .data⟩], guard := none }) (v := ?_) rfl (by kernel_rfl) (by kernel_rfl) (by kernel_rfl) (fun _ _ _ h => h) (Or.inl ⟨by rfl, ?_⟩) hHeld ?_
      rotate_left
      · (intro wq hSw; (try dsimp only at hSw); first | (go_simp; done) | (go_simp; with_reducible rfl))
      try simp only [Act.put, qa, qb, qc]
      refine wpAnyH_take (i := 14) (oi := { dst := some 59, op := Op.fieldAddr 28 (.tmp 58) 6, type := 0, pos := "l09_jobs.go:152", after := #[⟨13, .data⟩], guard := none }) (v := ?_) rfl (by kernel_rfl) (by kernel_rfl) (by kernel_rfl) (fun _ _ _ h => h) (Or.inl ⟨by rfl, ?_⟩) hHeld ?_
      rotate_left
      · (intro wq hSw; (try dsimp only at hSw); first | (go_simp; done) | (go_simp; with_reducible rfl))
      try simp only [Act.put, qa, qb, qc]
      refine wpAnyH_take (i := 15) (oi := { dst := some 60, op := Op.load 26 (.tmp 59), type := 26, pos := "l09_jobs.go:152", after := #[⟨14, .data⟩], guard := none }) (v := ?_) rfl (by kernel_rfl) (by kernel_rfl) (by kernel_rfl) (fun _ _ _ h => h) (Or.inl ⟨by rfl, ?_⟩) hHeld ?_
      rotate_left
      · (intro wq hSw; (try dsimp only at hSw); first | (go_simp; done) | (go_simp; with_reducible rfl))
      try simp only [Act.put, qa, qb, qc]
      refine wpAnyH_take (i := 16) (oi := { dst := some 61, op := Op.move (.tmp 2), type := 3, pos := "l09_jobs.go:152", after := #[], guard := none }) (v := ?_) rfl (by kernel_rfl) (by kernel_rfl) (by kernel_rfl) (fun _ _ _ h => h) (Or.inl ⟨by rfl, ?_⟩) hHeld ?_
      rotate_left
      · (intro wq hSw; (try dsimp only at hSw); first | (go_simp; done) | (go_simp; with_reducible rfl))
      try simp only [Act.put, qa, qb, qc]
      refine wpAnyH_take (i := 17) (oi := { dst := some 62, op := Op.indexAddr 26 (.tmp 60) (.tmp 61), type := 0, pos := "l09_jobs.go:152", after := #[⟨15, .data⟩, ⟨16, .data⟩], guard := none }) (v := ?_) rfl (by kernel_rfl) (by kernel_rfl) (by kernel_rfl) (fun _ _ _ h => h) (Or.inl ⟨by rfl, ?_⟩) hHeld ?_
      rotate_left
      · (intro wq hSw; (try dsimp only at hSw); first | (go_simp; done) | (go_simp; with_reducible rfl))
      try simp only [Act.put, qa, qb, qc]
      refine wpAnyH_take (i := 18) (oi := { dst := some 63, op := Op.load 3 (.tmp 62), type := 3, pos := "l09_jobs.go:152", after := #[⟨17, .data⟩], guard := none }) (v := ?_) rfl (by kernel_rfl) (by kernel_rfl) (by kernel_rfl) (fun _ _ _ h => h) (Or.inl ⟨by rfl, ?_⟩) hHeld ?_
      rotate_left
      · (intro wq hSw; (try dsimp only at hSw); first | (go_simp; done) | (go_simp; with_reducible rfl))
      try simp only [Act.put, qa, qb, qc]
      refine wpAnyH_ready (rs := [11]) (by kernel_rfl) (by simp) ?_
      refine AllReadyH.cons (o := { dst := some 56, op := Op.load 3 (.tmp 55), type := 3, pos := "l09_jobs.go:152", after := #[⟨10, .data⟩], guard := none }) rfl (fun K hK => ?_) AllReadyH.nil
      go_simp
      skip
      refine hK.out _ _ ?_ (fun hHeldN => ?_)
      · exact hHeld
      clear hK K hHeld
      have hHeld := hHeldN
      clear hHeldN
      try simp only [Act.put, qa, qb, qc]
      refine wpAnyH_take (i := 19) (oi := { dst := some 64, op := Op.binOp BinOp.add 3 (.tmp 56) (.tmp 63) 3, type := 3, pos := "l09_jobs.go:152", after := #[⟨11, .data⟩, ⟨18, .data⟩], guard := none }) (v := ?_) rfl (by kernel_rfl) (by kernel_rfl) (by kernel_rfl) (fun _ _ _ h => h) (Or.inl ⟨by rfl, ?_⟩) hHeld ?_
      rotate_left
      · (intro wq hSw; (try dsimp only at hSw); first | (go_simp; done) | (go_simp; with_reducible rfl))
      try simp only [Act.put, qa, qb, qc]
      refine wpAnyH_take (i := 20) (oi := { dst := some 65, op := Op.indexAddr 26 (.tmp 48) (.tmp 49), type := 0, pos := "l09_jobs.go:152", after := #[⟨3, .data⟩, ⟨4, .data⟩, ⟨0, .phase⟩, ⟨1, .phase⟩, ⟨2, .phase⟩, ⟨3, .phase⟩, ⟨4, .phase⟩, ⟨5, .phase⟩, ⟨6, .phase⟩, ⟨7, .phase⟩, ⟨8, .phase⟩, ⟨9, .phase⟩, ⟨10, .phase⟩, ⟨11, .phase⟩, ⟨12, .phase⟩, ⟨13, .phase⟩, ⟨14, .phase⟩, ⟨15, .phase⟩, ⟨16, .phase⟩, ⟨17, .phase⟩, ⟨18, .phase⟩, ⟨19, .phase⟩], guard := none }) (v := ?_) rfl (by kernel_rfl) (by kernel_rfl) (by kernel_rfl) (fun _ _ _ h => h) (Or.inl ⟨by rfl, ?_⟩) hHeld ?_
      rotate_left
      · (intro wq hSw; (try dsimp only at hSw); first | (go_simp; done) | (go_simp; with_reducible rfl))
      try simp only [Act.put, qa, qb, qc]
      refine wpAnyH_ready (rs := [21]) (by kernel_rfl) (by simp) ?_
      refine AllReadyH.cons (o := { dst := none, op := Op.store 3 (.tmp 65) (.tmp 64), type := 0, pos := "l09_jobs.go:152", after := #[⟨20, .data⟩, ⟨19, .data⟩, ⟨0, .phase⟩, ⟨1, .phase⟩, ⟨2, .phase⟩, ⟨3, .phase⟩, ⟨4, .phase⟩, ⟨5, .phase⟩, ⟨6, .phase⟩, ⟨7, .phase⟩, ⟨8, .phase⟩, ⟨9, .phase⟩, ⟨10, .phase⟩, ⟨11, .phase⟩, ⟨12, .phase⟩, ⟨13, .phase⟩, ⟨14, .phase⟩, ⟨15, .phase⟩, ⟨16, .phase⟩, ⟨17, .phase⟩, ⟨18, .phase⟩, ⟨19, .phase⟩], guard := none }) rfl (fun K hK => ?_) AllReadyH.nil
      go_simp
      skip
      refine hK.out _ _ ?_ (fun hHeldN => ?_)
      · exact ⟨cell_far hHeld.1 ng5, cell_far hHeld.2.1 ng5, cell_far hHeld.2.2 n65⟩
      clear hK K hHeld
      have hHeld := hHeldN
      clear hHeldN
      try simp only [Act.put, qa, qb, qc]
      refine wpAnyH_done (by kernel_rfl) ?_ _
      clear hHeld
      go_upto_region 5 with fail
      rw [← hw3]
      clear hw3 z5 z6 zp zi zs zv ng5 n65
      obtain ⟨⟨-, -, -, -, y4, -, -⟩, yl⟩ := box7 hC3.out.box
      obtain ⟨b4, o4, c4, q4, f4, lb4, xL, zL⟩ := hC3.out.pool.lf.one k4
      rw [q4] at y4
      replace y4 : w3.cell? ⟨g, 4, none⟩ = some (.slice (some ⟨b4, o4, none⟩) p.lf.length c4) := y4
      have fg := hC3.out.fg
      have ng4 : g ≠ b4 := fun e => by rw [← e] at f4; omega
      obtain ⟨li, hli⟩ : ∃ z, z = geti p.lf i := ⟨_, rfl⟩
      replace xL : w3.cell? ⟨b4, o4 + i, none⟩ = some (.int .i64 li) := by rw [hli]; exact xL
      have s2 := hC3.out.set_lf (j := i) k4 q4 (wrap64 (li - 1))
      have hC4 := s2.1
      have hO4 := hO3.out.trans (OwnC.of_lab s2.2 (by omega))
      have hq4 := hq3.out.labs s2.2 (by rw [fq]; omega)
      have hpaid : paidP (doneP p j) j i = { doneP p j with sm := (doneP p j).sm.set i (IntKind.i64.wrap (si + val)), lf := (doneP p j).lf.set i (wrap64 (li - 1)) } := by
        have e1 : geti (doneP p j).vl j = val := by rw [hworth.out]; exact getz_at l6
        have e2 : geti (doneP p j).sm i = si := by rw [hsi.out]; rfl
        have e3 : geti (doneP p j).lf i = li := by rw [hli]; rfl
        unfold paidP
        rw [e1, e2, e3, w64]
      have hwr : wrap64 (li - 1) = li - 1 := by unfold wrap64; have := hsz.out i; omega
      have hnl : geti (paidP (doneP p j) j i).lf i = li - 1 := by rw [hpaid]; exact (getz_at k4).trans hwr
      have hl0 : 0 ≤ li - 1 := by omega
      obtain ⟨w4, hw4⟩ : ∃ w4, w4 = w3.setCell ⟨b4, o4 + i, none⟩ (.int .i64 (wrap64 (li - 1))) := ⟨_, rfl⟩
      rw [← hw4] at hC4 hO4 hq4
      have hC4 : BoxO w4 f B g x (paidP (doneP p j) j i) := by rw [hpaid]; exact hC4
      have z4 : w4.cell? ⟨g, 4, none⟩ = some (.slice (some ⟨b4, o4, none⟩) p.lf.length c4) := by rw [hw4]; exact cell_far y4 ng4
      have zl4 : w4.cell? ⟨b4, o4 + i, none⟩ = some (.int .i64 (li - 1)) := by rw [hw4, World.cell?_setCell_same (h := xL), hwr]
      replace hC4 := hide hC4
      replace hO4 := hide hO4
      replace hq4 := hide hq4
      replace hpaid := hide hpaid
      replace hli := hide hli
      replace hnl := hide hnl
      replace hwr := hide hwr
      replace q4 := hide q4
      clear s2 f4 fg
      go_upto_region 6 with fail
      rw [← hw4]
      clear hw4 y4 xL zL ng4 lb4
      obtain ⟨ln, hln⟩ : ∃ z, z = li - 1 := ⟨_, rfl⟩
      rw [← hln] at zl4 hnl hl0
      replace hln := hide hln
      by_cases hz : ln > 0
      · have hF2 := hide (show fin = paidP (doneP p j) j i from by rw [← hfp.out, hFin.out, hnl.out, if_neg (by omega)])
        go_wp2_with fail
        refine bodyPost_ret (v := .tuple #[]) (by simp [results, Try.results104, go_sem]; done) rfl ?_
        exact ⟨rfl, by rw [hF2.out]; exact hC4.out, hO4.out⟩
      · have hz0 : ln = 0 := by omega
        have hF2 := hide (show finP d (paidP (doneP p j) j i) i = fin from by rw [← hfp.out, hFin.out, hnl.out, if_pos hz0])
        have hI2 := hide (show PInv (paidP (doneP p j) j i) (i : Int) from by
          have h1 := hup.out
          rw [hnl.out, if_pos hz0] at h1
          exact h1)
        replace hz0 := hide hz0
        go_wp2_with fail
        go_roundw
        case rel => exact ⟨i, d, paidP (doneP p j) j i, rfl, by omega, hI2, hsz, hC4, hq4, hNp, hF2, hO4⟩
        case measure => simp [intOf]; omega
end Go.Proofs.Ytfnphnjadknoaaa
