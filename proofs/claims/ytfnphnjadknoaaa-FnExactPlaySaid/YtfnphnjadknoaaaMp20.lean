/- The program's finish: a job has Done, and all above that this ends. -/
import Derived.Test.YtfnphnjadknoaaaMp0
import Derived.Test.YtfnphnjadknoaaaMp12
import Derived.Test.YtfnphnjadknoaaaMp19
namespace Go.Proofs.Ytfnphnjadknoaaa
open Go.RowKit

theorem OwnC.trans {f : Nat → Nat} {B : Nat} {a b c : World} (h : OwnC f B a b) (k : OwnC f B b c) : OwnC f B a c := Chg.trans h k
theorem w64 (z : Int) : IntKind.i64.wrap z = wrap64 z := by rw [IntKind.wrap_i64]; unfold wrap64; omega
theorem Sl.one {t : TypeId} {w : World} {f : Nat → Nat} {l B n : Nat} {v : Value} {G : Nat → Value} (h : Sl t 1 w f l B v n G) {k : Nat} (hk : k < n) : ∃ q off c, v = .slice (some ⟨q, off, none⟩) n c ∧ f q = l ∧ q < w.heap.size ∧ w.cell? ⟨q, off + k, none⟩ = some (G k) ∧ w.frozen? ⟨q, off + k, none⟩ = false := by
  obtain ⟨q, off, c, e, h1, -, h2, h4⟩ := h.at_ (k := k) (by omega)
  exact ⟨q, off, c, e, h1, h2, (h4 k (by omega)).1, (h4 k (by omega)).2⟩
set_option maxRecDepth 100000 in
set_option maxHeartbeats 12800000 in
theorem finish_any (f : Nat → Nat) (B g qp : Nat) (x : PV) : ∀ (d : Nat) (p : PoolD) (j : Nat) (w : World), j < d → Hid (PInv p (j : Int)) → Hid (∀ k, (getj p.js k).ks.length ≤ 1048576) → Hid (CrewO w f B g qp x p) →
    Calls Try.prog 126 #[.pointer (some ⟨g, 0, none⟩), .int .i64 j] w fun e w' => e = .returned (.tuple #[]) ∧ CrewO w' f B g qp x (finP d p j) ∧ OwnC f B w w' := by
  intro d
  induction d with
  | zero => intro p j w hjd; omega
  | succ d ih =>
    intro p j w hjd hI hsz h
    have ih := hide ih
    have hj : j < p.js.length := by have := (hI.out.exc (by omega)).1; omega
    have hj' : (j : Int) < p.js.length := by omega
    have h30 := hI.out.tree.top
    have e3 := hI.out.ldn
    have e4 := hI.out.llf
    have e5 := hI.out.lsm
    have e6 := hI.out.lvl
    have m3 : (j : Int) < p.dn.length := by omega
    have m5 : (j : Int) < p.sm.length := by omega
    have m6 : (j : Int) < p.vl.length := by omega
    have l3 : j < p.dn.length := by omega
    have l5 : j < p.sm.length := by omega
    have l6 : j < p.vl.length := by omega
    obtain ⟨⟨x0, -, -, x3, -, x5, x6, -⟩, xl⟩ := box8 h.out.box
    obtain ⟨b3, o3, c3, v3, f3, lb3, xd, zd⟩ := h.out.pool.dn.one l3
    obtain ⟨b5, o5, c5, v5, f5, -, xs, -⟩ := h.out.pool.sm.one l5
    obtain ⟨b6, o6, c6, v6, f6, lb6, xw, zw⟩ := h.out.pool.vl.one l6
    obtain ⟨b0, o0, c0, v0, f0, -, -, hL⟩ := h.out.pool.jobs.heads.at_ (k := j * 2) (by omega)
    have xv := (hL (j * 2) (by omega)).1
    have xk := (hL (j * 2 + 1) (by omega)).1
    rw [gJob_v] at xv
    rw [gJob_k] at xk
    rw [← Nat.add_assoc] at xk
    clear hL
    obtain ⟨AK, cK, vK⟩ := (h.out.pool.jobs.each j hj).form
    rw [vK] at xk
    have fg := h.out.fg
    have ng3 : g ≠ b3 := fun e => by rw [← e] at f3; omega
    have ng6 : g ≠ b6 := fun e => by rw [← e] at f6; omega
    have ng5 : g ≠ b5 := fun e => by rw [← e] at f5; omega
    have n03 : b0 ≠ b3 := fun e => by rw [← e] at f3; omega
    have n06 : b0 ≠ b6 := fun e => by rw [← e] at f6; omega
    have n53 : b5 ≠ b3 := fun e => by rw [← e] at f3; omega
    have n56 : b5 ≠ b6 := fun e => by rw [← e] at f6; omega
    have n63 : b6 ≠ b3 := fun e => by rw [← e] at f3; omega
    have n65 : b6 ≠ b5 := fun e => n56 e.symm
    rw [v0] at x0
    rw [v3] at x3
    rw [v5] at x5
    rw [v6] at x6
    obtain ⟨nK, hnK⟩ : ∃ z, z = (getj p.js j).ks.length := ⟨_, rfl⟩
    rw [← hnK] at xk
    obtain ⟨vj, hvj⟩ : ∃ z, z = (getj p.js j).v := ⟨_, rfl⟩
    rw [← hvj] at xv
    obtain ⟨sj, hsj⟩ : ∃ z, z = geti p.sm j := ⟨_, rfl⟩
    replace xs : w.cell? ⟨b5, o5 + j, none⟩ = some (.int .i64 sj) := by rw [hsj]; exact xs
    obtain ⟨val, hval⟩ : ∃ z, z = wrap64 (vj + wrap64 (2 * sj)) := ⟨_, rfl⟩
    have kV := hide (show ∀ w, Calls Try.prog 72 #[.agg #[.int .i64 vj, .slice AK nK cK], .int .i64 sj] w fun e w' => e = .returned (.int .i64 val) ∧ w' = w.alloc (.cells #[.int .i64 vj, .slice AK nK cK] 42) from fun w => by rw [hval]; exact value_any vj sj _ w ⟨_, _, _, rfl⟩)
    have hworth : val = worth (getj p.js j).v (geti p.sm j) := by rw [hval, hvj, hsj]; rfl
    have s1 := h.out.set_dn l3 v3 true
    have s2 := s1.1.set_vl (j := j) l6 v6 val
    have hC1 := (s2.1.alloc (.cells #[.int .i64 vj, .slice AK nK cK] 42)).drew
    have hO1 : OwnC f B w (((w.setCell ⟨b3, o3 + j, none⟩ (.bool true)).setCell ⟨b6, o6 + j, none⟩ (.int .i64 val)).alloc (.cells #[.int .i64 vj, .slice AK nK cK] 42)).drew :=
      (OwnC.of_lab s1.2 (by omega)).trans ((OwnC.of_lab s2.2 (by omega)).trans (Chg.of_below (below1 _ _).drew))
    obtain ⟨w1, hw1⟩ : ∃ w1, w1 = (((w.setCell ⟨b3, o3 + j, none⟩ (.bool true)).setCell ⟨b6, o6 + j, none⟩ (.int .i64 val)).alloc (.cells #[.int .i64 vj, .slice AK nK cK] 42)).drew := ⟨_, rfl⟩
    rw [← hw1] at hC1 hO1
    have hC1 : CrewO w1 f B g qp x (doneP p j) := by
      have : doneP p j = { p with dn := p.dn.set j true, vl := p.vl.set j val } := by unfold doneP; rw [hworth]
      rw [this]
      exact hC1
    clear s1 s2
    replace hC1 := hide hC1
    replace hO1 := hide hO1
    replace hworth := hide hworth
    replace h := hide h.out
    clear hval hvj hsj hnK vK v0 fg f3 f5 f6 f0 e3 e4 e5 e6
    replace v3 := hide v3
    replace v5 := hide v5
    replace v6 := hide v6
    go_enter Try.func126, Try.ntmps126
    go_upto_region 0 with fail
    refine wp_region_held_drew (S := (fun w' => w'.cell? ⟨g, 3, none⟩ = some (.slice (some ⟨b3, o3, none⟩) p.dn.length c3) ∧ w'.cell? ⟨g, 6, none⟩ = some (.slice (some ⟨b6, o6, none⟩) p.vl.length c6) ∧ w'.cell? ⟨g, 0, none⟩ = some (.slice (some ⟨b0, o0, none⟩) p.js.length c0) ∧ w'.cell? ⟨g, 5, none⟩ = some (.slice (some ⟨b5, o5, none⟩) p.sm.length c5) ∧ w'.cell? ⟨b0, o0 + j * 2, none⟩ = some (.int .i64 vj) ∧ w'.cell? ⟨b0, o0 + j * 2 + 1, none⟩ = some (.slice AK nK cK) ∧ w'.cell? ⟨b5, o5 + j, none⟩ = some (.int .i64 sj))) (by kernel_rfl) ?_ (fun hHeld => ?_)
    · exact ⟨x3, x6, x0, x5, xv, xk, xs⟩
    refine wpAnyH_take (i := 0) (oi := { dst := some 5, op := Op.move (.tmp 0), type := 90, pos := "l09_jobs.go:258", after := #[], guard := none }) (v := ?_) rfl (by kernel_rfl) (by kernel_rfl) (by kernel_rfl) (fun _ _ _ h => h) (Or.inl ⟨by rfl, ?_⟩) hHeld ?_
    rotate_left
    · (intro wq hSw; (try dsimp only at hSw); first | (go_simp; done) | (go_simp; with_reducible rfl))
    try simp only [Act.put, qa, qb, qc]
    refine wpAnyH_take (i := 1) (oi := { dst := some 6, op := Op.nilCheck (.tmp 5), type := 0, pos := "l09_jobs.go:258", after := #[⟨0, .data⟩], guard := none }) (v := ?_) rfl (by kernel_rfl) (by kernel_rfl) (by kernel_rfl) (fun _ _ _ h => h) (Or.inl ⟨by rfl, ?_⟩) hHeld ?_
    rotate_left
    · (intro wq hSw; (try dsimp only at hSw); first | (go_simp; done) | (go_simp; with_reducible rfl))
    try simp only [Act.put, qa, qb, qc]
    refine wpAnyH_take (i := 2) (oi := { dst := some 7, op := Op.fieldAddr 98 (.tmp 6) 0, type := 0, pos := "l09_jobs.go:258", after := #[⟨1, .data⟩], guard := none }) (v := ?_) rfl (by kernel_rfl) (by kernel_rfl) (by kernel_rfl) (fun _ _ _ h => h) (Or.inl ⟨by rfl, ?_⟩) hHeld ?_
    rotate_left
    · (intro wq hSw; (try dsimp only at hSw); first | (go_simp; done) | (go_simp; with_reducible rfl))
    try simp only [Act.put, qa, qb, qc]
    refine wpAnyH_take (i := 3) (oi := { dst := some 8, op := Op.fieldAddr 28 (.tmp 7) 3, type := 0, pos := "l09_jobs.go:258", after := #[⟨2, .data⟩], guard := none }) (v := ?_) rfl (by kernel_rfl) (by kernel_rfl) (by kernel_rfl) (fun _ _ _ h => h) (Or.inl ⟨by rfl, ?_⟩) hHeld ?_
    rotate_left
    · (intro wq hSw; (try dsimp only at hSw); first | (go_simp; done) | (go_simp; with_reducible rfl))
    try simp only [Act.put, qa, qb, qc]
    refine wpAnyH_take (i := 4) (oi := { dst := some 9, op := Op.load 25 (.tmp 8), type := 25, pos := "l09_jobs.go:258", after := #[⟨3, .data⟩], guard := none }) (v := ?_) rfl (by kernel_rfl) (by kernel_rfl) (by kernel_rfl) (fun _ _ _ h => h) (Or.inl ⟨by rfl, ?_⟩) hHeld ?_
    rotate_left
    · (intro wq hSw; (try dsimp only at hSw); first | (go_simp; done) | (go_simp; with_reducible rfl))
    try simp only [Act.put, qa, qb, qc]
    refine wpAnyH_take (i := 5) (oi := { dst := some 10, op := Op.move (.tmp 1), type := 3, pos := "l09_jobs.go:258", after := #[], guard := none }) (v := ?_) rfl (by kernel_rfl) (by kernel_rfl) (by kernel_rfl) (fun _ _ _ h => h) (Or.inl ⟨by rfl, ?_⟩) hHeld ?_
    rotate_left
    · (intro wq hSw; (try dsimp only at hSw); first | (go_simp; done) | (go_simp; with_reducible rfl))
    try simp only [Act.put, qa, qb, qc]
    refine wpAnyH_take (i := 6) (oi := { dst := some 11, op := Op.move (.tmp 0), type := 90, pos := "l09_jobs.go:258", after := #[], guard := none }) (v := ?_) rfl (by kernel_rfl) (by kernel_rfl) (by kernel_rfl) (fun _ _ _ h => h) (Or.inl ⟨by rfl, ?_⟩) hHeld ?_
    rotate_left
    · (intro wq hSw; (try dsimp only at hSw); first | (go_simp; done) | (go_simp; with_reducible rfl))
    try simp only [Act.put, qa, qb, qc]
    refine wpAnyH_take (i := 7) (oi := { dst := some 12, op := Op.nilCheck (.tmp 11), type := 0, pos := "l09_jobs.go:258", after := #[⟨6, .data⟩], guard := none }) (v := ?_) rfl (by kernel_rfl) (by kernel_rfl) (by kernel_rfl) (fun _ _ _ h => h) (Or.inl ⟨by rfl, ?_⟩) hHeld ?_
    rotate_left
    · (intro wq hSw; (try dsimp only at hSw); first | (go_simp; done) | (go_simp; with_reducible rfl))
    try simp only [Act.put, qa, qb, qc]
    refine wpAnyH_take (i := 8) (oi := { dst := some 13, op := Op.fieldAddr 98 (.tmp 12) 0, type := 0, pos := "l09_jobs.go:258", after := #[⟨7, .data⟩], guard := none }) (v := ?_) rfl (by kernel_rfl) (by kernel_rfl) (by kernel_rfl) (fun _ _ _ h => h) (Or.inl ⟨by rfl, ?_⟩) hHeld ?_
    rotate_left
    · (intro wq hSw; (try dsimp only at hSw); first | (go_simp; done) | (go_simp; with_reducible rfl))
    try simp only [Act.put, qa, qb, qc]
    refine wpAnyH_take (i := 9) (oi := { dst := some 14, op := Op.fieldAddr 28 (.tmp 13) 6, type := 0, pos := "l09_jobs.go:258", after := #[⟨8, .data⟩], guard := none }) (v := ?_) rfl (by kernel_rfl) (by kernel_rfl) (by kernel_rfl) (fun _ _ _ h => h) (Or.inl ⟨by rfl, ?_⟩) hHeld ?_
    rotate_left
    · (intro wq hSw; (try dsimp only at hSw); first | (go_simp; done) | (go_simp; with_reducible rfl))
    try simp only [Act.put, qa, qb, qc]
    refine wpAnyH_take (i := 10) (oi := { dst := some 15, op := Op.load 26 (.tmp 14), type := 26, pos := "l09_jobs.go:258", after := #[⟨9, .data⟩], guard := none }) (v := ?_) rfl (by kernel_rfl) (by kernel_rfl) (by kernel_rfl) (fun _ _ _ h => h) (Or.inl ⟨by rfl, ?_⟩) hHeld ?_
    rotate_left
    · (intro wq hSw; (try dsimp only at hSw); first | (go_simp; done) | (go_simp; with_reducible rfl))
    try simp only [Act.put, qa, qb, qc]
    refine wpAnyH_take (i := 11) (oi := { dst := some 16, op := Op.move (.tmp 1), type := 3, pos := "l09_jobs.go:258", after := #[{ on := 30, ground := Ground.gcOnly Departure.lateStores }], guard := none }) (v := ?_) rfl (by kernel_rfl) (by kernel_rfl) (by kernel_rfl) (fun _ _ _ h => h) (Or.inl ⟨by rfl, ?_⟩) hHeld ?_
    rotate_left
    · (intro wq hSw; (try dsimp only at hSw); first | (go_simp; done) | (go_simp; with_reducible rfl))
    try simp only [Act.put, qa, qb, qc]
    refine wpAnyH_take (i := 12) (oi := { dst := some 17, op := Op.move (.tmp 0), type := 90, pos := "l09_jobs.go:258", after := #[], guard := none }) (v := ?_) rfl (by kernel_rfl) (by kernel_rfl) (by kernel_rfl) (fun _ _ _ h => h) (Or.inl ⟨by rfl, ?_⟩) hHeld ?_
    rotate_left
    · (intro wq hSw; (try dsimp only at hSw); first | (go_simp; done) | (go_simp; with_reducible rfl))
    try simp only [Act.put, qa, qb, qc]
    refine wpAnyH_take (i := 13) (oi := { dst := some 18, op := Op.nilCheck (.tmp 17), type := 0, pos := "l09_jobs.go:258", after := #[⟨12, .data⟩], guard := none }) (v := ?_) rfl (by kernel_rfl) (by kernel_rfl) (by kernel_rfl) (fun _ _ _ h => h) (Or.inl ⟨by rfl, ?_⟩) hHeld ?_
    rotate_left
    · (intro wq hSw; (try dsimp only at hSw); first | (go_simp; done) | (go_simp; with_reducible rfl))
    try simp only [Act.put, qa, qb, qc]
    refine wpAnyH_take (i := 14) (oi := { dst := some 19, op := Op.fieldAddr 98 (.tmp 18) 0, type := 0, pos := "l09_jobs.go:258", after := #[⟨13, .data⟩], guard := none }) (v := ?_) rfl (by kernel_rfl) (by kernel_rfl) (by kernel_rfl) (fun _ _ _ h => h) (Or.inl ⟨by rfl, ?_⟩) hHeld ?_
    rotate_left
    · (intro wq hSw; (try dsimp only at hSw); first | (go_simp; done) | (go_simp; with_reducible rfl))
    try simp only [Act.put, qa, qb, qc]
    refine wpAnyH_take (i := 15) (oi := { dst := some 20, op := Op.fieldAddr 28 (.tmp 19) 0, type := 0, pos := "l09_jobs.go:258", after := #[⟨14, .data⟩], guard := none }) (v := ?_) rfl (by kernel_rfl) (by kernel_rfl) (by kernel_rfl) (fun _ _ _ h => h) (Or.inl ⟨by rfl, ?_⟩) hHeld ?_
    rotate_left
    · (intro wq hSw; (try dsimp only at hSw); first | (go_simp; done) | (go_simp; with_reducible rfl))
    try simp only [Act.put, qa, qb, qc]
    refine wpAnyH_take (i := 16) (oi := { dst := some 21, op := Op.load 23 (.tmp 20), type := 23, pos := "l09_jobs.go:258", after := #[⟨15, .data⟩], guard := none }) (v := ?_) rfl (by kernel_rfl) (by kernel_rfl) (by kernel_rfl) (fun _ _ _ h => h) (Or.inl ⟨by rfl, ?_⟩) hHeld ?_
    rotate_left
    · (intro wq hSw; (try dsimp only at hSw); first | (go_simp; done) | (go_simp; with_reducible rfl))
    try simp only [Act.put, qa, qb, qc]
    refine wpAnyH_take (i := 17) (oi := { dst := some 22, op := Op.move (.tmp 1), type := 3, pos := "l09_jobs.go:258", after := #[], guard := none }) (v := ?_) rfl (by kernel_rfl) (by kernel_rfl) (by kernel_rfl) (fun _ _ _ h => h) (Or.inl ⟨by rfl, ?_⟩) hHeld ?_
    rotate_left
    · (intro wq hSw; (try dsimp only at hSw); first | (go_simp; done) | (go_simp; with_reducible rfl))
    try simp only [Act.put, qa, qb, qc]
    refine wpAnyH_take (i := 18) (oi := { dst := some 23, op := Op.indexAddr 23 (.tmp 21) (.tmp 22), type := 0, pos := "l09_jobs.go:258", after := #[⟨16, .data⟩, ⟨17, .data⟩], guard := none }) (v := ?_) rfl (by kernel_rfl) (by kernel_rfl) (by kernel_rfl) (fun _ _ _ h => h) (Or.inl ⟨by rfl, ?_⟩) hHeld ?_
    rotate_left
    · (intro wq hSw; (try dsimp only at hSw); first | (go_simp; done) | (go_simp; with_reducible rfl))
    try simp only [Act.put, qa, qb, qc]
    refine wpAnyH_take (i := 19) (oi := { dst := some 24, op := Op.load 42 (.tmp 23), type := 42, pos := "l09_jobs.go:258", after := #[⟨18, .data⟩], guard := none }) (v := ?_) rfl (by kernel_rfl) (by kernel_rfl) (by kernel_rfl) (fun _ _ _ h => h) (Or.inl ⟨by rfl, ?_⟩) hHeld ?_
    rotate_left
    · (intro wq hSw; (try dsimp only at hSw); first | (go_simp; done) | (go_simp; with_reducible rfl))
    try simp only [Act.put, qa, qb, qc]
    refine wpAnyH_take (i := 20) (oi := { dst := some 25, op := Op.move (.tmp 0), type := 90, pos := "l09_jobs.go:258", after := #[], guard := none }) (v := ?_) rfl (by kernel_rfl) (by kernel_rfl) (by kernel_rfl) (fun _ _ _ h => h) (Or.inl ⟨by rfl, ?_⟩) hHeld ?_
    rotate_left
    · (intro wq hSw; (try dsimp only at hSw); first | (go_simp; done) | (go_simp; with_reducible rfl))
    try simp only [Act.put, qa, qb, qc]
    refine wpAnyH_take (i := 21) (oi := { dst := some 26, op := Op.nilCheck (.tmp 25), type := 0, pos := "l09_jobs.go:258", after := #[⟨20, .data⟩], guard := none }) (v := ?_) rfl (by kernel_rfl) (by kernel_rfl) (by kernel_rfl) (fun _ _ _ h => h) (Or.inl ⟨by rfl, ?_⟩) hHeld ?_
    rotate_left
    · (intro wq hSw; (try dsimp only at hSw); first | (go_simp; done) | (go_simp; with_reducible rfl))
    try simp only [Act.put, qa, qb, qc]
    refine wpAnyH_take (i := 22) (oi := { dst := some 27, op := Op.fieldAddr 98 (.tmp 26) 0, type := 0, pos := "l09_jobs.go:258", after := #[⟨21, .data⟩], guard := none }) (v := ?_) rfl (by kernel_rfl) (by kernel_rfl) (by kernel_rfl) (fun _ _ _ h => h) (Or.inl ⟨by rfl, ?_⟩) hHeld ?_
    rotate_left
    · (intro wq hSw; (try dsimp only at hSw); first | (go_simp; done) | (go_simp; with_reducible rfl))
    try simp only [Act.put, qa, qb, qc]
    refine wpAnyH_take (i := 23) (oi := { dst := some 28, op := Op.fieldAddr 28 (.tmp 27) 5, type := 0, pos := "l09_jobs.go:258", after := #[⟨22, .data⟩], guard := none }) (v := ?_) rfl (by kernel_rfl) (by kernel_rfl) (by kernel_rfl) (fun _ _ _ h => h) (Or.inl ⟨by rfl, ?_⟩) hHeld ?_
    rotate_left
    · (intro wq hSw; (try dsimp only at hSw); first | (go_simp; done) | (go_simp; with_reducible rfl))
    try simp only [Act.put, qa, qb, qc]
    refine wpAnyH_take (i := 24) (oi := { dst := some 29, op := Op.load 26 (.tmp 28), type := 26, pos := "l09_jobs.go:258", after := #[⟨23, .data⟩], guard := none }) (v := ?_) rfl (by kernel_rfl) (by kernel_rfl) (by kernel_rfl) (fun _ _ _ h => h) (Or.inl ⟨by rfl, ?_⟩) hHeld ?_
    rotate_left
    · (intro wq hSw; (try dsimp only at hSw); first | (go_simp; done) | (go_simp; with_reducible rfl))
    try simp only [Act.put, qa, qb, qc]
    refine wpAnyH_take (i := 25) (oi := { dst := some 30, op := Op.move (.tmp 1), type := 3, pos := "l09_jobs.go:258", after := #[], guard := none }) (v := ?_) rfl (by kernel_rfl) (by kernel_rfl) (by kernel_rfl) (fun _ _ _ h => h) (Or.inl ⟨by rfl, ?_⟩) hHeld ?_
    rotate_left
    · (intro wq hSw; (try dsimp only at hSw); first | (go_simp; done) | (go_simp; with_reducible rfl))
    try simp only [Act.put, qa, qb, qc]
    refine wpAnyH_take (i := 26) (oi := { dst := some 31, op := Op.indexAddr 26 (.tmp 29) (.tmp 30), type := 0, pos := "l09_jobs.go:258", after := #[⟨24, .data⟩, ⟨25, .data⟩], guard := none }) (v := ?_) rfl (by kernel_rfl) (by kernel_rfl) (by kernel_rfl) (fun _ _ _ h => h) (Or.inl ⟨by rfl, ?_⟩) hHeld ?_
    rotate_left
    · (intro wq hSw; (try dsimp only at hSw); first | (go_simp; done) | (go_simp; with_reducible rfl))
    try simp only [Act.put, qa, qb, qc]
    refine wpAnyH_take (i := 27) (oi := { dst := some 32, op := Op.load 3 (.tmp 31), type := 3, pos := "l09_jobs.go:258", after := #[⟨26, .data⟩], guard := none }) (v := ?_) rfl (by kernel_rfl) (by kernel_rfl) (by kernel_rfl) (fun _ _ _ h => h) (Or.inl ⟨by rfl, ?_⟩) hHeld ?_
    rotate_left
    · (intro wq hSw; (try dsimp only at hSw); first | (go_simp; done) | (go_simp; with_reducible rfl))
    try simp only [Act.put, qa, qb, qc]
    refine wpAnyH_ready (rs := [28]) (by kernel_rfl) (by simp) ?_
    refine AllReadyH.cons (o := { dst := some 33, op := Op.call { callee := Callee.value (.func 72), args := #[.tmp 24, .tmp 32], argTypes := #[42, 3] }, type := 3, pos := "l09_jobs.go:258", after := #[⟨19, .data⟩, ⟨27, .data⟩], guard := none }) rfl (fun K hK => ?_) AllReadyH.nil
    go_simp
    go_at_call 72; refine (kV.out _).mono ?_; rintro e wx ⟨rfl, rfl⟩
    refine hK.out _ _ ?_ (fun hHeldN => ?_)
    · exact ⟨cell_new _ hHeld.1, cell_new _ hHeld.2.1, cell_new _ hHeld.2.2.1, cell_new _ hHeld.2.2.2.1, cell_new _ hHeld.2.2.2.2.1, cell_new _ hHeld.2.2.2.2.2.1, cell_new _ hHeld.2.2.2.2.2.2⟩
    clear hK K hHeld
    have hHeld := hHeldN
    clear hHeldN
    try simp only [Act.put, qa, qb, qc]
    refine wpAnyH_take (i := 29) (oi := { dst := some 34, op := Op.indexAddr 25 (.tmp 9) (.tmp 10), type := 0, pos := "l09_jobs.go:258", after := #[⟨4, .data⟩, ⟨5, .data⟩, ⟨0, .phase⟩, ⟨1, .phase⟩, ⟨2, .phase⟩, ⟨3, .phase⟩, ⟨4, .phase⟩, ⟨5, .phase⟩, { on := 6, ground := Ground.textOnly Departure.lateStores }, { on := 7, ground := Ground.textOnly Departure.lateStoresUnsure }, { on := 8, ground := Ground.textOnly Departure.lateStoresUnsure }, { on := 9, ground := Ground.textOnly Departure.lateStoresUnsure }, ⟨10, .phase⟩, { on := 11, ground := Ground.textOnly Departure.lateStores }, { on := 12, ground := Ground.textOnly Departure.lateStores }, { on := 13, ground := Ground.textOnly Departure.lateStoresUnsure }, { on := 14, ground := Ground.textOnly Departure.lateStoresUnsure }, { on := 15, ground := Ground.textOnly Departure.lateStoresUnsure }, ⟨16, .phase⟩, { on := 17, ground := Ground.textOnly Departure.lateStores }, { on := 18, ground := Ground.textOnly Departure.lateStoresUnsure }, ⟨19, .phase⟩, { on := 20, ground := Ground.textOnly Departure.lateStores }, { on := 21, ground := Ground.textOnly Departure.lateStoresUnsure }, { on := 22, ground := Ground.textOnly Departure.lateStoresUnsure }, { on := 23, ground := Ground.textOnly Departure.lateStoresUnsure }, ⟨24, .phase⟩, { on := 25, ground := Ground.textOnly Departure.lateStores }, { on := 26, ground := Ground.textOnly Departure.lateStoresUnsure }, ⟨27, .phase⟩, ⟨28, .phase⟩], guard := none }) (v := ?_) rfl (by kernel_rfl) (by kernel_rfl) (by kernel_rfl) (fun _ _ _ h => h) (Or.inl ⟨by rfl, ?_⟩) hHeld ?_
    rotate_left
    · (intro wq hSw; (try dsimp only at hSw); first | (go_simp; done) | (go_simp; with_reducible rfl))
    try simp only [Act.put, qa, qb, qc]
    refine wpAnyH_ready (rs := [30]) (by kernel_rfl) (by simp) ?_
    refine AllReadyH.cons (o := { dst := none, op := Op.store 4 (.tmp 34) (.const (Value.bool true)), type := 0, pos := "l09_jobs.go:258", after := #[⟨29, .data⟩, ⟨28, .chain⟩, ⟨0, .phase⟩, ⟨1, .phase⟩, ⟨2, .phase⟩, ⟨3, .phase⟩, ⟨4, .phase⟩, ⟨5, .phase⟩, { on := 6, ground := Ground.textOnly Departure.lateStores }, { on := 7, ground := Ground.textOnly Departure.lateStoresUnsure }, { on := 8, ground := Ground.textOnly Departure.lateStoresUnsure }, { on := 9, ground := Ground.textOnly Departure.lateStoresUnsure }, ⟨10, .phase⟩, { on := 11, ground := Ground.textOnly Departure.lateStores }, { on := 12, ground := Ground.textOnly Departure.lateStores }, { on := 13, ground := Ground.textOnly Departure.lateStoresUnsure }, { on := 14, ground := Ground.textOnly Departure.lateStoresUnsure }, { on := 15, ground := Ground.textOnly Departure.lateStoresUnsure }, ⟨16, .phase⟩, { on := 17, ground := Ground.textOnly Departure.lateStores }, { on := 18, ground := Ground.textOnly Departure.lateStoresUnsure }, ⟨19, .phase⟩, { on := 20, ground := Ground.textOnly Departure.lateStores }, { on := 21, ground := Ground.textOnly Departure.lateStoresUnsure }, { on := 22, ground := Ground.textOnly Departure.lateStoresUnsure }, { on := 23, ground := Ground.textOnly Departure.lateStoresUnsure }, ⟨24, .phase⟩, { on := 25, ground := Ground.textOnly Departure.lateStores }, { on := 26, ground := Ground.textOnly Departure.lateStoresUnsure }, ⟨27, .phase⟩, ⟨28, .phase⟩], guard := none }) rfl (fun K hK => ?_) AllReadyH.nil
    go_simp
    skip
    refine hK.out _ _ ?_ (fun hHeldN => ?_)
    · exact ⟨cell_drew (cell_new _ (cell_far x3 ng3)), cell_drew (cell_new _ (cell_far x6 ng3)), cell_drew (cell_new _ (cell_far x0 ng3)), cell_drew (cell_new _ (cell_far x5 ng3)), cell_drew (cell_new _ (cell_far xv n03)), cell_drew (cell_new _ (cell_far xk n03)), cell_drew (cell_new _ (cell_far xs n53))⟩
    clear hK K hHeld
    have hHeld := hHeldN
    clear hHeldN
    try simp only [Act.put, qa, qb, qc]
    refine wpAnyH_take (i := 31) (oi := { dst := some 35, op := Op.indexAddr 26 (.tmp 15) (.tmp 16), type := 0, pos := "l09_jobs.go:258", after := #[⟨10, .data⟩, ⟨11, .data⟩, ⟨0, .phase⟩, ⟨1, .phase⟩, ⟨2, .phase⟩, ⟨3, .phase⟩, ⟨4, .phase⟩, ⟨5, .phase⟩, ⟨6, .phase⟩, ⟨7, .phase⟩, ⟨8, .phase⟩, ⟨9, .phase⟩, ⟨10, .phase⟩, ⟨11, .phase⟩, ⟨12, .phase⟩, ⟨13, .phase⟩, ⟨14, .phase⟩, ⟨15, .phase⟩, ⟨16, .phase⟩, ⟨17, .phase⟩, ⟨18, .phase⟩, ⟨19, .phase⟩, ⟨20, .phase⟩, ⟨21, .phase⟩, ⟨22, .phase⟩, ⟨23, .phase⟩, ⟨24, .phase⟩, ⟨25, .phase⟩, ⟨26, .phase⟩, ⟨27, .phase⟩, ⟨28, .phase⟩, ⟨29, .phase⟩, ⟨30, .phase⟩], guard := none }) (v := ?_) rfl (by kernel_rfl) (by kernel_rfl) (by kernel_rfl) (fun _ _ _ h => h) (Or.inl ⟨by rfl, ?_⟩) hHeld ?_
    rotate_left
    · (intro wq hSw; (try dsimp only at hSw); first | (go_simp; done) | (go_simp; with_reducible rfl))
    try simp only [Act.put, qa, qb, qc]
    refine wpAnyH_ready (rs := [32]) (by kernel_rfl) (by simp) ?_
    refine AllReadyH.cons (o := { dst := none, op := Op.store 3 (.tmp 35) (.tmp 33), type := 0, pos := "l09_jobs.go:258", after := #[⟨31, .data⟩, ⟨28, .data⟩, ⟨30, .chain⟩, ⟨0, .phase⟩, ⟨1, .phase⟩, ⟨2, .phase⟩, ⟨3, .phase⟩, ⟨4, .phase⟩, ⟨5, .phase⟩, ⟨6, .phase⟩, ⟨7, .phase⟩, ⟨8, .phase⟩, ⟨9, .phase⟩, ⟨10, .phase⟩, ⟨11, .phase⟩, ⟨12, .phase⟩, ⟨13, .phase⟩, ⟨14, .phase⟩, ⟨15, .phase⟩, ⟨16, .phase⟩, ⟨17, .phase⟩, ⟨18, .phase⟩, ⟨19, .phase⟩, ⟨20, .phase⟩, ⟨21, .phase⟩, ⟨22, .phase⟩, ⟨23, .phase⟩, ⟨24, .phase⟩, ⟨25, .phase⟩, ⟨26, .phase⟩, ⟨27, .phase⟩, ⟨28, .phase⟩, ⟨29, .phase⟩, ⟨30, .phase⟩], guard := none }) rfl (fun K hK => ?_) AllReadyH.nil
    go_simp
    skip
    refine hK.out _ _ ?_ (fun hHeldN => ?_)
    · exact ⟨cell_drew (cell_new _ (cell_far (cell_far x3 ng3) ng6)), cell_drew (cell_new _ (cell_far (cell_far x6 ng3) ng6)), cell_drew (cell_new _ (cell_far (cell_far x0 ng3) ng6)), cell_drew (cell_new _ (cell_far (cell_far x5 ng3) ng6)), cell_drew (cell_new _ (cell_far (cell_far xv n03) n06)), cell_drew (cell_new _ (cell_far (cell_far xk n03) n06)), cell_drew (cell_new _ (cell_far (cell_far xs n53) n56))⟩
    clear hK K hHeld
    have hHeld := hHeldN
    clear hHeldN
    try simp only [Act.put, qa, qb, qc]
    refine wpAnyH_done (by kernel_rfl) ?_ _
    clear hHeld
    go_upto_region 1 with fail
    rw [← hw1]
    clear hw1 lb3 lb6 x0 x3 x5 x6 xv xk xs xd xw zd zw ng3 ng6 n03 n06 n53 n56 n63 kV
    obtain ⟨i0, hi0⟩ : ∃ z, z = parD p j := ⟨_, rfl⟩
    obtain ⟨⟨-, -, -, -, -, z5, z6, z7⟩, zl⟩ := box8 hC1.out.box
    have zp : w1.cell? ⟨qp, j, none⟩ = some (.int .i64 i0) := by rw [hi0]; exact (hC1.out.par.cell hj).1
    replace z7 : w1.cell? ⟨g, 7, none⟩ = some (.slice (some ⟨qp, 0, none⟩) p.js.length p.js.length) := z7
    by_cases hpar : i0 = -1
    · have hFin := hide (show finP (d + 1) p j = doneP p j from by unfold finP; rw [if_pos (by rw [← hi0]; exact hpar)])
      subst hpar
      replace hi0 := hide hi0
      clear z5 z6
      go_wp2_with fail
      refine bodyPost_ret (v := .tuple #[]) (by simp [results, Try.results126, go_sem]; done) rfl ?_
      exact ⟨rfl, by rw [hFin.out]; exact hC1.out, hO1.out⟩
    · obtain ⟨i, hi1, hij, -, hi, -, -, hlf1, hlf2⟩ := hI.out.waits (by rw [← hi0]; exact hpar)
      have hup := hI.out.up hi1 hsz.out
      have hii : i0 = i := by rw [hi0, hi1]
      have hpb : (i0 == -1) = false := by simpa using hpar
      have hFin := hide (show finP (d + 1) p j = if geti (paidP (doneP p j) j i).lf i = 0 then finP d (paidP (doneP p j) j i) i else paidP (doneP p j) j i from by
        rw [finP, if_neg (by rw [← hi0]; exact hpar), hi1, Int.toNat_natCast])
      replace hi0 := hide hi0
      rw [hii] at zp hpb
      replace hup := hide hup
      have hpn : ¬ ((i : Int) = -1) := by omega
      clear hpar hii
      have k5 : i < (doneP p j).sm.length := by show i < p.sm.length; have := hI.out.lsm; omega
      have k4 : i < (doneP p j).lf.length := by show i < p.lf.length; have := hI.out.llf; omega
      have i5 : (i : Int) < p.sm.length := by have : i < p.sm.length := k5; omega
      have i4 : (i : Int) < p.lf.length := by have : i < p.lf.length := k4; omega
      have e6 : (doneP p j).vl.length = p.vl.length := by show (p.vl.set j _).length = _; rw [List.length_set]
      obtain ⟨b5', o5', c5', q5, f5, lb5, xs, zs⟩ := hC1.out.pool.sm.one k5
      have q5' := v5.out.symm.trans q5
      cases q5'
      obtain ⟨b6', o6', c6', q6, f6, lb6, xw, zw⟩ := hC1.out.pool.vl.one (k := j) (by rw [e6]; exact l6)
      have q6' := v6.out.symm.trans q6
      rw [e6] at q6'
      cases q6'
      have fg := hC1.out.fg
      have ng5 : g ≠ b5 := fun e => by rw [← e] at f5; omega
      have n65 : b6 ≠ b5 := fun e => by rw [← e] at f5; omega
      have z5 : w1.cell? ⟨g, 5, none⟩ = some (.slice (some ⟨b5, o5, none⟩) p.sm.length c5) := by rw [← v5.out]; exact z5
      have z6 : w1.cell? ⟨g, 6, none⟩ = some (.slice (some ⟨b6, o6, none⟩) p.vl.length c6) := by rw [← v6.out]; exact z6
      have zv : w1.cell? ⟨b6, o6 + j, none⟩ = some (.int .i64 val) := by
        rw [hworth.out]
        have : geti (doneP p j).vl j = worth (getj p.js j).v (geti p.sm j) := getz_at l6
        have h1 := xw
        unfold gI at h1
        rw [this] at h1
        exact h1
      obtain ⟨si, hsi⟩ : ∃ z, z = geti p.sm i := ⟨_, rfl⟩
      have zi : w1.cell? ⟨b5, o5 + i, none⟩ = some (.int .i64 si) := by rw [hsi]; exact xs
      have s1 := hC1.out.set_sm k5 q5 (IntKind.i64.wrap (si + val))
      have hC2 := s1.1.drew
      have hO2 := hO1.out.trans ((OwnC.of_lab s1.2 (by omega)).trans (Chg.of_below (Below.refl _ _).drew))
      obtain ⟨w2, hw2⟩ : ∃ w2, w2 = (w1.setCell ⟨b5, o5 + i, none⟩ (.int .i64 (IntKind.i64.wrap (si + val)))).drew := ⟨_, rfl⟩
      rw [← hw2] at hC2 hO2
      replace hC2 := hide hC2
      replace hO2 := hide hO2
      clear s1 xs xw zw f5 f6 fg
      replace q5 := hide q5
      replace q6 := hide q6
      replace hsi := hide hsi
      go_upto_region 3 with fail
      refine wp_region_held_drew (S := (fun w' => w'.cell? ⟨g, 5, none⟩ = some (.slice (some ⟨b5, o5, none⟩) p.sm.length c5) ∧ w'.cell? ⟨g, 6, none⟩ = some (.slice (some ⟨b6, o6, none⟩) p.vl.length c6) ∧ w'.cell? ⟨b6, o6 + j, none⟩ = some (.int .i64 val))) (by kernel_rfl) ?_ (fun hHeld => ?_)
      · exact ⟨z5, z6, zv⟩
      refine wpAnyH_take (i := 0) (oi := { dst := some 45, op := Op.move (.tmp 0), type := 90, pos := "l09_jobs.go:263", after := #[], guard := none }) (v := ?_) rfl (by kernel_rfl) (by kernel_rfl) (by kernel_rfl) (fun _ _ _ h => h) (Or.inl ⟨by rfl, ?_⟩) hHeld ?_
      rotate_left
      · (intro wq hSw; (try dsimp only at hSw); first | (go_simp; done) | (go_simp; with_reducible rfl))
      try simp only [Act.put, qa, qb, qc]
      refine wpAnyH_take (i := 1) (oi := { dst := some 46, op := Op.nilCheck (.tmp 45), type := 0, pos := "l09_jobs.go:263", after := #[⟨0, .data⟩], guard := none }) (v := ?_) rfl (by kernel_rfl) (by kernel_rfl) (by kernel_rfl) (fun _ _ _ h => h) (Or.inl ⟨by rfl, ?_⟩) hHeld ?_
      rotate_left
      · (intro wq hSw; (try dsimp only at hSw); first | (go_simp; done) | (go_simp; with_reducible rfl))
      try simp only [Act.put, qa, qb, qc]
      refine wpAnyH_take (i := 2) (oi := { dst := some 47, op := Op.fieldAddr 98 (.tmp 46) 0, type := 0, pos := "l09_jobs.go:263", after := #[⟨1, .data⟩], guard := none }) (v := ?_) rfl (by kernel_rfl) (by kernel_rfl) (by kernel_rfl) (fun _ _ _ h => h) (Or.inl ⟨by rfl, ?_⟩) hHeld ?_
      rotate_left
      · (intro wq hSw; (try dsimp only at hSw); first | (go_simp; done) | (go_simp; with_reducible rfl))
      try simp only [Act.put, qa, qb, qc]
      refine wpAnyH_take (i := 3) (oi := { dst := some 48, op := Op.fieldAddr 28 (.tmp 47) 5, type := 0, pos := "l09_jobs.go:263", after := #[⟨2, .data⟩], guard := none }) (v := ?_) rfl (by kernel_rfl) (by kernel_rfl) (by kernel_rfl) (fun _ _ _ h => h) (Or.inl ⟨by rfl, ?_⟩) hHeld ?_
      rotate_left
      · (intro wq hSw; (try dsimp only at hSw); first | (go_simp; done) | (go_simp; with_reducible rfl))
      try simp only [Act.put, qa, qb, qc]
      refine wpAnyH_take (i := 4) (oi := { dst := some 49, op := Op.load 26 (.tmp 48), type := 26, pos := "l09_jobs.go:263", after := #[⟨3, .data⟩], guard := none }) (v := ?_) rfl (by kernel_rfl) (by kernel_rfl) (by kernel_rfl) (fun _ _ _ h => h) (Or.inl ⟨by rfl, ?_⟩) hHeld ?_
      rotate_left
      · (intro wq hSw; (try dsimp only at hSw); first | (go_simp; done) | (go_simp; with_reducible rfl))
      try simp only [Act.put, qa, qb, qc]
      refine wpAnyH_take (i := 5) (oi := { dst := some 50, op := Op.move (.tmp 4), type := 3, pos := "l09_jobs.go:263", after := #[], guard := none }) (v := ?_) rfl (by kernel_rfl) (by kernel_rfl) (by kernel_rfl) (fun _ _ _ h => h) (Or.inl ⟨by rfl, ?_⟩) hHeld ?_
      rotate_left
      · (intro wq hSw; (try dsimp only at hSw); first | (go_simp; done) | (go_simp; with_reducible rfl))
      try simp only [Act.put, qa, qb, qc]
      refine wpAnyH_take (i := 6) (oi := { dst := some 51, op := Op.indexAddr 26 (.tmp 49) (.tmp 50), type := 0, pos := "l09_jobs.go:263", after := #[⟨4, .data⟩, ⟨5, .data⟩], guard := none }) (v := ?_) rfl (by kernel_rfl) (by kernel_rfl) (by kernel_rfl) (fun _ _ _ h => h) (Or.inl ⟨by rfl, ?_⟩) hHeld ?_
      rotate_left
      · (intro wq hSw; (try dsimp only at hSw); first | (go_simp; done) | (go_simp; with_reducible rfl))
      try simp only [Act.put, qa, qb, qc]
      refine wpAnyH_take (i := 8) (oi := { dst := some 53, op := Op.move (.tmp 0), type := 90, pos := "l09_jobs.go:263", after := #[], guard := none }) (v := ?_) rfl (by kernel_rfl) (by kernel_rfl) (by kernel_rfl) (fun _ _ _ h => h) (Or.inl ⟨by rfl, ?_⟩) hHeld ?_
      rotate_left
      · (intro wq hSw; (try dsimp only at hSw); first | (go_simp; done) | (go_simp; with_reducible rfl))
      try simp only [Act.put, qa, qb, qc]
      refine wpAnyH_take (i := 9) (oi := { dst := some 54, op := Op.nilCheck (.tmp 53), type := 0, pos := "l09_jobs.go:263", after := #[⟨8, .data⟩], guard := none }) (v := ?_) rfl (by kernel_rfl) (by kernel_rfl) (by kernel_rfl) (fun _ _ _ h => h) (Or.inl ⟨by rfl, ?_⟩) hHeld ?_
      rotate_left
      · (intro wq hSw; (try dsimp only at hSw); first | (go_simp; done) | (go_simp; with_reducible rfl))
      try simp only [Act.put, qa, qb, qc]
      refine wpAnyH_take (i := 10) (oi := { dst := some 55, op := Op.fieldAddr 98 (.tmp 54) 0, type := 0, pos := "l09_jobs.go:263", after := #[⟨9, .data⟩], guard := none }) (v := ?_) rfl (by kernel_rfl) (by kernel_rfl) (by kernel_rfl) (fun _ _ _ h => h) (Or.inl ⟨by rfl, ?_⟩) hHeld ?_
      rotate_left
      · (intro wq hSw; (try dsimp only at hSw); first | (go_simp; done) | (go_simp; with_reducible rfl))
      try simp only [Act.put, qa, qb, qc]
      refine wpAnyH_take (i := 11) (oi := { dst := some 56, op := Op.fieldAddr 28 (.tmp 55) 6, type := 0, pos := "l09_jobs.go:263", after := #[⟨10, .data⟩], guard := none }) (v := ?_) rfl (by kernel_rfl) (by kernel_rfl) (by kernel_rfl) (fun _ _ _ h => h) (Or.inl ⟨by rfl, ?_⟩) hHeld ?_
      rotate_left
      · (intro wq hSw; (try dsimp only at hSw); first | (go_simp; done) | (go_simp; with_reducible rfl))
      try simp only [Act.put, qa, qb, qc]
      refine wpAnyH_take (i := 12) (oi := { dst := some 57, op := Op.load 26 (.tmp 56), type := 26, pos := "l09_jobs.go:263", after := #[⟨11, .data⟩], guard := none }) (v := ?_) rfl (by kernel_rfl) (by kernel_rfl) (by kernel_rfl) (fun _ _ _ h => h) (Or.inl ⟨by rfl, ?_⟩) hHeld ?_
      rotate_left
      · (intro wq hSw; (try dsimp only at hSw); first | (go_simp; done) | (go_simp; with_reducible rfl))
      try simp only [Act.put, qa, qb, qc]
      refine wpAnyH_take (i := 13) (oi := { dst := some 58, op := Op.move (.tmp 1), type := 3, pos := "l09_jobs.go:263", after := #[], guard := none }) (v := ?_) rfl (by kernel_rfl) (by kernel_rfl) (by kernel_rfl) (fun _ _ _ h => h) (Or.inl ⟨by rfl, ?_⟩) hHeld ?_
      rotate_left
      · (intro wq hSw; (try dsimp only at hSw); first | (go_simp; done) | (go_simp; with_reducible rfl))
      try simp only [Act.put, qa, qb, qc]
      refine wpAnyH_take (i := 14) (oi := { dst := some 59, op := Op.indexAddr 26 (.tmp 57) (.tmp 58), type := 0, pos := "l09_jobs.go:263", after := #[⟨12, .data⟩, ⟨13, .data⟩], guard := none }) (v := ?_) rfl (by kernel_rfl) (by kernel_rfl) (by kernel_rfl) (fun _ _ _ h => h) (Or.inl ⟨by rfl, ?_⟩) hHeld ?_
      rotate_left
      · (intro wq hSw; (try dsimp only at hSw); first | (go_simp; done) | (go_simp; with_reducible rfl))
      try simp only [Act.put, qa, qb, qc]
      refine wpAnyH_take (i := 15) (oi := { dst := some 60, op := Op.load 3 (.tmp 59), type := 3, pos := "l09_jobs.go:263", after := #[⟨14, .data⟩], guard := none }) (v := ?_) rfl (by kernel_rfl) (by kernel_rfl) (by kernel_rfl) (fun _ _ _ h => h) (Or.inl ⟨by rfl, ?_⟩) hHeld ?_
      rotate_left
      · (intro wq hSw; (try dsimp only at hSw); first | (go_simp; done) | (go_simp; with_reducible rfl))
      try simp only [Act.put, qa, qb, qc]
      refine wpAnyH_ready (rs := [7]) (by kernel_rfl) (by simp) ?_
      refine AllReadyH.cons (o := { dst := some 52, op := Op.load 3 (.tmp 51), type := 3, pos := "l09_jobs.go:263", after := #[⟨6, .data⟩], guard := none }) rfl (fun K hK => ?_) AllReadyH.nil
      go_simp
      skip
      refine hK.out _ _ ?_ (fun hHeldN => ?_)
      · exact hHeld
      clear hK K hHeld
      have hHeld := hHeldN
      clear hHeldN
      try simp only [Act.put, qa, qb, qc]
      refine wpAnyH_take (i := 16) (oi := { dst := some 61, op := Op.binOp BinOp.add 3 (.tmp 52) (.tmp 60) 3, type := 3, pos := "l09_jobs.go:263", after := #[⟨7, .data⟩, ⟨15, .data⟩], guard := none }) (v := ?_) rfl (by kernel_rfl) (by kernel_rfl) (by kernel_rfl) (fun _ _ _ h => h) (Or.inl ⟨by rfl, ?_⟩) hHeld ?_
      rotate_left
      · (intro wq hSw; (try dsimp only at hSw); first | (go_simp; done) | (go_simp; with_reducible rfl))
      try simp only [Act.put, qa, qb, qc]
      refine wpAnyH_take (i := 17) (oi := { dst := some 62, op := Op.indexAddr 26 (.tmp 49) (.tmp 50), type := 0, pos := "l09_jobs.go:263", after := #[⟨4, .data⟩, ⟨5, .data⟩, ⟨0, .phase⟩, ⟨1, .phase⟩, ⟨2, .phase⟩, ⟨3, .phase⟩, ⟨4, .phase⟩, ⟨5, .phase⟩, ⟨6, .phase⟩, ⟨7, .phase⟩, ⟨8, .phase⟩, ⟨9, .phase⟩, ⟨10, .phase⟩, ⟨11, .phase⟩, ⟨12, .phase⟩, ⟨13, .phase⟩, ⟨14, .phase⟩, ⟨15, .phase⟩, ⟨16, .phase⟩], guard := none }) (v := ?_) rfl (by kernel_rfl) (by kernel_rfl) (by kernel_rfl) (fun _ _ _ h => h) (Or.inl ⟨by rfl, ?_⟩) hHeld ?_
      rotate_left
      · (intro wq hSw; (try dsimp only at hSw); first | (go_simp; done) | (go_simp; with_reducible rfl))
      try simp only [Act.put, qa, qb, qc]
      refine wpAnyH_ready (rs := [18]) (by kernel_rfl) (by simp) ?_
      refine AllReadyH.cons (o := { dst := none, op := Op.store 3 (.tmp 62) (.tmp 61), type := 0, pos := "l09_jobs.go:263", after := #[⟨17, .data⟩, ⟨16, .data⟩, ⟨0, .phase⟩, ⟨1, .phase⟩, ⟨2, .phase⟩, ⟨3, .phase⟩, ⟨4, .phase⟩, ⟨5, .phase⟩, ⟨6, .phase⟩, ⟨7, .phase⟩, ⟨8, .phase⟩, ⟨9, .phase⟩, ⟨10, .phase⟩, ⟨11, .phase⟩, ⟨12, .phase⟩, ⟨13, .phase⟩, ⟨14, .phase⟩, ⟨15, .phase⟩, ⟨16, .phase⟩], guard := none }) rfl (fun K hK => ?_) AllReadyH.nil
      go_simp
      skip
      refine hK.out _ _ ?_ (fun hHeldN => ?_)
      · exact ⟨cell_far hHeld.1 ng5, cell_far hHeld.2.1 ng5, cell_far hHeld.2.2 n65⟩
      clear hK K hHeld
      have hHeld := hHeldN
      clear hHeldN
      try simp only [Act.put, qa, qb, qc]
      refine wpAnyH_done (by kernel_rfl) ?_ _
      clear hHeld
      go_upto_region 4 with fail
      rw [← hw2]
      clear hw2 z5 z6 z7 zp zi zs zv ng5 n65
      obtain ⟨⟨-, -, -, -, y4, -, -, -⟩, yl⟩ := box8 hC2.out.box
      obtain ⟨b4, o4, c4, q4, f4, lb4, xL, zL⟩ := hC2.out.pool.lf.one k4
      rw [q4] at y4
      replace y4 : w2.cell? ⟨g, 4, none⟩ = some (.slice (some ⟨b4, o4, none⟩) p.lf.length c4) := y4
      have fg := hC2.out.fg
      have ng4 : g ≠ b4 := fun e => by rw [← e] at f4; omega
      obtain ⟨li, hli⟩ : ∃ z, z = geti p.lf i := ⟨_, rfl⟩
      replace xL : w2.cell? ⟨b4, o4 + i, none⟩ = some (.int .i64 li) := by rw [hli]; exact xL
      have s2 := hC2.out.set_lf (j := i) k4 q4 (wrap64 (li - 1))
      have hC3 := s2.1
      have hO3 := hO2.out.trans (OwnC.of_lab s2.2 (by omega))
      have hpaid : paidP (doneP p j) j i = { doneP p j with sm := (doneP p j).sm.set i (IntKind.i64.wrap (si + val)), lf := (doneP p j).lf.set i (wrap64 (li - 1)) } := by
        have e1 : geti (doneP p j).vl j = val := by rw [hworth.out]; exact getz_at l6
        have e2 : geti (doneP p j).sm i = si := by rw [hsi.out]; rfl
        have e3 : geti (doneP p j).lf i = li := by rw [hli]; rfl
        unfold paidP
        rw [e1, e2, e3, w64]
      have hwr : wrap64 (li - 1) = li - 1 := by unfold wrap64; have := hsz.out i; omega
      have hnl : geti (paidP (doneP p j) j i).lf i = li - 1 := by rw [hpaid]; exact (getz_at k4).trans hwr
      obtain ⟨w3, hw3⟩ : ∃ w3, w3 = w2.setCell ⟨b4, o4 + i, none⟩ (.int .i64 (wrap64 (li - 1))) := ⟨_, rfl⟩
      rw [← hw3] at hC3 hO3
      have hC3 : CrewO w3 f B g qp x (paidP (doneP p j) j i) := by rw [hpaid]; exact hC3
      have z4 : w3.cell? ⟨g, 4, none⟩ = some (.slice (some ⟨b4, o4, none⟩) p.lf.length c4) := by rw [hw3]; exact cell_far y4 ng4
      have zl4 : w3.cell? ⟨b4, o4 + i, none⟩ = some (.int .i64 (li - 1)) := by rw [hw3, World.cell?_setCell_same (h := xL), hwr]
      replace hC3 := hide hC3
      replace hO3 := hide hO3
      replace hpaid := hide hpaid
      replace hli := hide hli
      replace hnl := hide hnl
      replace hwr := hide hwr
      replace q4 := hide q4
      clear s2 f4 fg
      go_upto_region 5 with fail
      rw [← hw3]
      clear hw3 y4 xL zL ng4 lb4
      obtain ⟨ln, hln⟩ : ∃ z, z = li - 1 := ⟨_, rfl⟩
      rw [← hln] at zl4 hnl
      replace hln := hide hln
      have hle := hC3.out.box.lt
      by_cases hz : ln = 0
      · have kF := hide (ih.out (paidP (doneP p j) j i) i w3 (by omega) (by
          have h1 := hup.out
          rw [hnl.out, if_pos hz] at h1
          exact hide h1) hsz hC3)
        have hF2 := hide (show finP (d + 1) p j = finP d (paidP (doneP p j) j i) i from by rw [hFin.out, hnl.out, if_pos hz])
        subst hz
        go_wp2_with (go_at_call 126; refine kF.out.mono ?_; rintro e w4 ⟨rfl, hC4, hO4⟩)
        go_end0
        exact ⟨rfl, by rw [hF2.out]; exact hC4, hO3.out.trans hO4⟩
      · have hF2 := hide (show finP (d + 1) p j = paidP (doneP p j) j i from by rw [hFin.out, hnl.out, if_neg hz])
        have hzb : (ln == 0) = false := by simpa using hz
        go_wp2_with fail
        go_end0
        exact ⟨rfl, by rw [hF2.out]; exact hC3.out, hO3.out⟩
end Go.Proofs.Ytfnphnjadknoaaa
