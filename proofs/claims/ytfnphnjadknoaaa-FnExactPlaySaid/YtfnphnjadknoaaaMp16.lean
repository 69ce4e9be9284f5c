/- The program's reached, standsOk, lengthsOk. -/
import Derived.Test.YtfnphnjadknoaaaMp0
import Derived.Test.YtfnphnjadknoaaaMp15
import Derived.Deep.Cut
namespace Go.Proofs.Ytfnphnjadknoaaa
open Go.RowKit

set_option maxRecDepth 100000 in
set_option maxHeartbeats 3200000 in
theorem reached_any (S : Nat → Prop) (g qp : Nat) (a : PA) (p : PoolD) (w : World) (hT : Hid (Tree p.js)) (hlen : Hid (LenP p)) (j : Nat) (hj : j < p.js.length) (h : CrewR w S g qp a p) :
    Calls Try.prog 120 #[.pointer (some ⟨g, 0, none⟩), .int .i64 j] w fun e w' => e = .returned (.bool (reachB p j)) ∧ Below w.heap.size w w' := by
  have hB := hide (show Below w.heap.size w w.drew from (Below.refl _ _).drew)
  have h30 := hT.out.top
  by_cases hj0 : j = 0
  · have hE := hide (show reachB p j = true from by unfold reachB; rw [decide_eq_true hj0, Bool.true_or])
    subst hj0
    clear h
    go_enter Try.func120, Try.ntmps120
    go_upto_region 1 with fail
    refine wp_region_held_drew (S := (fun _ => True)) (by kernel_rfl) ?_ (fun hHeld => ?_)
    · exact trivial
    refine wpAnyH_take (i := 0) (oi := { dst := some 5, op := Op.move (.tmp 1), type := 3, pos := "l09_jobs.go:151", after := #[], guard := none }) (v := ?_) rfl (by kernel_rfl) (by kernel_rfl) (by kernel_rfl) (fun _ _ _ h => h) (Or.inl ⟨by rfl, ?_⟩) hHeld ?_
    rotate_left
    · (intro wq hSw; (try dsimp only at hSw); first | (go_simp; done) | (go_simp; with_reducible rfl))
    try simp only [Act.put, qa, qb, qc]
    refine wpAnyH_take (i := 1) (oi := { dst := some 6, op := Op.binOp BinOp.eql 3 (.tmp 5) (.const (Value.int IntKind.i64 0)) 3, type := 4, pos := "l09_jobs.go:151", after := #[⟨0, .data⟩], guard := none }) (v := ?_) rfl (by kernel_rfl) (by kernel_rfl) (by kernel_rfl) (fun _ _ _ h => h) (Or.inl ⟨by rfl, ?_⟩) hHeld ?_
    rotate_left
    · (intro wq hSw; (try dsimp only at hSw); first | (go_simp; done) | (go_simp; with_reducible rfl))
    try simp only [Act.put, qa, qb, qc]
    refine wpAnyH_take (i := 2) (oi := { dst := some 7, op := Op.move (.tmp 6), type := 4, pos := "l09_jobs.go:151", after := #[⟨1, .data⟩], guard := none }) (v := ?_) rfl (by kernel_rfl) (by kernel_rfl) (by kernel_rfl) (fun _ _ _ h => h) (Or.inl ⟨by rfl, ?_⟩) hHeld ?_
    rotate_left
    · (intro wq hSw; (try dsimp only at hSw); first | (go_simp; done) | (go_simp; with_reducible rfl))
    try simp only [Act.put, qa, qb, qc]
    refine wpAnyH_take (i := 3) (oi := { dst := some 8, op := Op.move (.tmp 0), type := 90, pos := "l09_jobs.go:151", after := #[⟨2, .guard⟩], guard := some (2, false) }) (v := undef) rfl (by kernel_rfl) (by kernel_rfl) (by kernel_rfl) (fun _ _ _ h => h) (Or.inr ⟨by rfl, rfl⟩) hHeld ?_
    try simp only [Act.put, qa, qb, qc]
    refine wpAnyH_take (i := 4) (oi := { dst := some 9, op := Op.nilCheck (.tmp 8), type := 0, pos := "l09_jobs.go:151", after := #[⟨3, .data⟩, ⟨2, .guard⟩], guard := some (2, false) }) (v := undef) rfl (by kernel_rfl) (by kernel_rfl) (by kernel_rfl) (fun _ _ _ h => h) (Or.inr ⟨by rfl, rfl⟩) hHeld ?_
    try simp only [Act.put, qa, qb, qc]
    refine wpAnyH_take (i := 5) (oi := { dst := some 10, op := Op.fieldAddr 98 (.tmp 9) 0, type := 0, pos := "l09_jobs.go:151", after := #[⟨4, .data⟩, ⟨2, .guard⟩], guard := some (2, false) }) (v := undef) rfl (by kernel_rfl) (by kernel_rfl) (by kernel_rfl) (fun _ _ _ h => h) (Or.inr ⟨by rfl, rfl⟩) hHeld ?_
    try simp only [Act.put, qa, qb, qc]
    refine wpAnyH_take (i := 6) (oi := { dst := some 11, op := Op.fieldAddr 28 (.tmp 10) 2, type := 0, pos := "l09_jobs.go:151", after := #[⟨5, .data⟩, ⟨2, .guard⟩], guard := some (2, false) }) (v := undef) rfl (by kernel_rfl) (by kernel_rfl) (by kernel_rfl) (fun _ _ _ h => h) (Or.inr ⟨by rfl, rfl⟩) hHeld ?_
    try simp only [Act.put, qa, qb, qc]
    refine wpAnyH_take (i := 7) (oi := { dst := some 12, op := Op.load 25 (.tmp 11), type := 25, pos := "l09_jobs.go:151", after := #[⟨6, .data⟩, ⟨2, .guard⟩], guard := some (2, false) }) (v := undef) rfl (by kernel_rfl) (by kernel_rfl) (by kernel_rfl) (fun _ _ _ h => h) (Or.inr ⟨by rfl, rfl⟩) hHeld ?_
    try simp only [Act.put, qa, qb, qc]
    refine wpAnyH_take (i := 8) (oi := { dst := some 13, op := Op.move (.tmp 0), type := 90, pos := "l09_jobs.go:151", after := #[⟨2, .guard⟩], guard := some (2, false) }) (v := undef) rfl (by kernel_rfl) (by kernel_rfl) (by kernel_rfl) (fun _ _ _ h => h) (Or.inr ⟨by rfl, rfl⟩) hHeld ?_
    try simp only [Act.put, qa, qb, qc]
    refine wpAnyH_take (i := 9) (oi := { dst := some 14, op := Op.nilCheck (.tmp 13), type := 0, pos := "l09_jobs.go:151", after := #[⟨8, .data⟩, ⟨2, .guard⟩], guard := some (2, false) }) (v := undef) rfl (by kernel_rfl) (by kernel_rfl) (by kernel_rfl) (fun _ _ _ h => h) (Or.inr ⟨by rfl, rfl⟩) hHeld ?_
    try simp only [Act.put, qa, qb, qc]
    refine wpAnyH_take (i := 10) (oi := { dst := some 15, op := Op.fieldAddr 98 (.tmp 14) 1, type := 0, pos := "l09_jobs.go:151", after := #[⟨9, .data⟩, ⟨2, .guard⟩], guard := some (2, false) }) (v := undef) rfl (by kernel_rfl) (by kernel_rfl) (by kernel_rfl) (fun _ _ _ h => h) (Or.inr ⟨by rfl, rfl⟩) hHeld ?_
    try simp only [Act.put, qa, qb, qc]
    refine wpAnyH_take (i := 11) (oi := { dst := some 16, op := Op.load 26 (.tmp 15), type := 26, pos := "l09_jobs.go:151", after := #[⟨10, .data⟩, ⟨2, .guard⟩], guard := some (2, false) }) (v := undef) rfl (by kernel_rfl) (by kernel_rfl) (by kernel_rfl) (fun _ _ _ h => h) (Or.inr ⟨by rfl, rfl⟩) hHeld ?_
    try simp only [Act.put, qa, qb, qc]
    refine wpAnyH_take (i := 12) (oi := { dst := some 17, op := Op.move (.tmp 1), type := 3, pos := "l09_jobs.go:151", after := #[⟨2, .guard⟩], guard := some (2, false) }) (v := undef) rfl (by kernel_rfl) (by kernel_rfl) (by kernel_rfl) (fun _ _ _ h => h) (Or.inr ⟨by rfl, rfl⟩) hHeld ?_
    try simp only [Act.put, qa, qb, qc]
    refine wpAnyH_take (i := 13) (oi := { dst := some 18, op := Op.indexAddr 26 (.tmp 16) (.tmp 17), type := 0, pos := "l09_jobs.go:151", after := #[⟨11, .data⟩, ⟨12, .data⟩, ⟨2, .guard⟩], guard := some (2, false) }) (v := undef) rfl (by kernel_rfl) (by kernel_rfl) (by kernel_rfl) (fun _ _ _ h => h) (Or.inr ⟨by rfl, rfl⟩) hHeld ?_
    try simp only [Act.put, qa, qb, qc]
    refine wpAnyH_take (i := 14) (oi := { dst := some 19, op := Op.load 3 (.tmp 18), type := 3, pos := "l09_jobs.go:151", after := #[⟨13, .data⟩, ⟨2, .guard⟩], guard := some (2, false) }) (v := undef) rfl (by kernel_rfl) (by kernel_rfl) (by kernel_rfl) (fun _ _ _ h => h) (Or.inr ⟨by rfl, rfl⟩) hHeld ?_
    try simp only [Act.put, qa, qb, qc]
    refine wpAnyH_take (i := 15) (oi := { dst := some 20, op := Op.indexAddr 25 (.tmp 12) (.tmp 19), type := 0, pos := "l09_jobs.go:151", after := #[⟨7, .data⟩, ⟨14, .data⟩, ⟨2, .guard⟩], guard := some (2, false) }) (v := undef) rfl (by kernel_rfl) (by kernel_rfl) (by kernel_rfl) (fun _ _ _ h => h) (Or.inr ⟨by rfl, rfl⟩) hHeld ?_
    try simp only [Act.put, qa, qb, qc]
    refine wpAnyH_take (i := 16) (oi := { dst := some 21, op := Op.load 4 (.tmp 20), type := 4, pos := "l09_jobs.go:151", after := #[⟨15, .data⟩, ⟨2, .guard⟩], guard := some (2, false) }) (v := undef) rfl (by kernel_rfl) (by kernel_rfl) (by kernel_rfl) (fun _ _ _ h => h) (Or.inr ⟨by rfl, rfl⟩) hHeld ?_
    try simp only [Act.put, qa, qb, qc]
    refine wpAnyH_take (i := 17) (oi := { dst := some 22, op := Op.pick (.tmp 7) (.const (Value.bool true)) (.tmp 21), type := 4, pos := "l09_jobs.go:151", after := #[⟨2, .data⟩, ⟨16, .data⟩], guard := none }) (v := ?_) rfl (by kernel_rfl) (by kernel_rfl) (by kernel_rfl) (fun _ _ _ h => h) (Or.inl ⟨by rfl, ?_⟩) hHeld ?_
    rotate_left
    · (intro wq hSw; (try dsimp only at hSw); first | (go_simp; done) | (go_simp; with_reducible rfl))
    try simp only [Act.put, qa, qb, qc]
    refine wpAnyH_take (i := 18) (oi := { dst := some 4, op := Op.assign (.tmp 22), type := 4, pos := "l09_jobs.go:151", after := #[⟨17, .data⟩, ⟨2, .chain⟩, ⟨0, .phase⟩, ⟨1, .phase⟩, ⟨2, .phase⟩, ⟨3, .phase⟩, ⟨4, .phase⟩, ⟨5, .phase⟩, ⟨6, .phase⟩, ⟨7, .phase⟩, ⟨8, .phase⟩, ⟨9, .phase⟩, ⟨10, .phase⟩, ⟨11, .phase⟩, ⟨12, .phase⟩, ⟨13, .phase⟩, ⟨14, .phase⟩, ⟨15, .phase⟩, ⟨16, .phase⟩, ⟨17, .phase⟩], guard := none }) (v := ?_) rfl (by kernel_rfl) (by kernel_rfl) (by kernel_rfl) (fun _ _ _ h => h) (Or.inl ⟨by rfl, ?_⟩) hHeld ?_
    rotate_left
    · (intro wq hSw; (try dsimp only at hSw); first | (go_simp; done) | (go_simp; with_reducible rfl))
    try simp only [Act.put, qa, qb, qc]
    refine wpAnyH_done (by kernel_rfl) ?_ _
    clear hHeld
    go_wp2_with fail
    go_ret
    exact ⟨ret_bool hE.out.symm, hB.out⟩
  · obtain ⟨i, hi1, hi2, -⟩ := hT.out.parent (j := j) (by omega) hj
    have hE := hide (show reachB p j = getb p.ran i from by unfold reachB; rw [decide_eq_false hj0, Bool.false_or, show parD p j = (i : Int) from hi1, Int.toNat_natCast])
    obtain ⟨⟨-, -, x2, -, -, -, -, x7⟩, xl⟩ := box8 h.box
    obtain ⟨b2, o2, eA, -, xr⟩ := h.pool.ran.at_ (k := i) (by rw [hlen.out.ran]; omega)
    rw [eA] at x2
    obtain ⟨xp, -⟩ := h.par.cell hj
    rw [hi1] at xp
    have hi3 : i < p.ran.length := by rw [hlen.out.ran]; omega
    have hi4 : (i : Int) < p.ran.length := by omega
    have hj3 : (j : Int) < p.js.length := by omega
    have hj4 : ¬ ((j : Int) = 0) := by omega
    have hj5 : ((j : Int) == 0) = false := by simpa using hj4
    obtain ⟨r, hr⟩ : ∃ r, r = getb p.ran i := ⟨_, rfl⟩
    rw [← hr] at xr hE
    clear hi1 h eA hr
    go_enter Try.func120, Try.ntmps120
    go_upto_region 1 with fail
    refine wp_region_held_drew (S := (fun w' => w'.cell? ⟨g, 2, none⟩ = some (.slice (some ⟨b2, o2, none⟩) p.ran.length a.c2) ∧ w'.cell? ⟨g, 7, none⟩ = some (.slice (some ⟨qp, 0, none⟩) p.js.length p.js.length) ∧ w'.cell? ⟨qp, j, none⟩ = some (.int .i64 (i : Int)) ∧ w'.cell? ⟨b2, o2 + i, none⟩ = some (.bool r))) (by kernel_rfl) ?_ (fun hHeld => ?_)
    · exact ⟨x2, x7, xp, xr⟩
    refine wpAnyH_take (i := 0) (oi := { dst := some 5, op := Op.move (.tmp 1), type := 3, pos := "l09_jobs.go:151", after := #[], guard := none }) (v := ?_) rfl (by kernel_rfl) (by kernel_rfl) (by kernel_rfl) (fun _ _ _ h => h) (Or.inl ⟨by rfl, ?_⟩) hHeld ?_
    rotate_left
    · (intro wq hSw; (try dsimp only at hSw); first | (go_simp; done) | (go_simp; with_reducible rfl))
    try simp only [Act.put, qa, qb, qc]
    refine wpAnyH_take (i := 1) (oi := { dst := some 6, op := Op.binOp BinOp.eql 3 (.tmp 5) (.const (Value.int IntKind.i64 0)) 3, type := 4, pos := "l09_jobs.go:151", after := #[⟨0, .data⟩], guard := none }) (v := ?_) rfl (by kernel_rfl) (by kernel_rfl) (by kernel_rfl) (fun _ _ _ h => h) (Or.inl ⟨by rfl, ?_⟩) hHeld ?_
    rotate_left
    · (intro wq hSw; (try dsimp only at hSw); first | (go_simp; done) | (go_simp; with_reducible rfl))
    try simp only [Act.put, qa, qb, qc]
    refine wpAnyH_take (i := 2) (oi := { dst := some 7, op := Op.move (.tmp 6), type := 4, pos := "l09_jobs.go:151", after := #[⟨1, .data⟩], guard := none }) (v := ?_) rfl (by kernel_rfl) (by kernel_rfl) (by kernel_rfl) (fun _ _ _ h => h) (Or.inl ⟨by rfl, ?_⟩) hHeld ?_
    rotate_left
    · (intro wq hSw; (try dsimp only at hSw); first | (go_simp; done) | (go_simp; with_reducible rfl))
    try simp only [Act.put, qa, qb, qc]
    refine wpAnyH_take (i := 3) (oi := { dst := some 8, op := Op.move (.tmp 0), type := 90, pos := "l09_jobs.go:151", after := #[⟨2, .guard⟩], guard := some (2, false) }) (v := ?_) rfl (by kernel_rfl) (by kernel_rfl) (by kernel_rfl) (fun _ _ _ h => h) (Or.inl ⟨by rfl, ?_⟩) hHeld ?_
    rotate_left
    · (intro wq hSw; (try dsimp only at hSw); first | (go_simp; done) | (go_simp; with_reducible rfl))
    try simp only [Act.put, qa, qb, qc]
    refine wpAnyH_take (i := 4) (oi := { dst := some 9, op := Op.nilCheck (.tmp 8), type := 0, pos := "l09_jobs.go:151", after := #[⟨3, .data⟩, ⟨2, .guard⟩], guard := some (2, false) }) (v := ?_) rfl (by kernel_rfl) (by kernel_rfl) (by kernel_rfl) (fun _ _ _ h => h) (Or.inl ⟨by rfl, ?_⟩) hHeld ?_
    rotate_left
    · (intro wq hSw; (try dsimp only at hSw); first | (go_simp; done) | (go_simp; with_reducible rfl))
    try simp only [Act.put, qa, qb, qc]
    refine wpAnyH_take (i := 5) (oi := { dst := some 10, op := Op.fieldAddr 98 (.tmp 9) 0, type := 0, pos := "l09_jobs.go:151", after := #[⟨4, .data⟩, ⟨2, .guard⟩], guard := some (2, false) }) (v := ?_) rfl (by kernel_rfl) (by kernel_rfl) (by kernel_rfl) (fun _ _ _ h => h) (Or.inl ⟨by rfl, ?_⟩) hHeld ?_
    rotate_left
    · (intro wq hSw; (try dsimp only at hSw); first | (go_simp; done) | (go_simp; with_reducible rfl))
    try simp only [Act.put, qa, qb, qc]
    refine wpAnyH_take (i := 6) (oi := { dst := some 11, op := Op.fieldAddr 28 (.tmp 10) 2, type := 0, pos := "l09_jobs.go:151", after := #[⟨5, .data⟩, ⟨2, .guard⟩], guard := some (2, false) }) (v := ?_) rfl (by kernel_rfl) (by kernel_rfl) (by kernel_rfl) (fun _ _ _ h => h) (Or.inl ⟨by rfl, ?_⟩) hHeld ?_
    rotate_left
    · (intro wq hSw; (try dsimp only at hSw); first | (go_simp; done) | (go_simp; with_reducible rfl))
    try simp only [Act.put, qa, qb, qc]
    refine wpAnyH_take (i := 7) (oi := { dst := some 12, op := Op.load 25 (.tmp 11), type := 25, pos := "l09_jobs.go:151", after := #[⟨6, .data⟩, ⟨2, .guard⟩], guard := some (2, false) }) (v := ?_) rfl (by kernel_rfl) (by kernel_rfl) (by kernel_rfl) (fun _ _ _ h => h) (Or.inl ⟨by rfl, ?_⟩) hHeld ?_
    rotate_left
    · (intro wq hSw; (try dsimp only at hSw); first | (go_simp; done) | (go_simp; with_reducible rfl))
    try simp only [Act.put, qa, qb, qc]
    refine wpAnyH_take (i := 8) (oi := { dst := some 13, op := Op.move (.tmp 0), type := 90, pos := "l09_jobs.go:151", after := #[⟨2, .guard⟩], guard := some (2, false) }) (v := ?_) rfl (by kernel_rfl) (by kernel_rfl) (by kernel_rfl) (fun _ _ _ h => h) (Or.inl ⟨by rfl, ?_⟩) hHeld ?_
    rotate_left
    · (intro wq hSw; (try dsimp only at hSw); first | (go_simp; done) | (go_simp; with_reducible rfl))
    try simp only [Act.put, qa, qb, qc]
    refine wpAnyH_take (i := 9) (oi := { dst := some 14, op := Op.nilCheck (.tmp 13), type := 0, pos := "l09_jobs.go:151", after := #[⟨8, .data⟩, ⟨2, .guard⟩], guard := some (2, false) }) (v := ?_) rfl (by kernel_rfl) (by kernel_rfl) (by kernel_rfl) (fun _ _ _ h => h) (Or.inl ⟨by rfl, ?_⟩) hHeld ?_
    rotate_left
    · (intro wq hSw; (try dsimp only at hSw); first | (go_simp; done) | (go_simp; with_reducible rfl))
    try simp only [Act.put, qa, qb, qc]
    refine wpAnyH_take (i := 10) (oi := { dst := some 15, op := Op.fieldAddr 98 (.tmp 14) 1, type := 0, pos := "l09_jobs.go:151", after := #[⟨9, .data⟩, ⟨2, .guard⟩], guard := some (2, false) }) (v := ?_) rfl (by kernel_rfl) (by kernel_rfl) (by kernel_rfl) (fun _ _ _ h => h) (Or.inl ⟨by rfl, ?_⟩) hHeld ?_
    rotate_left
    · (intro wq hSw; (try dsimp only at hSw); first | (go_simp; done) | (go_simp; with_reducible rfl))
    try simp only [Act.put, qa, qb, qc]
    refine wpAnyH_take (i := 11) (oi := { dst := some 16, op := Op.load 26 (.tmp 15), type := 26, pos := "l09_jobs.go:151", after := #[⟨10, .data⟩, ⟨2, .guard⟩], guard := some (2, false) }) (v := ?_) rfl (by kernel_rfl) (by kernel_rfl) (by kernel_rfl) (fun _ _ _ h => h) (Or.inl ⟨by rfl, ?_⟩) hHeld ?_
    rotate_left
    · (intro wq hSw; (try dsimp only at hSw); first | (go_simp; done) | (go_simp; with_reducible rfl))
    try simp only [Act.put, qa, qb, qc]
    refine wpAnyH_take (i := 12) (oi := { dst := some 17, op := Op.move (.tmp 1), type := 3, pos := "l09_jobs.go:151", after := #[⟨2, .guard⟩], guard := some (2, false) }) (v := ?_) rfl (by kernel_rfl) (by kernel_rfl) (by kernel_rfl) (fun _ _ _ h => h) (Or.inl ⟨by rfl, ?_⟩) hHeld ?_
    rotate_left
    · (intro wq hSw; (try dsimp only at hSw); first | (go_simp; done) | (go_simp; with_reducible rfl))
    try simp only [Act.put, qa, qb, qc]
    refine wpAnyH_take (i := 13) (oi := { dst := some 18, op := Op.indexAddr 26 (.tmp 16) (.tmp 17), type := 0, pos := "l09_jobs.go:151", after := #[⟨11, .data⟩, ⟨12, .data⟩, ⟨2, .guard⟩], guard := some (2, false) }) (v := ?_) rfl (by kernel_rfl) (by kernel_rfl) (by kernel_rfl) (fun _ _ _ h => h) (Or.inl ⟨by rfl, ?_⟩) hHeld ?_
    rotate_left
    · (intro wq hSw; (try dsimp only at hSw); first | (go_simp; done) | (go_simp; with_reducible rfl))
    try simp only [Act.put, qa, qb, qc]
    refine wpAnyH_take (i := 14) (oi := { dst := some 19, op := Op.load 3 (.tmp 18), type := 3, pos := "l09_jobs.go:151", after := #[⟨13, .data⟩, ⟨2, .guard⟩], guard := some (2, false) }) (v := ?_) rfl (by kernel_rfl) (by kernel_rfl) (by kernel_rfl) (fun _ _ _ h => h) (Or.inl ⟨by rfl, ?_⟩) hHeld ?_
    rotate_left
    · (intro wq hSw; (try dsimp only at hSw); first | (go_simp; done) | (go_simp; with_reducible rfl))
    try simp only [Act.put, qa, qb, qc]
    refine wpAnyH_take (i := 15) (oi := { dst := some 20, op := Op.indexAddr 25 (.tmp 12) (.tmp 19), type := 0, pos := "l09_jobs.go:151", after := #[⟨7, .data⟩, ⟨14, .data⟩, ⟨2, .guard⟩], guard := some (2, false) }) (v := ?_) rfl (by kernel_rfl) (by kernel_rfl) (by kernel_rfl) (fun _ _ _ h => h) (Or.inl ⟨by rfl, ?_⟩) hHeld ?_
    rotate_left
    · (intro wq hSw; (try dsimp only at hSw); first | (go_simp; done) | (go_simp; with_reducible rfl))
    try simp only [Act.put, qa, qb, qc]
    refine wpAnyH_take (i := 16) (oi := { dst := some 21, op := Op.load 4 (.tmp 20), type := 4, pos := "l09_jobs.go:151", after := #[⟨15, .data⟩, ⟨2, .guard⟩], guard := some (2, false) }) (v := ?_) rfl (by kernel_rfl) (by kernel_rfl) (by kernel_rfl) (fun _ _ _ h => h) (Or.inl ⟨by rfl, ?_⟩) hHeld ?_
    rotate_left
    · (intro wq hSw; (try dsimp only at hSw); first | (go_simp; done) | (go_simp; with_reducible rfl))
    try simp only [Act.put, qa, qb, qc]
    refine wpAnyH_take (i := 17) (oi := { dst := some 22, op := Op.pick (.tmp 7) (.const (Value.bool true)) (.tmp 21), type := 4, pos := "l09_jobs.go:151", after := #[⟨2, .data⟩, ⟨16, .data⟩], guard := none }) (v := ?_) rfl (by kernel_rfl) (by kernel_rfl) (by kernel_rfl) (fun _ _ _ h => h) (Or.inl ⟨by rfl, ?_⟩) hHeld ?_
    rotate_left
    · (intro wq hSw; (try dsimp only at hSw); first | (go_simp; done) | (go_simp; with_reducible rfl))
    try simp only [Act.put, qa, qb, qc]
    refine wpAnyH_take (i := 18) (oi := { dst := some 4, op := Op.assign (.tmp 22), type := 4, pos := "l09_jobs.go:151", after := #[⟨17, .data⟩, ⟨2, .chain⟩, ⟨0, .phase⟩, ⟨1, .phase⟩, ⟨2, .phase⟩, ⟨3, .phase⟩, ⟨4, .phase⟩, ⟨5, .phase⟩, ⟨6, .phase⟩, ⟨7, .phase⟩, ⟨8, .phase⟩, ⟨9, .phase⟩, ⟨10, .phase⟩, ⟨11, .phase⟩, ⟨12, .phase⟩, ⟨13, .phase⟩, ⟨14, .phase⟩, ⟨15, .phase⟩, ⟨16, .phase⟩, ⟨17, .phase⟩], guard := none }) (v := ?_) rfl (by kernel_rfl) (by kernel_rfl) (by kernel_rfl) (fun _ _ _ h => h) (Or.inl ⟨by rfl, ?_⟩) hHeld ?_
    rotate_left
    · (intro wq hSw; (try dsimp only at hSw); first | (go_simp; done) | (go_simp; with_reducible rfl))
    try simp only [Act.put, qa, qb, qc]
    refine wpAnyH_done (by kernel_rfl) ?_ _
    clear hHeld
    go_wp2_with fail
    go_ret
    exact ⟨ret_bool hE.out.symm, hB.out⟩

theorem beqN (n m : Nat) : ((n : Int) == (m : Int)) = decide (n = m) := by
  by_cases h : n = m
  · subst h; simp
  · rw [decide_eq_false h]; simp; omega
def standB (r q : Bool) (n : Nat) : Bool := if r then q && decide (n = 0) else decide (n = if q then 1 else 0)
set_option maxRecDepth 100000 in
set_option maxHeartbeats 3200000 in
theorem standsOk_any (S : Nat → Prop) (g qp : Nat) (a : PA) (p : PoolD) (w : World) (hT : Hid (Tree p.js)) (hlen : Hid (LenP p)) (j n : Nat) (_hn : n ≤ 1048576) (hj : j < p.js.length) (h : CrewR w S g qp a p) :
    Calls Try.prog 101 #[.pointer (some ⟨g, 0, none⟩), .int .i64 j, .int .i64 n] w fun e w' => e = .returned (.bool (standB (getb p.ran j) (reachB p j) n)) ∧ Below w.heap.size w w' := by
  have kR := hide (reached_any S g qp a p w hT hlen j hj h)
  have h30 := hT.out.top
  obtain ⟨⟨-, -, x2, -, -, -, -, -⟩, xl⟩ := box8 h.box
  obtain ⟨b2, o2, eA, -, xr⟩ := h.pool.ran.at_ (k := j) (by rw [hlen.out.ran]; omega)
  rw [eA] at x2
  have hj3 : (j : Int) < p.ran.length := by have := hlen.out.ran; omega
  clear eA h
  obtain ⟨r, hr⟩ : ∃ r, r = getb p.ran j := ⟨_, rfl⟩
  obtain ⟨q, hq⟩ : ∃ q, q = reachB p j := ⟨_, rfl⟩
  rw [← hr] at xr
  rw [← hq] at kR
  rw [← hr, ← hq]
  clear hr hq
  have kO := hide (fun w => oneIf_any q w)
  cases r
  · cases q
    · have hE := hide (show standB false false n = decide (n = 0) from by unfold standB; simp)
      go_enter Try.func101, Try.ntmps101
      go_wp2_with (first | (go_at_call 120; refine kR.out.mono ?_; rintro e w1 ⟨rfl, hb⟩) | (go_at_call 121; refine (kO.out _).mono ?_; rintro e w2 ⟨rfl, rfl⟩))
      go_ret
      exact ⟨ret_bool (by rw [hE.out]; exact beqN n 0), hb⟩
    · have hE := hide (show standB false true n = decide (n = 1) from by unfold standB; simp)
      go_enter Try.func101, Try.ntmps101
      go_wp2_with (first | (go_at_call 120; refine kR.out.mono ?_; rintro e w1 ⟨rfl, hb⟩) | (go_at_call 121; refine (kO.out _).mono ?_; rintro e w2 ⟨rfl, rfl⟩))
      go_ret
      exact ⟨ret_bool (by rw [hE.out]; exact beqN n 1), hb⟩
  · cases q
    · have hE := hide (show standB true false n = false from by unfold standB; simp)
      go_enter Try.func101, Try.ntmps101
      go_wp2_with (go_at_call 120; refine kR.out.mono ?_; rintro e w1 ⟨rfl, hb⟩)
      go_ret
      exact ⟨ret_bool hE.out.symm, hb⟩
    · have hE := hide (show standB true true n = decide (n = 0) from by unfold standB; simp)
      go_enter Try.func101, Try.ntmps101
      go_wp2_with (go_at_call 120; refine kR.out.mono ?_; rintro e w1 ⟨rfl, hb⟩)
      go_ret
      exact ⟨ret_bool (by rw [hE.out]; exact beqN n 0), hb⟩
end Go.Proofs.Ytfnphnjadknoaaa
