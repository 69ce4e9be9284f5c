/- Sums over a job's kids, kid by kid. -/
import Derived.Test.YtfnphnjadknoaaaMp0
import Derived.Test.YtfnphnjadknoaaaMp4
import Derived.Test.YtfnphnjadknoaaaMp16
namespace Go.Proofs.Ytfnphnjadknoaaa
open Go.RowKit

theorem cell_far {w : World} {q o : Nat} {v : Value} {p : Addr} {u : Value} (h : w.cell? ⟨q, o, none⟩ = some v) (hne : q ≠ p.block) : (w.setCell p u).cell? ⟨q, o, none⟩ = some v :=
  (World.cell?_setCell_other w p ⟨q, o, none⟩ u (by intro e; apply hne; first | exact (congrArg Addr.block e) | exact (congrArg Addr.block e).symm)).trans h
def accV (d : Bool) (l s v : Int) : Value := .agg #[.bool d, .int .i64 l, .int .i64 s, .int .i64 v]

set_option maxRecDepth 100000 in
set_option maxHeartbeats 6400000 in
theorem accountOf_any (S : Nat → Prop) (g qp : Nat) (a : PA) (p : PoolD) (w : World) (hlen : Hid (LenP p)) (j : Nat) (hj : j < p.js.length) (h : CrewR w S g qp a p) :
    Calls Try.prog 102 #[.pointer (some ⟨g, 0, none⟩), .int .i64 j] w fun e w' => e = .returned (accV (getb p.dn j) (geti p.lf j) (geti p.sm j) (geti p.vl j)) ∧ Below w.heap.size w w' := by
  unfold accV
  have nG : g ≠ w.heap.size := by have := h.box.lt; omega
  have hb1 := below1 w (Obj.cells #[.bool false, .int .i64 0, .int .i64 0, .int .i64 0] 129)
  have R0 := Blk.new w 129 #[.bool false, .int .i64 0, .int .i64 0, .int .i64 0]
  have h0 := h.next hb1
  obtain ⟨w0, hw0⟩ : ∃ w0, w0 = w.alloc (Obj.cells #[.bool false, .int .i64 0, .int .i64 0, .int .i64 0] 129) := ⟨_, rfl⟩
  rw [← hw0] at hb1 R0 h0
  obtain ⟨r0, r1, r2, r3⟩ := (show w0.cell? ⟨w.heap.size, 0, none⟩ = some (.bool false) ∧ w0.cell? ⟨w.heap.size, 1, none⟩ = some (.int .i64 0) ∧ w0.cell? ⟨w.heap.size, 2, none⟩ = some (.int .i64 0) ∧ w0.cell? ⟨w.heap.size, 3, none⟩ = some (.int .i64 0) from ⟨R0.cell 0, R0.cell 1, R0.cell 2, R0.cell 3⟩)
  obtain ⟨s0, s1, s2, s3⟩ := (show w0.frozen? ⟨w.heap.size, 0, none⟩ = false ∧ w0.frozen? ⟨w.heap.size, 1, none⟩ = false ∧ w0.frozen? ⟨w.heap.size, 2, none⟩ = false ∧ w0.frozen? ⟨w.heap.size, 3, none⟩ = false from ⟨R0.frozen 0, R0.frozen 1, R0.frozen 2, R0.frozen 3⟩)
  have rl := R0.lt
  obtain ⟨e2, e3, e4, e5, e6⟩ := hlen.out
  obtain ⟨⟨-, -, -, x3, x4, x5, x6, -⟩, xl⟩ := box8 h0.box
  obtain ⟨b3, o3, eA3, l3, xd⟩ := h0.pool.dn.at_ (k := j) (by omega)
  obtain ⟨b4, o4, eA4, l4, xL⟩ := h0.pool.lf.at_ (k := j) (by omega)
  obtain ⟨b5, o5, eA5, l5, xM⟩ := h0.pool.sm.at_ (k := j) (by omega)
  obtain ⟨b6, o6, eA6, l6, xV⟩ := h0.pool.vl.at_ (k := j) (by omega)
  rw [eA3] at x3
  rw [eA4] at x4
  rw [eA5] at x5
  rw [eA6] at x6
  have n3 : b3 ≠ w.heap.size := by have := h.lt b3 l3; omega
  have n4 : b4 ≠ w.heap.size := by have := h.lt b4 l4; omega
  have n5 : b5 ≠ w.heap.size := by have := h.lt b5 l5; omega
  have n6 : b6 ≠ w.heap.size := by have := h.lt b6 l6; omega
  have m3 : j < p.dn.length := by omega
  have m4 : j < p.lf.length := by omega
  have m5 : j < p.sm.length := by omega
  have m6 : j < p.vl.length := by omega
  obtain ⟨d, hd⟩ : ∃ d, d = getb p.dn j := ⟨_, rfl⟩
  obtain ⟨zL, hzL⟩ : ∃ z, z = geti p.lf j := ⟨_, rfl⟩
  obtain ⟨zM, hzM⟩ : ∃ z, z = geti p.sm j := ⟨_, rfl⟩
  obtain ⟨zV, hzV⟩ : ∃ z, z = geti p.vl j := ⟨_, rfl⟩
  rw [← hd] at xd
  rw [← hzL] at xL
  rw [← hzM] at xM
  rw [← hzV] at xV
  rw [← hd, ← hzL, ← hzM, ← hzV]
  replace hb1 := hide hb1
  clear hd hzL hzM hzV h h0 R0 eA3 eA4 eA5 eA6 e2 e3 e4 e5 e6 l3 l4 l5 l6
  go_enter Try.func102, Try.ntmps102
  go_upto_region 1 with fail
  rw [← hw0]
  clear hw0
  refine wp_region_held_drew (S := (fun w' => w'.cell? ⟨g, 3, none⟩ = some (.slice (some ⟨b3, o3, none⟩) p.dn.length a.c3) ∧ w'.cell? ⟨g, 4, none⟩ = some (.slice (some ⟨b4, o4, none⟩) p.lf.length a.c4) ∧ w'.cell? ⟨g, 5, none⟩ = some (.slice (some ⟨b5, o5, none⟩) p.sm.length a.c5) ∧ w'.cell? ⟨g, 6, none⟩ = some (.slice (some ⟨b6, o6, none⟩) p.vl.length a.c6) ∧ w'.cell? ⟨b3, o3 + j, none⟩ = some (.bool d) ∧ w'.cell? ⟨b4, o4 + j, none⟩ = some (.int .i64 zL) ∧ w'.cell? ⟨b5, o5 + j, none⟩ = some (.int .i64 zM) ∧ w'.cell? ⟨b6, o6 + j, none⟩ = some (.int .i64 zV))) (by kernel_rfl) ?_ (fun hHeld => ?_)
  · exact ⟨x3, x4, x5, x6, xd, xL, xM, xV⟩
  refine wpAnyH_take (i := 0) (oi := { dst := some 5, op := Op.move (.tmp 0), type := 90, pos := "l09_jobs.go:170", after := #[], guard := none }) (v := ?_) rfl (by kernel_rfl) (by kernel_rfl) (by kernel_rfl) (fun _ _ _ h => h) (Or.inl ⟨by rfl, ?_⟩) hHeld ?_
  rotate_left
  · (intro wq hSw; (try dsimp only at hSw); first | (go_simp; done) | (go_simp; with_reducible rfl))
  try simp only [Act.put, qa, qb, qc]
  refine wpAnyH_take (i := 1) (oi := { dst := some 6, op := Op.nilCheck (.tmp 5), type := 0, pos := "l09_jobs.go:170", after := #[⟨0, .data⟩], guard := none }) (v := ?_) rfl (by kernel_rfl) (by kernel_rfl) (by kernel_rfl) (fun _ _ _ h => h) (Or.inl ⟨by rfl, ?_⟩) hHeld ?_
  rotate_left
  · (intro wq hSw; (try dsimp only at hSw); first | (go_simp; done) | (go_simp; with_reducible rfl))
  try simp only [Act.put, qa, qb, qc]
  refine wpAnyH_take (i := 2) (oi := { dst := some 7, op := Op.fieldAddr 98 (.tmp 6) 0, type := 0, pos := "l09_jobs.go:170", after := #[⟨1, .data⟩], guard := none }) (v := ?_) rfl (by kernel_rfl) (by kernel_rfl) (by kernel_rfl) (fun _ _ _ h => h) (Or.inl ⟨by rfl, ?_⟩) hHeld ?_
  rotate_left
  · (intro wq hSw; (try dsimp only at hSw); first | (go_simp; done) | (go_simp; with_reducible rfl))
  try simp only [Act.put, qa, qb, qc]
  refine wpAnyH_take (i := 3) (oi := { dst := some 8, op := Op.fieldAddr 28 (.tmp 7) 3, type := 0, pos := "l09_jobs.go:170", after := #[⟨2, .data⟩], guard := none }) (v := ?_) rfl (by kernel_rfl) (by kernel_rfl) (by kernel_rfl) (fun _ _ _ h => h) (Or.inl ⟨by rfl, ?_⟩) hHeld ?_
  rotate_left
  · (intro wq hSw; (try dsimp only at hSw); first | (go_simp; done) | (go_simp; with_reducible rfl))
  try simp only [Act.put, qa, qb, qc]
  refine wpAnyH_take (i := 4) (oi := { dst := some 9, op := Op.load 25 (.tmp 8), type := 25, pos := "l09_jobs.go:170", after := #[⟨3, .data⟩], guard := none }) (v := ?_) rfl (by kernel_rfl) (by kernel_rfl) (by kernel_rfl) (fun _ _ _ h => h) (Or.inl ⟨by rfl, ?_⟩) hHeld ?_
  rotate_left
  · (intro wq hSw; (try dsimp only at hSw); first | (go_simp; done) | (go_simp; with_reducible rfl))
  try simp only [Act.put, qa, qb, qc]
  refine wpAnyH_take (i := 5) (oi := { dst := some 10, op := Op.move (.tmp 1), type := 3, pos := "l09_jobs.go:170", after := #[], guard := none }) (v := ?_) rfl (by kernel_rfl) (by kernel_rfl) (by kernel_rfl) (fun _ _ _ h => h) (Or.inl ⟨by rfl, ?_⟩) hHeld ?_
  rotate_left
  · (intro wq hSw; (try dsimp only at hSw); first | (go_simp; done) | (go_simp; with_reducible rfl))
  try simp only [Act.put, qa, qb, qc]
  refine wpAnyH_take (i := 6) (oi := { dst := some 11, op := Op.indexAddr 25 (.tmp 9) (.tmp 10), type := 0, pos := "l09_jobs.go:170", after := #[⟨4, .data⟩, ⟨5, .data⟩], guard := none }) (v := ?_) rfl (by kernel_rfl) (by kernel_rfl) (by kernel_rfl) (fun _ _ _ h => h) (Or.inl ⟨by rfl, ?_⟩) hHeld ?_
  rotate_left
  · (intro wq hSw; (try dsimp only at hSw); first | (go_simp; done) | (go_simp; with_reducible rfl))
  try simp only [Act.put, qa, qb, qc]
  refine wpAnyH_take (i := 7) (oi := { dst := some 12, op := Op.load 4 (.tmp 11), type := 4, pos := "l09_jobs.go:170", after := #[⟨6, .data⟩], guard := none }) (v := ?_) rfl (by kernel_rfl) (by kernel_rfl) (by kernel_rfl) (fun _ _ _ h => h) (Or.inl ⟨by rfl, ?_⟩) hHeld ?_
  rotate_left
  · (intro wq hSw; (try dsimp only at hSw); first | (go_simp; done) | (go_simp; with_reducible rfl))
  try simp only [Act.put, qa, qb, qc]
  refine wpAnyH_take (i := 8) (oi := { dst := some 13, op := Op.move (.tmp 0), type := 90, pos := "l09_jobs.go:170", after := #[], guard := none }) (v := ?_) rfl (by kernel_rfl) (by kernel_rfl) (by kernel_rfl) (fun _ _ _ h => h) (Or.inl ⟨by rfl, ?_⟩) hHeld ?_
  rotate_left
  · (intro wq hSw; (try dsimp only at hSw); first | (go_simp; done) | (go_simp; with_reducible rfl))
  try simp only [Act.put, qa, qb, qc]
  refine wpAnyH_take (i := 9) (oi := { dst := some 14, op := Op.nilCheck (.tmp 13), type := 0, pos := "l09_jobs.go:170", after := #[⟨8, .data⟩], guard := none }) (v := ?_) rfl (by kernel_rfl) (by kernel_rfl) (by kernel_rfl) (fun _ _ _ h => h) (Or.inl ⟨by rfl, ?_⟩) hHeld ?_
  rotate_left
  · (intro wq hSw; (try dsimp only at hSw); first | (go_simp; done) | (go_simp; with_reducible rfl))
  try simp only [Act.put, qa, qb, qc]
  refine wpAnyH_take (i := 10) (oi := { dst := some 15, op := Op.fieldAddr 98 (.tmp 14) 0, type := 0, pos := "l09_jobs.go:170", after := #[⟨9, .data⟩], guard := none }) (v := ?_) rfl (by kernel_rfl) (by kernel_rfl) (by kernel_rfl) (fun _ _ _ h => h) (Or.inl ⟨by rfl, ?_⟩) hHeld ?_
  rotate_left
  · (intro wq hSw; (try dsimp only at hSw); first | (go_simp; done) | (go_simp; with_reducible rfl))
  try simp only [Act.put, qa, qb, qc]
  refine wpAnyH_take (i := 11) (oi := { dst := some 16, op := Op.fieldAddr 28 (.tmp 15) 4, type := 0, pos := "l09_jobs.go:170", after := #[⟨10, .data⟩], guard := none }) (v := ?_) rfl (by kernel_rfl) (by kernel_rfl) (by kernel_rfl) (fun _ _ _ h => h) (Or.inl ⟨by rfl, ?_⟩) hHeld ?_
  rotate_left
  · (intro wq hSw; (try dsimp only at hSw); first | (go_simp; done) | (go_simp; with_reducible rfl))
  try simp only [Act.put, qa, qb, qc]
  refine wpAnyH_take (i := 12) (oi := { dst := some 17, op := Op.load 26 (.tmp 16), type := 26, pos := "l09_jobs.go:170", after := #[⟨11, .data⟩], guard := none }) (v := ?_) rfl (by kernel_rfl) (by kernel_rfl) (by kernel_rfl) (fun _ _ _ h => h) (Or.inl ⟨by rfl, ?_⟩) hHeld ?_
  rotate_left
  · (intro wq hSw; (try dsimp only at hSw); first | (go_simp; done) | (go_simp; with_reducible rfl))
  try simp only [Act.put, qa, qb, qc]
  refine wpAnyH_take (i := 13) (oi := { dst := some 18, op := Op.move (.tmp 1), type := 3, pos := "l09_jobs.go:170", after := #[], guard := none }) (v := ?_) rfl (by kernel_rfl) (by kernel_rfl) (by kernel_rfl) (fun _ _ _ h => h) (Or.inl ⟨by rfl, ?_⟩) hHeld ?_
  rotate_left
  · (intro wq hSw; (try dsimp only at hSw); first | (go_simp; done) | (go_simp; with_reducible rfl))
  try simp only [Act.put, qa, qb, qc]
  refine wpAnyH_take (i := 14) (oi := { dst := some 19, op := Op.indexAddr 26 (.tmp 17) (.tmp 18), type := 0, pos := "l09_jobs.go:170", after := #[⟨12, .data⟩, ⟨13, .data⟩], guard := none }) (v := ?_) rfl (by kernel_rfl) (by kernel_rfl) (by kernel_rfl) (fun _ _ _ h => h) (Or.inl ⟨by rfl, ?_⟩) hHeld ?_
  rotate_left
  · (intro wq hSw; (try dsimp only at hSw); first | (go_simp; done) | (go_simp; with_reducible rfl))
  try simp only [Act.put, qa, qb, qc]
  refine wpAnyH_take (i := 15) (oi := { dst := some 20, op := Op.load 3 (.tmp 19), type := 3, pos := "l09_jobs.go:170", after := #[⟨14, .data⟩], guard := none }) (v := ?_) rfl (by kernel_rfl) (by kernel_rfl) (by kernel_rfl) (fun _ _ _ h => h) (Or.inl ⟨by rfl, ?_⟩) hHeld ?_
  rotate_left
  · (intro wq hSw; (try dsimp only at hSw); first | (go_simp; done) | (go_simp; with_reducible rfl))
  try simp only [Act.put, qa, qb, qc]
  refine wpAnyH_take (i := 16) (oi := { dst := some 21, op := Op.move (.tmp 0), type := 90, pos := "l09_jobs.go:170", after := #[], guard := none }) (v := ?_) rfl (by kernel_rfl) (by kernel_rfl) (by kernel_rfl) (fun _ _ _ h => h) (Or.inl ⟨by rfl, ?_⟩) hHeld ?_
  rotate_left
  · (intro wq hSw; (try dsimp only at hSw); first | (go_simp; done) | (go_simp; with_reducible rfl))
  try simp only [Act.put, qa, qb, qc]
  refine wpAnyH_take (i := 17) (oi := { dst := some 22, op := Op.nilCheck (.tmp 21), type := 0, pos := "l09_jobs.go:170", after := #[⟨16, .data⟩], guard := none }) (v := ?_) rfl (by kernel_rfl) (by kernel_rfl) (by kernel_rfl) (fun _ _ _ h => h) (Or.inl ⟨by rfl, ?_⟩) hHeld ?_
  rotate_left
  · (intro wq hSw; (try dsimp only at hSw); first | (go_simp; done) | (go_simp; with_reducible rfl))
  try simp only [Act.put, qa, qb, qc]
  refine wpAnyH_take (i := 18) (oi := { dst := some 23, op := Op.fieldAddr 98 (.tmp 22) 0, type := 0, pos := "l09_jobs.go:170", after := #[⟨17, .data⟩], guard := none }) (v := ?_) rfl (by kernel_rfl) (by kernel_rfl) (by kernel_rfl) (fun _ _ _ h => h) (Or.inl ⟨by rfl, ?_⟩) hHeld ?_
  rotate_left
  · (intro wq hSw; (try dsimp only at hSw); first | (go_simp; done) | (go_simp; with_reducible rfl))
  try simp only [Act.put, qa, qb, qc]
  refine wpAnyH_take (i := 19) (oi := { dst := some 24, op := Op.fieldAddr 28 (.tmp 23) 5, type := 0, pos := "l09_jobs.go:170", after := #[⟨18, .data⟩], guard := none }) (v := ?_) rfl (by kernel_rfl) (by kernel_rfl) (by kernel_rfl) (fun _ _ _ h => h) (Or.inl ⟨by rfl, ?_⟩) hHeld ?_
  rotate_left
  · (intro wq hSw; (try dsimp only at hSw); first | (go_simp; done) | (go_simp; with_reducible rfl))
  try simp only [Act.put, qa, qb, qc]
  refine wpAnyH_take (i := 20) (oi := { dst := some 25, op := Op.load 26 (.tmp 24), type := 26, pos := "l09_jobs.go:170", after := #[⟨19, .data⟩], guard := none }) (v := ?_) rfl (by kernel_rfl) (by kernel_rfl) (by kernel_rfl) (fun _ _ _ h => h) (Or.inl ⟨by rfl, ?_⟩) hHeld ?_
  rotate_left
  · (intro wq hSw; (try dsimp only at hSw); first | (go_simp; done) | (go_simp; with_reducible rfl))
  try simp only [Act.put, qa, qb, qc]
  refine wpAnyH_take (i := 21) (oi := { dst := some 26, op := Op.move (.tmp 1), type := 3, pos := "l09_jobs.go:170", after := #[], guard := none }) (v := ?_) rfl (by kernel_rfl) (by kernel_rfl) (by kernel_rfl) (fun _ _ _ h => h) (Or.inl ⟨by rfl, ?_⟩) hHeld ?_
  rotate_left
  · (intro wq hSw; (try dsimp only at hSw); first | (go_simp; done) | (go_simp; with_reducible rfl))
  try simp only [Act.put, qa, qb, qc]
  refine wpAnyH_take (i := 22) (oi := { dst := some 27, op := Op.indexAddr 26 (.tmp 25) (.tmp 26), type := 0, pos := "l09_jobs.go:170", after := #[⟨20, .data⟩, ⟨21, .data⟩], guard := none }) (v := ?_) rfl (by kernel_rfl) (by kernel_rfl) (by kernel_rfl) (fun _ _ _ h => h) (Or.inl ⟨by rfl, ?_⟩) hHeld ?_
  rotate_left
  · (intro wq hSw; (try dsimp only at hSw); first | (go_simp; done) | (go_simp; with_reducible rfl))
  try simp only [Act.put, qa, qb, qc]
  refine wpAnyH_take (i := 23) (oi := { dst := some 28, op := Op.load 3 (.tmp 27), type := 3, pos := "l09_jobs.go:170", after := #[⟨22, .data⟩], guard := none }) (v := ?_) rfl (by kernel_rfl) (by kernel_rfl) (by kernel_rfl) (fun _ _ _ h => h) (Or.inl ⟨by rfl, ?_⟩) hHeld ?_
  rotate_left
  · (intro wq hSw; (try dsimp only at hSw); first | (go_simp; done) | (go_simp; with_reducible rfl))
  try simp only [Act.put, qa, qb, qc]
  refine wpAnyH_take (i := 24) (oi := { dst := some 29, op := Op.move (.tmp 0), type := 90, pos := "l09_jobs.go:170", after := #[], guard := none }) (v := ?_) rfl (by kernel_rfl) (by kernel_rfl) (by kernel_rfl) (fun _ _ _ h => h) (Or.inl ⟨by rfl, ?_⟩) hHeld ?_
  rotate_left
  · (intro wq hSw; (try dsimp only at hSw); first | (go_simp; done) | (go_simp; with_reducible rfl))
  try simp only [Act.put, qa, qb, qc]
  refine wpAnyH_take (i := 25) (oi := { dst := some 30, op := Op.nilCheck (.tmp 29), type := 0, pos := "l09_jobs.go:170", after := #[⟨24, .data⟩], guard := none }) (v := ?_) rfl (by kernel_rfl) (by kernel_rfl) (by kernel_rfl) (fun _ _ _ h => h) (Or.inl ⟨by rfl, ?_⟩) hHeld ?_
  rotate_left
  · (intro wq hSw; (try dsimp only at hSw); first | (go_simp; done) | (go_simp; with_reducible rfl))
  try simp only [Act.put, qa, qb, qc]
  refine wpAnyH_take (i := 26) (oi := { dst := some 31, op := Op.fieldAddr 98 (.tmp 30) 0, type := 0, pos := "l09_jobs.go:170", after := #[⟨25, .data⟩], guard := none }) (v := ?_) rfl (by kernel_rfl) (by kernel_rfl) (by kernel_rfl) (fun _ _ _ h => h) (Or.inl ⟨by rfl, ?_⟩) hHeld ?_
  rotate_left
  · (intro wq hSw; (try dsimp only at hSw); first | (go_simp; done) | (go_simp; with_reducible rfl))
  try simp only [Act.put, qa, qb, qc]
  refine wpAnyH_take (i := 27) (oi := { dst := some 32, op := Op.fieldAddr 28 (.tmp 31) 6, type := 0, pos := "l09_jobs.go:170", after := #[⟨26, .data⟩], guard := none }) (v := ?_) rfl (by kernel_rfl) (by kernel_rfl) (by kernel_rfl) (fun _ _ _ h => h) (Or.inl ⟨by rfl, ?_⟩) hHeld ?_
  rotate_left
  · (intro wq hSw; (try dsimp only at hSw); first | (go_simp; done) | (go_simp; with_reducible rfl))
  try simp only [Act.put, qa, qb, qc]
  refine wpAnyH_take (i := 28) (oi := { dst := some 33, op := Op.load 26 (.tmp 32), type := 26, pos := "l09_jobs.go:170", after := #[⟨27, .data⟩], guard := none }) (v := ?_) rfl (by kernel_rfl) (by kernel_rfl) (by kernel_rfl) (fun _ _ _ h => h) (Or.inl ⟨by rfl, ?_⟩) hHeld ?_
  rotate_left
  · (intro wq hSw; (try dsimp only at hSw); first | (go_simp; done) | (go_simp; with_reducible rfl))
  try simp only [Act.put, qa, qb, qc]
  refine wpAnyH_take (i := 29) (oi := { dst := some 34, op := Op.move (.tmp 1), type := 3, pos := "l09_jobs.go:170", after := #[], guard := none }) (v := ?_) rfl (by kernel_rfl) (by kernel_rfl) (by kernel_rfl) (fun _ _ _ h => h) (Or.inl ⟨by rfl, ?_⟩) hHeld ?_
  rotate_left
  · (intro wq hSw; (try dsimp only at hSw); first | (go_simp; done) | (go_simp; with_reducible rfl))
  try simp only [Act.put, qa, qb, qc]
  refine wpAnyH_take (i := 30) (oi := { dst := some 35, op := Op.indexAddr 26 (.tmp 33) (.tmp 34), type := 0, pos := "l09_jobs.go:170", after := #[⟨28, .data⟩, ⟨29, .data⟩], guard := none }) (v := ?_) rfl (by kernel_rfl) (by kernel_rfl) (by kernel_rfl) (fun _ _ _ h => h) (Or.inl ⟨by rfl, ?_⟩) hHeld ?_
  rotate_left
  · (intro wq hSw; (try dsimp only at hSw); first | (go_simp; done) | (go_simp; with_reducible rfl))
  try simp only [Act.put, qa, qb, qc]
  refine wpAnyH_take (i := 31) (oi := { dst := some 36, op := Op.load 3 (.tmp 35), type := 3, pos := "l09_jobs.go:170", after := #[⟨30, .data⟩], guard := none }) (v := ?_) rfl (by kernel_rfl) (by kernel_rfl) (by kernel_rfl) (fun _ _ _ h => h) (Or.inl ⟨by rfl, ?_⟩) hHeld ?_
  rotate_left
  · (intro wq hSw; (try dsimp only at hSw); first | (go_simp; done) | (go_simp; with_reducible rfl))
  try simp only [Act.put, qa, qb, qc]
  refine wpAnyH_take (i := 32) (oi := { dst := some 37, op := Op.build 129 #[(0, .tmp 12), (1, .tmp 20), (2, .tmp 28), (3, .tmp 36)], type := 129, pos := "l09_jobs.go:170", after := #[⟨7, .data⟩, ⟨15, .data⟩, ⟨23, .data⟩, ⟨31, .data⟩], guard := none }) (v := ?_) rfl (by kernel_rfl) (by kernel_rfl) (by kernel_rfl) (fun _ _ _ h => h) (Or.inl ⟨by rfl, ?_⟩) hHeld ?_
  rotate_left
  · (intro wq hSw; (try dsimp only at hSw); first | (go_simp; done) | (go_simp; with_reducible rfl))
  try simp only [Act.put, qa, qb, qc]
  refine wpAnyH_ready (rs := [33]) (by kernel_rfl) (by simp) ?_
  refine AllReadyH.cons (o := { dst := none, op := Op.store 129 (.tmp 4) (.tmp 37), type := 0, pos := "l09_jobs.go:170", after := #[⟨32, .data⟩, ⟨0, .phase⟩, ⟨1, .phase⟩, ⟨2, .phase⟩, ⟨3, .phase⟩, ⟨4, .phase⟩, ⟨5, .phase⟩, ⟨6, .phase⟩, ⟨7, .phase⟩, ⟨8, .phase⟩, ⟨9, .phase⟩, ⟨10, .phase⟩, ⟨11, .phase⟩, ⟨12, .phase⟩, ⟨13, .phase⟩, ⟨14, .phase⟩, ⟨15, .phase⟩, ⟨16, .phase⟩, ⟨17, .phase⟩, ⟨18, .phase⟩, ⟨19, .phase⟩, ⟨20, .phase⟩, ⟨21, .phase⟩, ⟨22, .phase⟩, ⟨23, .phase⟩, ⟨24, .phase⟩, ⟨25, .phase⟩, ⟨26, .phase⟩, ⟨27, .phase⟩, ⟨28, .phase⟩, ⟨29, .phase⟩, ⟨30, .phase⟩, ⟨31, .phase⟩, ⟨32, .phase⟩], guard := none }) rfl (fun K hK => ?_) AllReadyH.nil
  go_simp
  skip
  refine hK.out _ _ ?_ (fun hHeldN => ?_)
  · exact ⟨(cell_far (cell_far (cell_far (cell_far hHeld.1 nG) nG) nG) nG), (cell_far (cell_far (cell_far (cell_far hHeld.2.1 nG) nG) nG) nG), (cell_far (cell_far (cell_far (cell_far hHeld.2.2.1 nG) nG) nG) nG), (cell_far (cell_far (cell_far (cell_far hHeld.2.2.2.1 nG) nG) nG) nG), (cell_far (cell_far (cell_far (cell_far hHeld.2.2.2.2.1 n3) n3) n3) n3), (cell_far (cell_far (cell_far (cell_far hHeld.2.2.2.2.2.1 n4) n4) n4) n4), (cell_far (cell_far (cell_far (cell_far hHeld.2.2.2.2.2.2.1 n5) n5) n5) n5), (cell_far (cell_far (cell_far (cell_far hHeld.2.2.2.2.2.2.2 n6) n6) n6) n6)⟩
  clear hK K hHeld
  have hHeld := hHeldN
  clear hHeldN
  try simp only [Act.put, qa, qb, qc]
  refine wpAnyH_done (by kernel_rfl) ?_ _
  clear hHeld
  go_wp2_with fail
  refine bodyPost_ret (v := .agg #[.bool d, .int .i64 zL, .int .i64 zM, .int .i64 zV]) (by simp [results, Try.results102, go_sem, r0, r1, r2, r3]; done) rfl ⟨rfl, ?_⟩
  exact (((hb1.out.drew.setCell (p := ⟨w.heap.size, 0, none⟩) (Nat.le_refl _) _).setCell (p := ⟨w.heap.size, 1, none⟩) (Nat.le_refl _) _).setCell (p := ⟨w.heap.size, 2, none⟩) (Nat.le_refl _) _).setCell (p := ⟨w.heap.size, 3, none⟩) (Nat.le_refl _) _
end Go.Proofs.Ytfnphnjadknoaaa

namespace Go.Proofs.Ytfnphnjadknoaaa
open Go.RowKit

theorem leftN_take {dn : List Bool} {ks : List Int} {k : Nat} (h : k < ks.length) : leftN dn (ks.take (k + 1)) = leftN dn (ks.take k) + if getb dn (geti ks k).toNat then 0 else 1 := by
  unfold leftN
  rw [List.take_succ_eq_append_getElem h, List.countP_append, geti_eq h]
  cases hb : getb dn (ks[k]).toNat <;> simp [hb]
theorem sumF_take {dn : List Bool} {vl ks : List Int} {k : Nat} (h : k < ks.length) : sumF dn vl (ks.take (k + 1)) = if getb dn (geti ks k).toNat then wrap64 (sumF dn vl (ks.take k) + geti vl (geti ks k).toNat) else sumF dn vl (ks.take k) := by
  unfold sumF
  rw [List.take_succ_eq_append_getElem h, List.foldl_append, geti_eq h]
  rfl
theorem leftN_le (dn : List Bool) (ks : List Int) : leftN dn ks ≤ ks.length := List.countP_le_length

end Go.Proofs.Ytfnphnjadknoaaa
