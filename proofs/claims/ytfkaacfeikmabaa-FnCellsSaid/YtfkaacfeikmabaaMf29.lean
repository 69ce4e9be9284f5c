/- impl.StateOk of any state of KdBuf. -/
import Derived.Test.YtfkaacfeikmabaaMf0
import Derived.Test.YtfkaacfeikmabaaMf28
namespace Go.Proofs.Ytfkaacfeikmabaa
open Go.RowKit

set_option maxRecDepth 100000 in
set_option maxHeartbeats 25600000 in
theorem stateOk_1 (p : ProgD) (s : StD) (A1 A2 : Option Addr) (c1 c2 n : Nat) (w : World) (hcc : p.init.length ≤ c1 ∧ p.ts.length ≤ c2) (hi : IntsAt w (Old n) A1 p.init) (ht : ThreadsAt w (Old n) A2 p.ts) (hs : StAt w n s) (hl : StLen s) (hB : progB p = true) (hk : s.kind = 1) :
    Calls Try.prog 35 #[.agg #[.slice A1 p.init.length c1, .slice A2 p.ts.length c2], .agg s.cells] w fun e w' => e = .returned (.bool (stateB p s)) ∧ Below w.heap.size w w' := by
  have hn : n ≤ w.heap.size := hs.sz
  have hS : ∀ b, Old n b → b < w.heap.size := hs.lts
  have hb0 := hide (below2 w (Obj.cells #[.slice A1 p.init.length c1, .slice A2 p.ts.length c2] 31) (Obj.cells s.cells 48))
  have G0 := hide ((Blk.new w 31 #[.slice A1 p.init.length c1, .slice A2 p.ts.length c2]).alloc (Obj.cells s.cells 48))
  have K0 := Blk.new (w.alloc (Obj.cells #[.slice A1 p.init.length c1, .slice A2 p.ts.length c2] 31)) 48 s.cells
  simp only [World.size_alloc] at K0
  replace K0 := hide K0
  have hok := hide (progOk_any (.agg #[.slice A1 p.init.length c1, .slice A2 p.ts.length c2]) p (Old n) _ (fun b h => Nat.lt_of_lt_of_le (hS b h) hb0.out.size) ⟨A1, c1, A2, c2, rfl, hcc, hi.below hb0.out hS, ht.below hb0.out hS⟩)
  replace hi := hide hi
  replace ht := hide ht
  replace hs := hide hs
  have hcs : s.cells = #[.int .i64 1, .slice s.pc.A s.pc.n s.pc.c, .slice s.F.A s.F.n s.F.c, .slice s.mem.A s.mem.n s.mem.c, .slice s.bufs.A s.bufs.n s.bufs.c, .slice s.H.A s.H.n s.H.c, .slice s.view.A s.view.n s.view.c, .slice s.sc.A s.sc.n s.sc.c, .int .i64 s.next] := by unfold StD.cells; rw [hk]
  have hE : stateB p s = (comB p.ts s.pc.zs s.F.rs && restB p s) := by unfold stateB; rw [hB]; rfl
  obtain ⟨res, hres⟩ : ∃ res, res = stateB p s := ⟨_, rfl⟩
  rw [← hres]
  rw [hE] at hres
  have hrest := hide (show restB p s = (decide (s.mem.n = p.init.length) && bufsB p.init.length p.ts.length s.bufs.rs && (decide (s.H.n = 0) && decide (s.view.n = 0) && decide (s.sc.n = 0) && decide (s.next = 0))) from by unfold restB; rw [hk]; rw [if_neg (by decide), if_pos rfl]; unfold noViewsB; rw [hl.H, hl.view])
  have nM := hide (fun w => noMem_any s w)
  have nB := hide (fun w => noBufs_any s w)
  have nV := hide (fun w => noViews_any s w)
  rw [hcs] at nM nB nV hok hb0 G0 K0 ⊢
  clear hcs hE hk
  replace hres := hide hres
  replace hl := hide hl
  go_enter Try.func35, Try.ntmps35
  go_wp2_with fail
  refine hok.out.mono ?_
  rintro e w1 ⟨rfl, hb1⟩
  rw [hB]
  have B1 := hide (below_then hb0.out hb1)
  have hs1 := hb1.size
  simp only [World.size_alloc] at hs1
  have G1 := hide (G0.out.below hb1 G0.out.lt)
  have K1 := hide (K0.out.below hb1 K0.out.lt)
  have hs2 := hide (hs.out.next ((B1.out).mono (Nat.le_refl _)))
  have ht2 := hide (ht.out.below B1.out hS)
  have g0 : w1.cell? ⟨w.heap.size, 0, none⟩ = some (.slice A1 p.init.length c1) := G1.out.cell 0
  have g1 : w1.cell? ⟨w.heap.size, 1, none⟩ = some (.slice A2 p.ts.length c2) := G1.out.cell 1
  have k0 : w1.cell? ⟨w.heap.size + 1, 0, none⟩ = some (.int .i64 1) := K1.out.cell 0
  have k1 : w1.cell? ⟨w.heap.size + 1, 1, none⟩ = some (.slice s.pc.A s.pc.n s.pc.c) := K1.out.cell 1
  have k2 : w1.cell? ⟨w.heap.size + 1, 2, none⟩ = some (.slice s.F.A s.F.n s.F.c) := K1.out.cell 2
  have k3 : w1.cell? ⟨w.heap.size + 1, 3, none⟩ = some (.slice s.mem.A s.mem.n s.mem.c) := K1.out.cell 3
  have k4 : w1.cell? ⟨w.heap.size + 1, 4, none⟩ = some (.slice s.bufs.A s.bufs.n s.bufs.c) := K1.out.cell 4
  have k5 : w1.cell? ⟨w.heap.size + 1, 5, none⟩ = some (.slice s.H.A s.H.n s.H.c) := K1.out.cell 5
  have k6 : w1.cell? ⟨w.heap.size + 1, 6, none⟩ = some (.slice s.view.A s.view.n s.view.c) := K1.out.cell 6
  have k7 : w1.cell? ⟨w.heap.size + 1, 7, none⟩ = some (.slice s.sc.A s.sc.n s.sc.c) := K1.out.cell 7
  have k8 : w1.cell? ⟨w.heap.size + 1, 8, none⟩ = some (.int .i64 s.next) := K1.out.cell 8
  clear hok hb1 hb0 G0 K0 hs ht hi
  go_wp2_with fail
  refine (kindOf_1 A1 A2 s.pc.A s.F.A s.mem.A s.bufs.A s.H.A s.view.A s.sc.A _ _ s.pc.n s.F.n s.mem.n s.bufs.n s.H.n s.view.n s.sc.n c1 c2 s.pc.c s.F.c s.mem.c s.bufs.c s.H.c s.view.c s.sc.c s.next w1).mono ?_
  rintro e w2 ⟨T, rfl, hKT, hT, hb2⟩
  have B2 := hide (below_then B1.out hb2)
  have hR := hide (show SoR (w.heap.size + 1) T n 141 #[.slice A1 p.init.length c1, .slice A2 p.ts.length c2, .slice s.pc.A s.pc.n s.pc.c, .slice s.F.A s.F.n s.F.c, .slice s.mem.A s.mem.n s.mem.c, .slice s.bufs.A s.bufs.n s.bufs.c] #[.int .i64 1, .slice s.pc.A s.pc.n s.pc.c, .slice s.F.A s.F.n s.F.c, .slice s.mem.A s.mem.n s.mem.c, .slice s.bufs.A s.bufs.n s.bufs.c, .slice s.H.A s.H.n s.H.c, .slice s.view.A s.view.n s.view.c, .slice s.sc.A s.sc.n s.sc.c, .int .i64 s.next] A2 p s w2 from ⟨K1.out.below hb2 K1.out.lt, hKT, hs2.out.next hb2, ht2.out.below hb2 (fun b h => Nat.lt_of_lt_of_le (hS b h) B1.out.size)⟩)
  have hTl := hKT.lt
  have hgl : w.heap.size + 1 < w2.heap.size := Nat.lt_of_lt_of_le K1.out.lt hb2.size
  have hTg : w.heap.size + 1 < T := Nat.lt_of_lt_of_le K1.out.lt hT
  clear G1 K1 hs2 ht2 B1 hb2 hKT hT g0 g1 k0 k1 k2 k3 k4 k5 k6 k7 k8 hs1
  have t0 : ∀ w, (Instr.typeAssert (Value.iface 139 (.pointer (some ⟨T, 0, none⟩))) 20 133 true).run Try.prog w = .ok (.tuple #[.pointer none, .bool false]) w := fun _ => by kernel_rfl
  have t1 : ∀ w, (Instr.typeAssert (Value.iface 139 (.pointer (some ⟨T, 0, none⟩))) 20 139 true).run Try.prog w = .ok (.tuple #[.pointer (some ⟨T, 0, none⟩), .bool true]) w := fun _ => by kernel_rfl
  go_wp2_with fail
  have R2 := hide (show SoR (w.heap.size + 1) T n _ _ _ A2 p s w2.drew from hR.out.next (Below.refl _ _).drew)
  replace B2 := hide B2.out.drew
  have kc := fun (wX : World) (h : SoR (w.heap.size + 1) T n 141 #[.slice A1 p.init.length c1, .slice A2 p.ts.length c2, .slice s.pc.A s.pc.n s.pc.c, .slice s.F.A s.F.n s.F.c, .slice s.mem.A s.mem.n s.mem.c, .slice s.bufs.A s.bufs.n s.bufs.c] #[.int .i64 1, .slice s.pc.A s.pc.n s.pc.c, .slice s.F.A s.F.n s.F.c, .slice s.mem.A s.mem.n s.mem.c, .slice s.bufs.A s.bufs.n s.bufs.c, .slice s.H.A s.H.n s.H.c, .slice s.view.A s.view.n s.view.c, .slice s.sc.A s.sc.n s.sc.c, .int .i64 s.next] A2 p s wX) => commonOk_any A1 A2 s.pc.A s.F.A p.init.length c1 c2 s.pc.c s.F.c p.ts s.pc.zs s.F.rs (Old n) wX h.st.lts h.thr h.st.pc h.st.F
  rw [hl.out.pc, hl.out.F] at kc
  replace kc := hide kc
  have kb := fun (wX : World) (h : SoR (w.heap.size + 1) T n 141 #[.slice A1 p.init.length c1, .slice A2 p.ts.length c2, .slice s.pc.A s.pc.n s.pc.c, .slice s.F.A s.F.n s.F.c, .slice s.mem.A s.mem.n s.mem.c, .slice s.bufs.A s.bufs.n s.bufs.c] #[.int .i64 1, .slice s.pc.A s.pc.n s.pc.c, .slice s.F.A s.F.n s.F.c, .slice s.mem.A s.mem.n s.mem.c, .slice s.bufs.A s.bufs.n s.bufs.c, .slice s.H.A s.H.n s.H.c, .slice s.view.A s.view.n s.view.c, .slice s.sc.A s.sc.n s.sc.c, .int .i64 s.next] A2 p s wX) => bufsOk_any A1 A2 s.pc.A s.F.A s.mem.A s.bufs.A p.init.length p.ts.length s.pc.n s.F.n s.mem.n c1 c2 s.pc.c s.F.c s.mem.c s.bufs.c s.bufs.rs (Old n) wX hl.out.eB h.st.lts h.st.bufs
  rw [hl.out.bufs] at kb
  replace kb := hide kb
  generalize comB p.ts s.pc.zs s.F.rs = cb at *
  generalize bufsB p.init.length p.ts.length s.bufs.rs = bb at *
  obtain ⟨vv, hvv⟩ : ∃ vv, vv = (decide (s.H.n = 0) && decide (s.view.n = 0) && decide (s.sc.n = 0) && decide (s.next = 0)) := ⟨_, rfl⟩
  rw [← hvv] at hrest nV
  clear hvv
  have hE := hide (show res = (cb && (decide (s.mem.n = p.init.length) && bb && vv)) from by rw [hres.out, hrest.out])
  clear hres hrest hl hR
  cases cb
  · refine wp_region_held_drew (S := (fun w' => (w'.cell? ⟨T, 0, none⟩ = some (.slice A1 p.init.length c1) ∧ w'.cell? ⟨T, 1, none⟩ = some (.slice A2 p.ts.length c2) ∧ w'.cell? ⟨T, 2, none⟩ = some (.slice s.pc.A s.pc.n s.pc.c) ∧ w'.cell? ⟨T, 3, none⟩ = some (.slice s.F.A s.F.n s.F.c) ∧ w'.cell? ⟨T, 4, none⟩ = some (.slice s.mem.A s.mem.n s.mem.c) ∧ w'.cell? ⟨T, 5, none⟩ = some (.slice s.bufs.A s.bufs.n s.bufs.c)) ∧ w'.cell? ⟨(w.heap.size + 1), 0, none⟩ = some (.int .i64 1) ∧ w'.cell? ⟨(w.heap.size + 1), 1, none⟩ = some (.slice s.pc.A s.pc.n s.pc.c) ∧ w'.cell? ⟨(w.heap.size + 1), 2, none⟩ = some (.slice s.F.A s.F.n s.F.c) ∧ w'.cell? ⟨(w.heap.size + 1), 3, none⟩ = some (.slice s.mem.A s.mem.n s.mem.c) ∧ w'.cell? ⟨(w.heap.size + 1), 4, none⟩ = some (.slice s.bufs.A s.bufs.n s.bufs.c) ∧ w'.cell? ⟨(w.heap.size + 1), 5, none⟩ = some (.slice s.H.A s.H.n s.H.c) ∧ w'.cell? ⟨(w.heap.size + 1), 6, none⟩ = some (.slice s.view.A s.view.n s.view.c) ∧ w'.cell? ⟨(w.heap.size + 1), 7, none⟩ = some (.slice s.sc.A s.sc.n s.sc.c) ∧ w'.cell? ⟨(w.heap.size + 1), 8, none⟩ = some (.int .i64 s.next))) (by kernel_rfl) ?_ (fun hHeld => ?_)
    · exact R2.out.cells1
    refine wpAnyH_take (i := 0) (oi := { dst := some 47, op := Op.move (Operand.tmp 6), type := 139, pos := "l02_state.go:333", after := #[], guard := none }) (v := ?_) rfl (by kernel_rfl) (by kernel_rfl) (by kernel_rfl) (fun _ _ _ h => h) (Or.inl ⟨by rfl, ?_⟩) hHeld ?_
    rotate_left
    · (intro wq hSw; (try dsimp only at hSw); first | (go_simp; done) | (go_simp; with_reducible rfl))
    try simp only [Act.put, qa, qb, qc]
    refine wpAnyH_take (i := 1) (oi := { dst := some 48, op := Op.nilCheck (Operand.tmp 47), type := 0, pos := "l02_state.go:333", after := #[{ on := 0, ground := Ground.data }], guard := none }) (v := ?_) rfl (by kernel_rfl) (by kernel_rfl) (by kernel_rfl) (fun _ _ _ h => h) (Or.inl ⟨by rfl, ?_⟩) hHeld ?_
    rotate_left
    · (intro wq hSw; (try dsimp only at hSw); first | (go_simp; done) | (go_simp; with_reducible rfl))
    try simp only [Act.put, qa, qb, qc]
    refine wpAnyH_take (i := 2) (oi := { dst := some 49, op := Op.fieldAddr 141 (Operand.tmp 48) 0, type := 0, pos := "l02_state.go:333", after := #[{ on := 1, ground := Ground.data }], guard := none }) (v := ?_) rfl (by kernel_rfl) (by kernel_rfl) (by kernel_rfl) (fun _ _ _ h => h) (Or.inl ⟨by rfl, ?_⟩) hHeld ?_
    rotate_left
    · (intro wq hSw; (try dsimp only at hSw); first | (go_simp; done) | (go_simp; with_reducible rfl))
    try simp only [Act.put, qa, qb, qc]
    refine wpAnyH_take (i := 3) (oi := { dst := some 50, op := Op.load 135 (Operand.tmp 49), type := 135, pos := "l02_state.go:333", after := #[{ on := 2, ground := Ground.data }], guard := none }) (v := ?_) rfl (by kernel_rfl) (by kernel_rfl) (by kernel_rfl) (fun _ _ _ h => h) (Or.inl ⟨by rfl, ?_⟩) hHeld ?_
    rotate_left
    · (intro wq hSw; (try dsimp only at hSw); first | (go_simp; done) | (go_simp; with_reducible rfl))
    try simp only [Act.put, qa, qb, qc]
    refine wpAnyH_ready (rs := [4]) (by kernel_rfl) (by simp) ?_
    refine AllReadyH.cons (o := { dst := some 51, op := Op.call { callee := Callee.value (Operand.func 102), args := #[Operand.tmp 50], argTypes := #[135] }, type := 4, pos := "l02_state.go:333", after := #[{ on := 3, ground := Ground.data }], guard := none }) rfl (fun K hK => ?_) AllReadyH.nil
    go_simp
    go_at_call 102; refine (kc.out _ R2.out).mono ?_; rintro e w4 ⟨rfl, hb4⟩; have R4 := hide (R2.out.next hb4); have B4 := hide (below_then B2.out hb4)
    refine hK.out _ _ ?_ (fun hHeldN => ?_)
    · exact R4.out.cells1
    clear hK K hHeld
    have hHeld := hHeldN
    clear hHeldN
    try simp only [Act.put, qa, qb, qc]
    refine wpAnyH_take (i := 5) (oi := { dst := some 52, op := Op.move (Operand.tmp 51), type := 4, pos := "l02_state.go:333", after := #[{ on := 4, ground := Ground.data }, { on := 4, ground := Ground.chain }], guard := none }) (v := ?_) rfl (by kernel_rfl) (by kernel_rfl) (by kernel_rfl) (fun _ _ _ h => h) (Or.inl ⟨by rfl, ?_⟩) hHeld ?_
    rotate_left
    · (intro wq hSw; (try dsimp only at hSw); first | (go_simp; done) | (go_simp; with_reducible rfl))
    try simp only [Act.put, qa, qb, qc]
    refine wpAnyH_take (i := 6) (oi := { dst := some 53, op := Op.move (Operand.tmp 6), type := 139, pos := "l02_state.go:333", after := #[{ on := 5, ground := Ground.guard }], guard := some (5, true) }) (v := undef) rfl (by kernel_rfl) (by kernel_rfl) (by kernel_rfl) (fun _ _ _ h => h) (Or.inr ⟨by rfl, rfl⟩) hHeld ?_
    try simp only [Act.put, qa, qb, qc]
    refine wpAnyH_take (i := 7) (oi := { dst := some 54, op := Op.nilCheck (Operand.tmp 53), type := 0, pos := "l02_state.go:333", after := #[{ on := 6, ground := Ground.data }, { on := 5, ground := Ground.guard }], guard := some (5, true) }) (v := undef) rfl (by kernel_rfl) (by kernel_rfl) (by kernel_rfl) (fun _ _ _ h => h) (Or.inr ⟨by rfl, rfl⟩) hHeld ?_
    try simp only [Act.put, qa, qb, qc]
    refine wpAnyH_take (i := 8) (oi := { dst := some 55, op := Op.fieldAddr 141 (Operand.tmp 54) 1, type := 0, pos := "l02_state.go:333", after := #[{ on := 7, ground := Ground.data }, { on := 5, ground := Ground.guard }], guard := some (5, true) }) (v := undef) rfl (by kernel_rfl) (by kernel_rfl) (by kernel_rfl) (fun _ _ _ h => h) (Or.inr ⟨by rfl, rfl⟩) hHeld ?_
    try simp only [Act.put, qa, qb, qc]
    refine wpAnyH_take (i := 9) (oi := { dst := some 56, op := Op.load 22 (Operand.tmp 55), type := 22, pos := "l02_state.go:333", after := #[{ on := 8, ground := Ground.data }, { on := 5, ground := Ground.guard }], guard := some (5, true) }) (v := undef) rfl (by kernel_rfl) (by kernel_rfl) (by kernel_rfl) (fun _ _ _ h => h) (Or.inr ⟨by rfl, rfl⟩) hHeld ?_
    try simp only [Act.put, qa, qb, qc]
    refine wpAnyH_take (i := 10) (oi := { dst := some 57, op := Op.call { callee := Callee.builtin Builtin.len, args := #[Operand.tmp 56], argTypes := #[22] }, type := 3, pos := "l02_state.go:333", after := #[{ on := 9, ground := Ground.data }, { on := 5, ground := Ground.guard }], guard := some (5, true) }) (v := undef) rfl (by kernel_rfl) (by kernel_rfl) (by kernel_rfl) (fun _ _ _ h => h) (Or.inr ⟨by rfl, rfl⟩) hHeld ?_
    try simp only [Act.put, qa, qb, qc]
    refine wpAnyH_take (i := 11) (oi := { dst := some 58, op := Op.move (Operand.tmp 6), type := 139, pos := "l02_state.go:333", after := #[{ on := 5, ground := Ground.guard }], guard := some (5, true) }) (v := undef) rfl (by kernel_rfl) (by kernel_rfl) (by kernel_rfl) (fun _ _ _ h => h) (Or.inr ⟨by rfl, rfl⟩) hHeld ?_
    try simp only [Act.put, qa, qb, qc]
    refine wpAnyH_take (i := 12) (oi := { dst := some 59, op := Op.nilCheck (Operand.tmp 58), type := 0, pos := "l02_state.go:333", after := #[{ on := 11, ground := Ground.data }, { on := 5, ground := Ground.guard }], guard := some (5, true) }) (v := undef) rfl (by kernel_rfl) (by kernel_rfl) (by kernel_rfl) (fun _ _ _ h => h) (Or.inr ⟨by rfl, rfl⟩) hHeld ?_
    try simp only [Act.put, qa, qb, qc]
    refine wpAnyH_take (i := 13) (oi := { dst := some 60, op := Op.fieldAddr 141 (Operand.tmp 59) 0, type := 0, pos := "l02_state.go:333", after := #[{ on := 12, ground := Ground.data }, { on := 5, ground := Ground.guard }], guard := some (5, true) }) (v := undef) rfl (by kernel_rfl) (by kernel_rfl) (by kernel_rfl) (fun _ _ _ h => h) (Or.inr ⟨by rfl, rfl⟩) hHeld ?_
    try simp only [Act.put, qa, qb, qc]
    refine wpAnyH_take (i := 14) (oi := { dst := some 61, op := Op.load 135 (Operand.tmp 60), type := 135, pos := "l02_state.go:333", after := #[{ on := 13, ground := Ground.data }, { on := 5, ground := Ground.guard }], guard := some (5, true) }) (v := undef) rfl (by kernel_rfl) (by kernel_rfl) (by kernel_rfl) (fun _ _ _ h => h) (Or.inr ⟨by rfl, rfl⟩) hHeld ?_
    try simp only [Act.put, qa, qb, qc]
    refine wpAnyH_take (i := 15) (oi := { dst := some 62, op := Op.call { callee := Callee.value (Operand.func 103), args := #[Operand.tmp 61], argTypes := #[135] }, type := 3, pos := "l02_state.go:333", after := #[{ on := 14, ground := Ground.data }, { on := 5, ground := Ground.chain }, { on := 5, ground := Ground.guard }], guard := some (5, true) }) (v := undef) rfl (by kernel_rfl) (by kernel_rfl) (by kernel_rfl) (fun _ _ _ h => h) (Or.inr ⟨by rfl, rfl⟩) hHeld ?_
    try simp only [Act.put, qa, qb, qc]
    refine wpAnyH_take (i := 16) (oi := { dst := some 63, op := Op.binOp BinOp.eql 3 (Operand.tmp 57) (Operand.tmp 62) 3, type := 4, pos := "l02_state.go:333", after := #[{ on := 10, ground := Ground.data }, { on := 15, ground := Ground.data }, { on := 5, ground := Ground.guard }], guard := some (5, true) }) (v := undef) rfl (by kernel_rfl) (by kernel_rfl) (by kernel_rfl) (fun _ _ _ h => h) (Or.inr ⟨by rfl, rfl⟩) hHeld ?_
    try simp only [Act.put, qa, qb, qc]
    refine wpAnyH_take (i := 17) (oi := { dst := some 64, op := Op.pick (Operand.tmp 52) (Operand.tmp 63) (Operand.const (Value.bool false)), type := 4, pos := "l02_state.go:333", after := #[{ on := 5, ground := Ground.data }, { on := 16, ground := Ground.data }], guard := none }) (v := ?_) rfl (by kernel_rfl) (by kernel_rfl) (by kernel_rfl) (fun _ _ _ h => h) (Or.inl ⟨by rfl, ?_⟩) hHeld ?_
    rotate_left
    · (intro wq hSw; (try dsimp only at hSw); first | (go_simp; done) | (go_simp; with_reducible rfl))
    try simp only [Act.put, qa, qb, qc]
    refine wpAnyH_take (i := 18) (oi := { dst := some 65, op := Op.move (Operand.tmp 64), type := 4, pos := "l02_state.go:333", after := #[{ on := 17, ground := Ground.data }, { on := 15, ground := Ground.chain }], guard := none }) (v := ?_) rfl (by kernel_rfl) (by kernel_rfl) (by kernel_rfl) (fun _ _ _ h => h) (Or.inl ⟨by rfl, ?_⟩) hHeld ?_
    rotate_left
    · (intro wq hSw; (try dsimp only at hSw); first | (go_simp; done) | (go_simp; with_reducible rfl))
    try simp only [Act.put, qa, qb, qc]
    refine wpAnyH_take (i := 19) (oi := { dst := some 66, op := Op.move (Operand.tmp 6), type := 139, pos := "l02_state.go:333", after := #[{ on := 18, ground := Ground.guard }], guard := some (18, true) }) (v := undef) rfl (by kernel_rfl) (by kernel_rfl) (by kernel_rfl) (fun _ _ _ h => h) (Or.inr ⟨by rfl, rfl⟩) hHeld ?_
    try simp only [Act.put, qa, qb, qc]
    refine wpAnyH_take (i := 20) (oi := { dst := some 67, op := Op.nilCheck (Operand.tmp 66), type := 0, pos := "l02_state.go:333", after := #[{ on := 19, ground := Ground.data }, { on := 18, ground := Ground.guard }], guard := some (18, true) }) (v := undef) rfl (by kernel_rfl) (by kernel_rfl) (by kernel_rfl) (fun _ _ _ h => h) (Or.inr ⟨by rfl, rfl⟩) hHeld ?_
    try simp only [Act.put, qa, qb, qc]
    refine wpAnyH_take (i := 21) (oi := { dst := some 68, op := Op.load 141 (Operand.tmp 67), type := 141, pos := "l02_state.go:333", after := #[{ on := 20, ground := Ground.data }, { on := 18, ground := Ground.guard }], guard := some (18, true) }) (v := undef) rfl (by kernel_rfl) (by kernel_rfl) (by kernel_rfl) (fun _ _ _ h => h) (Or.inr ⟨by rfl, rfl⟩) hHeld ?_
    try simp only [Act.put, qa, qb, qc]
    refine wpAnyH_take (i := 22) (oi := { dst := some 69, op := Op.call { callee := Callee.value (Operand.func 106), args := #[Operand.tmp 68], argTypes := #[139] }, type := 4, pos := "l02_state.go:333", after := #[{ on := 21, ground := Ground.data }, { on := 18, ground := Ground.chain }, { on := 18, ground := Ground.guard }], guard := some (18, true) }) (v := undef) rfl (by kernel_rfl) (by kernel_rfl) (by kernel_rfl) (fun _ _ _ h => h) (Or.inr ⟨by rfl, rfl⟩) hHeld ?_
    try simp only [Act.put, qa, qb, qc]
    refine wpAnyH_take (i := 23) (oi := { dst := some 70, op := Op.pick (Operand.tmp 65) (Operand.tmp 69) (Operand.const (Value.bool false)), type := 4, pos := "l02_state.go:333", after := #[{ on := 18, ground := Ground.data }, { on := 22, ground := Ground.data }], guard := none }) (v := ?_) rfl (by kernel_rfl) (by kernel_rfl) (by kernel_rfl) (fun _ _ _ h => h) (Or.inl ⟨by rfl, ?_⟩) hHeld ?_
    rotate_left
    · (intro wq hSw; (try dsimp only at hSw); first | (go_simp; done) | (go_simp; with_reducible rfl))
    try simp only [Act.put, qa, qb, qc]
    refine wpAnyH_take (i := 24) (oi := { dst := some 71, op := Op.move (Operand.tmp 70), type := 4, pos := "l02_state.go:333", after := #[{ on := 23, ground := Ground.data }, { on := 22, ground := Ground.chain }], guard := none }) (v := ?_) rfl (by kernel_rfl) (by kernel_rfl) (by kernel_rfl) (fun _ _ _ h => h) (Or.inl ⟨by rfl, ?_⟩) hHeld ?_
    rotate_left
    · (intro wq hSw; (try dsimp only at hSw); first | (go_simp; done) | (go_simp; with_reducible rfl))
    try simp only [Act.put, qa, qb, qc]
    refine wpAnyH_take (i := 25) (oi := { dst := some 72, op := Op.load 48 (Operand.tmp 3), type := 48, pos := "l02_state.go:333", after := #[{ on := 24, ground := Ground.guard }], guard := some (24, true) }) (v := undef) rfl (by kernel_rfl) (by kernel_rfl) (by kernel_rfl) (fun _ _ _ h => h) (Or.inr ⟨by rfl, rfl⟩) hHeld ?_
    try simp only [Act.put, qa, qb, qc]
    refine wpAnyH_take (i := 26) (oi := { dst := some 73, op := Op.call { callee := Callee.value (Operand.func 105), args := #[Operand.tmp 72], argTypes := #[48] }, type := 4, pos := "l02_state.go:333", after := #[{ on := 25, ground := Ground.data }, { on := 24, ground := Ground.chain }, { on := 24, ground := Ground.guard }], guard := some (24, true) }) (v := undef) rfl (by kernel_rfl) (by kernel_rfl) (by kernel_rfl) (fun _ _ _ h => h) (Or.inr ⟨by rfl, rfl⟩) hHeld ?_
    try simp only [Act.put, qa, qb, qc]
    refine wpAnyH_take (i := 27) (oi := { dst := some 74, op := Op.pick (Operand.tmp 71) (Operand.tmp 73) (Operand.const (Value.bool false)), type := 4, pos := "l02_state.go:333", after := #[{ on := 24, ground := Ground.data }, { on := 26, ground := Ground.data }], guard := none }) (v := ?_) rfl (by kernel_rfl) (by kernel_rfl) (by kernel_rfl) (fun _ _ _ h => h) (Or.inl ⟨by rfl, ?_⟩) hHeld ?_
    rotate_left
    · (intro wq hSw; (try dsimp only at hSw); first | (go_simp; done) | (go_simp; with_reducible rfl))
    try simp only [Act.put, qa, qb, qc]
    refine wpAnyH_take (i := 28) (oi := { dst := some 4, op := Op.assign (Operand.tmp 74), type := 4, pos := "l02_state.go:333", after := #[{ on := 27, ground := Ground.data }, { on := 26, ground := Ground.chain }, { on := 0, ground := Ground.phase }, { on := 1, ground := Ground.phase }, { on := 2, ground := Ground.phase }, { on := 3, ground := Ground.phase }, { on := 4, ground := Ground.phase }, { on := 5, ground := Ground.phase }, { on := 6, ground := Ground.phase }, { on := 7, ground := Ground.phase }, { on := 8, ground := Ground.phase }, { on := 9, ground := Ground.phase }, { on := 10, ground := Ground.phase }, { on := 11, ground := Ground.phase }, { on := 12, ground := Ground.phase }, { on := 13, ground := Ground.phase }, { on := 14, ground := Ground.phase }, { on := 15, ground := Ground.phase }, { on := 16, ground := Ground.phase }, { on := 17, ground := Ground.phase }, { on := 18, ground := Ground.phase }, { on := 19, ground := Ground.phase }, { on := 20, ground := Ground.phase }, { on := 21, ground := Ground.phase }, { on := 22, ground := Ground.phase }, { on := 23, ground := Ground.phase }, { on := 24, ground := Ground.phase }, { on := 25, ground := Ground.phase }, { on := 26, ground := Ground.phase }, { on := 27, ground := Ground.phase }], guard := none }) (v := ?_) rfl (by kernel_rfl) (by kernel_rfl) (by kernel_rfl) (fun _ _ _ h => h) (Or.inl ⟨by rfl, ?_⟩) hHeld ?_
    rotate_left
    · (intro wq hSw; (try dsimp only at hSw); first | (go_simp; done) | (go_simp; with_reducible rfl))
    try simp only [Act.put, qa, qb, qc]
    refine wpAnyH_done (by kernel_rfl) ?_ _
    go_wp2_with fail
    go_ret
    exact ⟨ret_bool (hE.out.trans rfl).symm, B4.out⟩
  · by_cases hm : s.mem.n = p.init.length
    · have hm' : ((s.mem.n : Int) == (p.init.length : Int)) = true := by simp [hm]
      have hm2 : decide (s.mem.n = p.init.length) = true := decide_eq_true hm
      rw [hm2] at hE
      clear hm hm2
      cases bb
      · refine wp_region_held_drew (S := (fun w' => (w'.cell? ⟨T, 0, none⟩ = some (.slice A1 p.init.length c1) ∧ w'.cell? ⟨T, 1, none⟩ = some (.slice A2 p.ts.length c2) ∧ w'.cell? ⟨T, 2, none⟩ = some (.slice s.pc.A s.pc.n s.pc.c) ∧ w'.cell? ⟨T, 3, none⟩ = some (.slice s.F.A s.F.n s.F.c) ∧ w'.cell? ⟨T, 4, none⟩ = some (.slice s.mem.A s.mem.n s.mem.c) ∧ w'.cell? ⟨T, 5, none⟩ = some (.slice s.bufs.A s.bufs.n s.bufs.c)) ∧ w'.cell? ⟨(w.heap.size + 1), 0, none⟩ = some (.int .i64 1) ∧ w'.cell? ⟨(w.heap.size + 1), 1, none⟩ = some (.slice s.pc.A s.pc.n s.pc.c) ∧ w'.cell? ⟨(w.heap.size + 1), 2, none⟩ = some (.slice s.F.A s.F.n s.F.c) ∧ w'.cell? ⟨(w.heap.size + 1), 3, none⟩ = some (.slice s.mem.A s.mem.n s.mem.c) ∧ w'.cell? ⟨(w.heap.size + 1), 4, none⟩ = some (.slice s.bufs.A s.bufs.n s.bufs.c) ∧ w'.cell? ⟨(w.heap.size + 1), 5, none⟩ = some (.slice s.H.A s.H.n s.H.c) ∧ w'.cell? ⟨(w.heap.size + 1), 6, none⟩ = some (.slice s.view.A s.view.n s.view.c) ∧ w'.cell? ⟨(w.heap.size + 1), 7, none⟩ = some (.slice s.sc.A s.sc.n s.sc.c) ∧ w'.cell? ⟨(w.heap.size + 1), 8, none⟩ = some (.int .i64 s.next))) (by kernel_rfl) ?_ (fun hHeld => ?_)
        · exact R2.out.cells1
        refine wpAnyH_take (i := 0) (oi := { dst := some 47, op := Op.move (Operand.tmp 6), type := 139, pos := "l02_state.go:333", after := #[], guard := none }) (v := ?_) rfl (by kernel_rfl) (by kernel_rfl) (by kernel_rfl) (fun _ _ _ h => h) (Or.inl ⟨by rfl, ?_⟩) hHeld ?_
        rotate_left
        · (intro wq hSw; (try dsimp only at hSw); first | (go_simp; done) | (go_simp; with_reducible rfl))
        try simp only [Act.put, qa, qb, qc]
        refine wpAnyH_take (i := 1) (oi := { dst := some 48, op := Op.nilCheck (Operand.tmp 47), type := 0, pos := "l02_state.go:333", after := #[{ on := 0, ground := Ground.data }], guard := none }) (v := ?_) rfl (by kernel_rfl) (by kernel_rfl) (by kernel_rfl) (fun _ _ _ h => h) (Or.inl ⟨by rfl, ?_⟩) hHeld ?_
        rotate_left
        · (intro wq hSw; (try dsimp only at hSw); first | (go_simp; done) | (go_simp; with_reducible rfl))
        try simp only [Act.put, qa, qb, qc]
        refine wpAnyH_take (i := 2) (oi := { dst := some 49, op := Op.fieldAddr 141 (Operand.tmp 48) 0, type := 0, pos := "l02_state.go:333", after := #[{ on := 1, ground := Ground.data }], guard := none }) (v := ?_) rfl (by kernel_rfl) (by kernel_rfl) (by kernel_rfl) (fun _ _ _ h => h) (Or.inl ⟨by rfl, ?_⟩) hHeld ?_
        rotate_left
        · (intro wq hSw; (try dsimp only at hSw); first | (go_simp; done) | (go_simp; with_reducible rfl))
        try simp only [Act.put, qa, qb, qc]
        refine wpAnyH_take (i := 3) (oi := { dst := some 50, op := Op.load 135 (Operand.tmp 49), type := 135, pos := "l02_state.go:333", after := #[{ on := 2, ground := Ground.data }], guard := none }) (v := ?_) rfl (by kernel_rfl) (by kernel_rfl) (by kernel_rfl) (fun _ _ _ h => h) (Or.inl ⟨by rfl, ?_⟩) hHeld ?_
        rotate_left
        · (intro wq hSw; (try dsimp only at hSw); first | (go_simp; done) | (go_simp; with_reducible rfl))
        try simp only [Act.put, qa, qb, qc]
        refine wpAnyH_ready (rs := [4]) (by kernel_rfl) (by simp) ?_
        refine AllReadyH.cons (o := { dst := some 51, op := Op.call { callee := Callee.value (Operand.func 102), args := #[Operand.tmp 50], argTypes := #[135] }, type := 4, pos := "l02_state.go:333", after := #[{ on := 3, ground := Ground.data }], guard := none }) rfl (fun K hK => ?_) AllReadyH.nil
        go_simp
        go_at_call 102; refine (kc.out _ R2.out).mono ?_; rintro e w4 ⟨rfl, hb4⟩; have R4 := hide (R2.out.next hb4); have B4 := hide (below_then B2.out hb4)
        refine hK.out _ _ ?_ (fun hHeldN => ?_)
        · exact R4.out.cells1
        clear hK K hHeld
        have hHeld := hHeldN
        clear hHeldN
        try simp only [Act.put, qa, qb, qc]
        refine wpAnyH_take (i := 5) (oi := { dst := some 52, op := Op.move (Operand.tmp 51), type := 4, pos := "l02_state.go:333", after := #[{ on := 4, ground := Ground.data }, { on := 4, ground := Ground.chain }], guard := none }) (v := ?_) rfl (by kernel_rfl) (by kernel_rfl) (by kernel_rfl) (fun _ _ _ h => h) (Or.inl ⟨by rfl, ?_⟩) hHeld ?_
        rotate_left
        · (intro wq hSw; (try dsimp only at hSw); first | (go_simp; done) | (go_simp; with_reducible rfl))
        try simp only [Act.put, qa, qb, qc]
        refine wpAnyH_take (i := 6) (oi := { dst := some 53, op := Op.move (Operand.tmp 6), type := 139, pos := "l02_state.go:333", after := #[{ on := 5, ground := Ground.guard }], guard := some (5, true) }) (v := ?_) rfl (by kernel_rfl) (by kernel_rfl) (by kernel_rfl) (fun _ _ _ h => h) (Or.inl ⟨by rfl, ?_⟩) hHeld ?_
        rotate_left
        · (intro wq hSw; (try dsimp only at hSw); first | (go_simp; done) | (go_simp; with_reducible rfl))
        try simp only [Act.put, qa, qb, qc]
        refine wpAnyH_take (i := 7) (oi := { dst := some 54, op := Op.nilCheck (Operand.tmp 53), type := 0, pos := "l02_state.go:333", after := #[{ on := 6, ground := Ground.data }, { on := 5, ground := Ground.guard }], guard := some (5, true) }) (v := ?_) rfl (by kernel_rfl) (by kernel_rfl) (by kernel_rfl) (fun _ _ _ h => h) (Or.inl ⟨by rfl, ?_⟩) hHeld ?_
        rotate_left
        · (intro wq hSw; (try dsimp only at hSw); first | (go_simp; done) | (go_simp; with_reducible rfl))
        try simp only [Act.put, qa, qb, qc]
        refine wpAnyH_take (i := 8) (oi := { dst := some 55, op := Op.fieldAddr 141 (Operand.tmp 54) 1, type := 0, pos := "l02_state.go:333", after := #[{ on := 7, ground := Ground.data }, { on := 5, ground := Ground.guard }], guard := some (5, true) }) (v := ?_) rfl (by kernel_rfl) (by kernel_rfl) (by kernel_rfl) (fun _ _ _ h => h) (Or.inl ⟨by rfl, ?_⟩) hHeld ?_
        rotate_left
        · (intro wq hSw; (try dsimp only at hSw); first | (go_simp; done) | (go_simp; with_reducible rfl))
        try simp only [Act.put, qa, qb, qc]
        refine wpAnyH_take (i := 9) (oi := { dst := some 56, op := Op.load 22 (Operand.tmp 55), type := 22, pos := "l02_state.go:333", after := #[{ on := 8, ground := Ground.data }, { on := 5, ground := Ground.guard }], guard := some (5, true) }) (v := ?_) rfl (by kernel_rfl) (by kernel_rfl) (by kernel_rfl) (fun _ _ _ h => h) (Or.inl ⟨by rfl, ?_⟩) hHeld ?_
        rotate_left
        · (intro wq hSw; (try dsimp only at hSw); first | (go_simp; done) | (go_simp; with_reducible rfl))
        try simp only [Act.put, qa, qb, qc]
        refine wpAnyH_take (i := 10) (oi := { dst := some 57, op := Op.call { callee := Callee.builtin Builtin.len, args := #[Operand.tmp 56], argTypes := #[22] }, type := 3, pos := "l02_state.go:333", after := #[{ on := 9, ground := Ground.data }, { on := 5, ground := Ground.guard }], guard := some (5, true) }) (v := ?_) rfl (by kernel_rfl) (by kernel_rfl) (by kernel_rfl) (fun _ _ _ h => h) (Or.inl ⟨by rfl, ?_⟩) hHeld ?_
        rotate_left
        · (intro wq hSw; (try dsimp only at hSw); first | (go_simp; done) | (go_simp; with_reducible rfl))
        try simp only [Act.put, qa, qb, qc]
        refine wpAnyH_take (i := 11) (oi := { dst := some 58, op := Op.move (Operand.tmp 6), type := 139, pos := "l02_state.go:333", after := #[{ on := 5, ground := Ground.guard }], guard := some (5, true) }) (v := ?_) rfl (by kernel_rfl) (by kernel_rfl) (by kernel_rfl) (fun _ _ _ h => h) (Or.inl ⟨by rfl, ?_⟩) hHeld ?_
        rotate_left
        · (intro wq hSw; (try dsimp only at hSw); first | (go_simp; done) | (go_simp; with_reducible rfl))
        try simp only [Act.put, qa, qb, qc]
        refine wpAnyH_take (i := 12) (oi := { dst := some 59, op := Op.nilCheck (Operand.tmp 58), type := 0, pos := "l02_state.go:333", after := #[{ on := 11, ground := Ground.data }, { on := 5, ground := Ground.guard }], guard := some (5, true) }) (v := ?_) rfl (by kernel_rfl) (by kernel_rfl) (by kernel_rfl) (fun _ _ _ h => h) (Or.inl ⟨by rfl, ?_⟩) hHeld ?_
        rotate_left
        · (intro wq hSw; (try dsimp only at hSw); first | (go_simp; done) | (go_simp; with_reducible rfl))
        try simp only [Act.put, qa, qb, qc]
        refine wpAnyH_take (i := 13) (oi := { dst := some 60, op := Op.fieldAddr 141 (Operand.tmp 59) 0, type := 0, pos := "l02_state.go:333", after := #[{ on := 12, ground := Ground.data }, { on := 5, ground := Ground.guard }], guard := some (5, true) }) (v := ?_) rfl (by kernel_rfl) (by kernel_rfl) (by kernel_rfl) (fun _ _ _ h => h) (Or.inl ⟨by rfl, ?_⟩) hHeld ?_
        rotate_left
        · (intro wq hSw; (try dsimp only at hSw); first | (go_simp; done) | (go_simp; with_reducible rfl))
        try simp only [Act.put, qa, qb, qc]
        refine wpAnyH_take (i := 14) (oi := { dst := some 61, op := Op.load 135 (Operand.tmp 60), type := 135, pos := "l02_state.go:333", after := #[{ on := 13, ground := Ground.data }, { on := 5, ground := Ground.guard }], guard := some (5, true) }) (v := ?_) rfl (by kernel_rfl) (by kernel_rfl) (by kernel_rfl) (fun _ _ _ h => h) (Or.inl ⟨by rfl, ?_⟩) hHeld ?_
        rotate_left
        · (intro wq hSw; (try dsimp only at hSw); first | (go_simp; done) | (go_simp; with_reducible rfl))
        try simp only [Act.put, qa, qb, qc]
        refine wpAnyH_ready (rs := [15]) (by kernel_rfl) (by simp) ?_
        refine AllReadyH.cons (o := { dst := some 62, op := Op.call { callee := Callee.value (Operand.func 103), args := #[Operand.tmp 61], argTypes := #[135] }, type := 3, pos := "l02_state.go:333", after := #[{ on := 14, ground := Ground.data }, { on := 5, ground := Ground.chain }, { on := 5, ground := Ground.guard }], guard := some (5, true) }) rfl (fun K hK => ?_) AllReadyH.nil
        go_simp
        go_at_call 103; refine (comCells_any _ _ _ _ _ _ _ _ _ _ _ _ _).mono ?_; rintro e w5 ⟨rfl, hb5⟩; have R5 := hide (R4.out.next hb5); have B5 := hide (below_then B4.out hb5)
        refine hK.out _ _ ?_ (fun hHeldN => ?_)
        · exact R5.out.cells1
        clear hK K hHeld
        have hHeld := hHeldN
        clear hHeldN
        try simp only [Act.put, qa, qb, qc]
        refine wpAnyH_take (i := 16) (oi := { dst := some 63, op := Op.binOp BinOp.eql 3 (Operand.tmp 57) (Operand.tmp 62) 3, type := 4, pos := "l02_state.go:333", after := #[{ on := 10, ground := Ground.data }, { on := 15, ground := Ground.data }, { on := 5, ground := Ground.guard }], guard := some (5, true) }) (v := ?_) rfl (by kernel_rfl) (by kernel_rfl) (by kernel_rfl) (fun _ _ _ h => h) (Or.inl ⟨by rfl, ?_⟩) hHeld ?_
        rotate_left
        · (intro wq hSw; (try dsimp only at hSw); first | (go_simp; done) | (go_simp; with_reducible rfl))
        try simp only [Act.put, qa, qb, qc]
        refine wpAnyH_take (i := 17) (oi := { dst := some 64, op := Op.pick (Operand.tmp 52) (Operand.tmp 63) (Operand.const (Value.bool false)), type := 4, pos := "l02_state.go:333", after := #[{ on := 5, ground := Ground.data }, { on := 16, ground := Ground.data }], guard := none }) (v := ?_) rfl (by kernel_rfl) (by kernel_rfl) (by kernel_rfl) (fun _ _ _ h => h) (Or.inl ⟨by rfl, ?_⟩) hHeld ?_
        rotate_left
        · (intro wq hSw; (try dsimp only at hSw); first | (go_simp; done) | (go_simp; with_reducible rfl))
        try simp only [Act.put, qa, qb, qc]
        refine wpAnyH_take (i := 18) (oi := { dst := some 65, op := Op.move (Operand.tmp 64), type := 4, pos := "l02_state.go:333", after := #[{ on := 17, ground := Ground.data }, { on := 15, ground := Ground.chain }], guard := none }) (v := ?_) rfl (by kernel_rfl) (by kernel_rfl) (by kernel_rfl) (fun _ _ _ h => h) (Or.inl ⟨by rfl, ?_⟩) hHeld ?_
        rotate_left
        · (intro wq hSw; (try dsimp only at hSw); first | (go_simp; done) | (go_simp; with_reducible rfl))
        try simp only [Act.put, qa, qb, qc]
        refine wpAnyH_take (i := 19) (oi := { dst := some 66, op := Op.move (Operand.tmp 6), type := 139, pos := "l02_state.go:333", after := #[{ on := 18, ground := Ground.guard }], guard := some (18, true) }) (v := ?_) rfl (by kernel_rfl) (by kernel_rfl) (by kernel_rfl) (fun _ _ _ h => h) (Or.inl ⟨by rfl, ?_⟩) hHeld ?_
        rotate_left
        · (intro wq hSw; (try dsimp only at hSw); first | (go_simp; done) | (go_simp; with_reducible rfl))
        try simp only [Act.put, qa, qb, qc]
        refine wpAnyH_take (i := 20) (oi := { dst := some 67, op := Op.nilCheck (Operand.tmp 66), type := 0, pos := "l02_state.go:333", after := #[{ on := 19, ground := Ground.data }, { on := 18, ground := Ground.guard }], guard := some (18, true) }) (v := ?_) rfl (by kernel_rfl) (by kernel_rfl) (by kernel_rfl) (fun _ _ _ h => h) (Or.inl ⟨by rfl, ?_⟩) hHeld ?_
        rotate_left
        · (intro wq hSw; (try dsimp only at hSw); first | (go_simp; done) | (go_simp; with_reducible rfl))
        try simp only [Act.put, qa, qb, qc]
        refine wpAnyH_take (i := 21) (oi := { dst := some 68, op := Op.load 141 (Operand.tmp 67), type := 141, pos := "l02_state.go:333", after := #[{ on := 20, ground := Ground.data }, { on := 18, ground := Ground.guard }], guard := some (18, true) }) (v := ?_) rfl (by kernel_rfl) (by kernel_rfl) (by kernel_rfl) (fun _ _ _ h => h) (Or.inl ⟨by rfl, ?_⟩) hHeld ?_
        rotate_left
        · (intro wq hSw; (try dsimp only at hSw); first | (go_simp; done) | (go_simp; with_reducible rfl))
        try simp only [Act.put, qa, qb, qc]
        refine wpAnyH_ready (rs := [22]) (by kernel_rfl) (by simp) ?_
        refine AllReadyH.cons (o := { dst := some 69, op := Op.call { callee := Callee.value (Operand.func 106), args := #[Operand.tmp 68], argTypes := #[139] }, type := 4, pos := "l02_state.go:333", after := #[{ on := 21, ground := Ground.data }, { on := 18, ground := Ground.chain }, { on := 18, ground := Ground.guard }], guard := some (18, true) }) rfl (fun K hK => ?_) AllReadyH.nil
        go_simp
        go_at_call 106; refine (kb.out _ R5.out).mono ?_; rintro e w6 ⟨rfl, hb6⟩; have R6 := hide (R5.out.next hb6); have B6 := hide (below_then B5.out hb6)
        refine hK.out _ _ ?_ (fun hHeldN => ?_)
        · exact R6.out.cells1
        clear hK K hHeld
        have hHeld := hHeldN
        clear hHeldN
        try simp only [Act.put, qa, qb, qc]
        refine wpAnyH_take (i := 23) (oi := { dst := some 70, op := Op.pick (Operand.tmp 65) (Operand.tmp 69) (Operand.const (Value.bool false)), type := 4, pos := "l02_state.go:333", after := #[{ on := 18, ground := Ground.data }, { on := 22, ground := Ground.data }], guard := none }) (v := ?_) rfl (by kernel_rfl) (by kernel_rfl) (by kernel_rfl) (fun _ _ _ h => h) (Or.inl ⟨by rfl, ?_⟩) hHeld ?_
        rotate_left
        · (intro wq hSw; (try dsimp only at hSw); first | (go_simp; done) | (go_simp; with_reducible rfl))
        try simp only [Act.put, qa, qb, qc]
        refine wpAnyH_take (i := 24) (oi := { dst := some 71, op := Op.move (Operand.tmp 70), type := 4, pos := "l02_state.go:333", after := #[{ on := 23, ground := Ground.data }, { on := 22, ground := Ground.chain }], guard := none }) (v := ?_) rfl (by kernel_rfl) (by kernel_rfl) (by kernel_rfl) (fun _ _ _ h => h) (Or.inl ⟨by rfl, ?_⟩) hHeld ?_
        rotate_left
        · (intro wq hSw; (try dsimp only at hSw); first | (go_simp; done) | (go_simp; with_reducible rfl))
        try simp only [Act.put, qa, qb, qc]
        refine wpAnyH_take (i := 25) (oi := { dst := some 72, op := Op.load 48 (Operand.tmp 3), type := 48, pos := "l02_state.go:333", after := #[{ on := 24, ground := Ground.guard }], guard := some (24, true) }) (v := undef) rfl (by kernel_rfl) (by kernel_rfl) (by kernel_rfl) (fun _ _ _ h => h) (Or.inr ⟨by rfl, rfl⟩) hHeld ?_
        try simp only [Act.put, qa, qb, qc]
        refine wpAnyH_take (i := 26) (oi := { dst := some 73, op := Op.call { callee := Callee.value (Operand.func 105), args := #[Operand.tmp 72], argTypes := #[48] }, type := 4, pos := "l02_state.go:333", after := #[{ on := 25, ground := Ground.data }, { on := 24, ground := Ground.chain }, { on := 24, ground := Ground.guard }], guard := some (24, true) }) (v := undef) rfl (by kernel_rfl) (by kernel_rfl) (by kernel_rfl) (fun _ _ _ h => h) (Or.inr ⟨by rfl, rfl⟩) hHeld ?_
        try simp only [Act.put, qa, qb, qc]
        refine wpAnyH_take (i := 27) (oi := { dst := some 74, op := Op.pick (Operand.tmp 71) (Operand.tmp 73) (Operand.const (Value.bool false)), type := 4, pos := "l02_state.go:333", after := #[{ on := 24, ground := Ground.data }, { on := 26, ground := Ground.data }], guard := none }) (v := ?_) rfl (by kernel_rfl) (by kernel_rfl) (by kernel_rfl) (fun _ _ _ h => h) (Or.inl ⟨by rfl, ?_⟩) hHeld ?_
        rotate_left
        · (intro wq hSw; (try dsimp only at hSw); first | (go_simp; done) | (go_simp; with_reducible rfl))
        try simp only [Act.put, qa, qb, qc]
        refine wpAnyH_take (i := 28) (oi := { dst := some 4, op := Op.assign (Operand.tmp 74), type := 4, pos := "l02_state.go:333", after := #[{ on := 27, ground := Ground.data }, { on := 26, ground := Ground.chain }, { on := 0, ground := Ground.phase }, { on := 1, ground := Ground.phase }, { on := 2, ground := Ground.phase }, { on := 3, ground := Ground.phase }, { on := 4, ground := Ground.phase }, { on := 5, ground := Ground.phase }, { on := 6, ground := Ground.phase }, { on := 7, ground := Ground.phase }, { on := 8, ground := Ground.phase }, { on := 9, ground := Ground.phase }, { on := 10, ground := Ground.phase }, { on := 11, ground := Ground.phase }, { on := 12, ground := Ground.phase }, { on := 13, ground := Ground.phase }, { on := 14, ground := Ground.phase }, { on := 15, ground := Ground.phase }, { on := 16, ground := Ground.phase }, { on := 17, ground := Ground.phase }, { on := 18, ground := Ground.phase }, { on := 19, ground := Ground.phase }, { on := 20, ground := Ground.phase }, { on := 21, ground := Ground.phase }, { on := 22, ground := Ground.phase }, { on := 23, ground := Ground.phase }, { on := 24, ground := Ground.phase }, { on := 25, ground := Ground.phase }, { on := 26, ground := Ground.phase }, { on := 27, ground := Ground.phase }], guard := none }) (v := ?_) rfl (by kernel_rfl) (by kernel_rfl) (by kernel_rfl) (fun _ _ _ h => h) (Or.inl ⟨by rfl, ?_⟩) hHeld ?_
        rotate_left
        · (intro wq hSw; (try dsimp only at hSw); first | (go_simp; done) | (go_simp; with_reducible rfl))
        try simp only [Act.put, qa, qb, qc]
        refine wpAnyH_done (by kernel_rfl) ?_ _
        go_wp2_with fail
        go_ret
        exact ⟨ret_bool (hE.out.trans rfl).symm, B6.out⟩
      · refine wp_region_held_drew (S := (fun w' => (w'.cell? ⟨T, 0, none⟩ = some (.slice A1 p.init.length c1) ∧ w'.cell? ⟨T, 1, none⟩ = some (.slice A2 p.ts.length c2) ∧ w'.cell? ⟨T, 2, none⟩ = some (.slice s.pc.A s.pc.n s.pc.c) ∧ w'.cell? ⟨T, 3, none⟩ = some (.slice s.F.A s.F.n s.F.c) ∧ w'.cell? ⟨T, 4, none⟩ = some (.slice s.mem.A s.mem.n s.mem.c) ∧ w'.cell? ⟨T, 5, none⟩ = some (.slice s.bufs.A s.bufs.n s.bufs.c)) ∧ w'.cell? ⟨(w.heap.size + 1), 0, none⟩ = some (.int .i64 1) ∧ w'.cell? ⟨(w.heap.size + 1), 1, none⟩ = some (.slice s.pc.A s.pc.n s.pc.c) ∧ w'.cell? ⟨(w.heap.size + 1), 2, none⟩ = some (.slice s.F.A s.F.n s.F.c) ∧ w'.cell? ⟨(w.heap.size + 1), 3, none⟩ = some (.slice s.mem.A s.mem.n s.mem.c) ∧ w'.cell? ⟨(w.heap.size + 1), 4, none⟩ = some (.slice s.bufs.A s.bufs.n s.bufs.c) ∧ w'.cell? ⟨(w.heap.size + 1), 5, none⟩ = some (.slice s.H.A s.H.n s.H.c) ∧ w'.cell? ⟨(w.heap.size + 1), 6, none⟩ = some (.slice s.view.A s.view.n s.view.c) ∧ w'.cell? ⟨(w.heap.size + 1), 7, none⟩ = some (.slice s.sc.A s.sc.n s.sc.c) ∧ w'.cell? ⟨(w.heap.size + 1), 8, none⟩ = some (.int .i64 s.next))) (by kernel_rfl) ?_ (fun hHeld => ?_)
        · exact R2.out.cells1
        refine wpAnyH_take (i := 0) (oi := { dst := some 47, op := Op.move (Operand.tmp 6), type := 139, pos := "l02_state.go:333", after := #[], guard := none }) (v := ?_) rfl (by kernel_rfl) (by kernel_rfl) (by kernel_rfl) (fun _ _ _ h => h) (Or.inl ⟨by rfl, ?_⟩) hHeld ?_
        rotate_left
        · (intro wq hSw; (try dsimp only at hSw); first | (go_simp; done) | (go_simp; with_reducible rfl))
        try simp only [Act.put, qa, qb, qc]
        refine wpAnyH_take (i := 1) (oi := { dst := some 48, op := Op.nilCheck (Operand.tmp 47), type := 0, pos := "l02_state.go:333", after := #[{ on := 0, ground := Ground.data }], guard := none }) (v := ?_) rfl (by kernel_rfl) (by kernel_rfl) (by kernel_rfl) (fun _ _ _ h => h) (Or.inl ⟨by rfl, ?_⟩) hHeld ?_
        rotate_left
        · (intro wq hSw; (try dsimp only at hSw); first | (go_simp; done) | (go_simp; with_reducible rfl))
        try simp only [Act.put, qa, qb, qc]
        refine wpAnyH_take (i := 2) (oi := { dst := some 49, op := Op.fieldAddr 141 (Operand.tmp 48) 0, type := 0, pos := "l02_state.go:333", after := #[{ on := 1, ground := Ground.data }], guard := none }) (v := ?_) rfl (by kernel_rfl) (by kernel_rfl) (by kernel_rfl) (fun _ _ _ h => h) (Or.inl ⟨by rfl, ?_⟩) hHeld ?_
        rotate_left
        · (intro wq hSw; (try dsimp only at hSw); first | (go_simp; done) | (go_simp; with_reducible rfl))
        try simp only [Act.put, qa, qb, qc]
        refine wpAnyH_take (i := 3) (oi := { dst := some 50, op := Op.load 135 (Operand.tmp 49), type := 135, pos := "l02_state.go:333", after := #[{ on := 2, ground := Ground.data }], guard := none }) (v := ?_) rfl (by kernel_rfl) (by kernel_rfl) (by kernel_rfl) (fun _ _ _ h => h) (Or.inl ⟨by rfl, ?_⟩) hHeld ?_
        rotate_left
        · (intro wq hSw; (try dsimp only at hSw); first | (go_simp; done) | (go_simp; with_reducible rfl))
        try simp only [Act.put, qa, qb, qc]
        refine wpAnyH_ready (rs := [4]) (by kernel_rfl) (by simp) ?_
        refine AllReadyH.cons (o := { dst := some 51, op := Op.call { callee := Callee.value (Operand.func 102), args := #[Operand.tmp 50], argTypes := #[135] }, type := 4, pos := "l02_state.go:333", after := #[{ on := 3, ground := Ground.data }], guard := none }) rfl (fun K hK => ?_) AllReadyH.nil
        go_simp
        go_at_call 102; refine (kc.out _ R2.out).mono ?_; rintro e w4 ⟨rfl, hb4⟩; have R4 := hide (R2.out.next hb4); have B4 := hide (below_then B2.out hb4)
        refine hK.out _ _ ?_ (fun hHeldN => ?_)
        · exact R4.out.cells1
        clear hK K hHeld
        have hHeld := hHeldN
        clear hHeldN
        try simp only [Act.put, qa, qb, qc]
        refine wpAnyH_take (i := 5) (oi := { dst := some 52, op := Op.move (Operand.tmp 51), type := 4, pos := "l02_state.go:333", after := #[{ on := 4, ground := Ground.data }, { on := 4, ground := Ground.chain }], guard := none }) (v := ?_) rfl (by kernel_rfl) (by kernel_rfl) (by kernel_rfl) (fun _ _ _ h => h) (Or.inl ⟨by rfl, ?_⟩) hHeld ?_
        rotate_left
        · (intro wq hSw; (try dsimp only at hSw); first | (go_simp; done) | (go_simp; with_reducible rfl))
        try simp only [Act.put, qa, qb, qc]
        refine wpAnyH_take (i := 6) (oi := { dst := some 53, op := Op.move (Operand.tmp 6), type := 139, pos := "l02_state.go:333", after := #[{ on := 5, ground := Ground.guard }], guard := some (5, true) }) (v := ?_) rfl (by kernel_rfl) (by kernel_rfl) (by kernel_rfl) (fun _ _ _ h => h) (Or.inl ⟨by rfl, ?_⟩) hHeld ?_
        rotate_left
        · (intro wq hSw; (try dsimp only at hSw); first | (go_simp; done) | (go_simp; with_reducible rfl))
        try simp only [Act.put, qa, qb, qc]
        refine wpAnyH_take (i := 7) (oi := { dst := some 54, op := Op.nilCheck (Operand.tmp 53), type := 0, pos := "l02_state.go:333", after := #[{ on := 6, ground := Ground.data }, { on := 5, ground := Ground.guard }], guard := some (5, true) }) (v := ?_) rfl (by kernel_rfl) (by kernel_rfl) (by kernel_rfl) (fun _ _ _ h => h) (Or.inl ⟨by rfl, ?_⟩) hHeld ?_
        rotate_left
        · (intro wq hSw; (try dsimp only at hSw); first | (go_simp; done) | (go_simp; with_reducible rfl))
        try simp only [Act.put, qa, qb, qc]
        refine wpAnyH_take (i := 8) (oi := { dst := some 55, op := Op.fieldAddr 141 (Operand.tmp 54) 1, type := 0, pos := "l02_state.go:333", after := #[{ on := 7, ground := Ground.data }, { on := 5, ground := Ground.guard }], guard := some (5, true) }) (v := ?_) rfl (by kernel_rfl) (by kernel_rfl) (by kernel_rfl) (fun _ _ _ h => h) (Or.inl ⟨by rfl, ?_⟩) hHeld ?_
        rotate_left
        · (intro wq hSw; (try dsimp only at hSw); first | (go_simp; done) | (go_simp; with_reducible rfl))
        try simp only [Act.put, qa, qb, qc]
        refine wpAnyH_take (i := 9) (oi := { dst := some 56, op := Op.load 22 (Operand.tmp 55), type := 22, pos := "l02_state.go:333", after := #[{ on := 8, ground := Ground.data }, { on := 5, ground := Ground.guard }], guard := some (5, true) }) (v := ?_) rfl (by kernel_rfl) (by kernel_rfl) (by kernel_rfl) (fun _ _ _ h => h) (Or.inl ⟨by rfl, ?_⟩) hHeld ?_
        rotate_left
        · (intro wq hSw; (try dsimp only at hSw); first | (go_simp; done) | (go_simp; with_reducible rfl))
        try simp only [Act.put, qa, qb, qc]
        refine wpAnyH_take (i := 10) (oi := { dst := some 57, op := Op.call { callee := Callee.builtin Builtin.len, args := #[Operand.tmp 56], argTypes := #[22] }, type := 3, pos := "l02_state.go:333", after := #[{ on := 9, ground := Ground.data }, { on := 5, ground := Ground.guard }], guard := some (5, true) }) (v := ?_) rfl (by kernel_rfl) (by kernel_rfl) (by kernel_rfl) (fun _ _ _ h => h) (Or.inl ⟨by rfl, ?_⟩) hHeld ?_
        rotate_left
        · (intro wq hSw; (try dsimp only at hSw); first | (go_simp; done) | (go_simp; with_reducible rfl))
        try simp only [Act.put, qa, qb, qc]
        refine wpAnyH_take (i := 11) (oi := { dst := some 58, op := Op.move (Operand.tmp 6), type := 139, pos := "l02_state.go:333", after := #[{ on := 5, ground := Ground.guard }], guard := some (5, true) }) (v := ?_) rfl (by kernel_rfl) (by kernel_rfl) (by kernel_rfl) (fun _ _ _ h => h) (Or.inl ⟨by rfl, ?_⟩) hHeld ?_
        rotate_left
        · (intro wq hSw; (try dsimp only at hSw); first | (go_simp; done) | (go_simp; with_reducible rfl))
        try simp only [Act.put, qa, qb, qc]
        refine wpAnyH_take (i := 12) (oi := { dst := some 59, op := Op.nilCheck (Operand.tmp 58), type := 0, pos := "l02_state.go:333", after := #[{ on := 11, ground := Ground.data }, { on := 5, ground := Ground.guard }], guard := some (5, true) }) (v := ?_) rfl (by kernel_rfl) (by kernel_rfl) (by kernel_rfl) (fun _ _ _ h => h) (Or.inl ⟨by rfl, ?_⟩) hHeld ?_
        rotate_left
        · (intro wq hSw; (try dsimp only at hSw); first | (go_simp; done) | (go_simp; with_reducible rfl))
        try simp only [Act.put, qa, qb, qc]
        refine wpAnyH_take (i := 13) (oi := { dst := some 60, op := Op.fieldAddr 141 (Operand.tmp 59) 0, type := 0, pos := "l02_state.go:333", after := #[{ on := 12, ground := Ground.data }, { on := 5, ground := Ground.guard }], guard := some (5, true) }) (v := ?_) rfl (by kernel_rfl) (by kernel_rfl) (by kernel_rfl) (fun _ _ _ h => h) (Or.inl ⟨by rfl, ?_⟩) hHeld ?_
        rotate_left
        · (intro wq hSw; (try dsimp only at hSw); first | (go_simp; done) | (go_simp; with_reducible rfl))
        try simp only [Act.put, qa, qb, qc]
        refine wpAnyH_take (i := 14) (oi := { dst := some 61, op := Op.load 135 (Operand.tmp 60), type := 135, pos := "l02_state.go:333", after := #[{ on := 13, ground := Ground.data }, { on := 5, ground := Ground.guard }], guard := some (5, true) }) (v := ?_) rfl (by kernel_rfl) (by kernel_rfl) (by kernel_rfl) (fun _ _ _ h => h) (Or.inl ⟨by rfl, ?_⟩) hHeld ?_
        rotate_left
        · (intro wq hSw; (try dsimp only at hSw); first | (go_simp; done) | (go_simp; with_reducible rfl))
        try simp only [Act.put, qa, qb, qc]
        refine wpAnyH_ready (rs := [15]) (by kernel_rfl) (by simp) ?_
        refine AllReadyH.cons (o := { dst := some 62, op := Op.call { callee := Callee.value (Operand.func 103), args := #[Operand.tmp 61], argTypes := #[135] }, type := 3, pos := "l02_state.go:333", after := #[{ on := 14, ground := Ground.data }, { on := 5, ground := Ground.chain }, { on := 5, ground := Ground.guard }], guard := some (5, true) }) rfl (fun K hK => ?_) AllReadyH.nil
        go_simp
        go_at_call 103; refine (comCells_any _ _ _ _ _ _ _ _ _ _ _ _ _).mono ?_; rintro e w5 ⟨rfl, hb5⟩; have R5 := hide (R4.out.next hb5); have B5 := hide (below_then B4.out hb5)
        refine hK.out _ _ ?_ (fun hHeldN => ?_)
        · exact R5.out.cells1
        clear hK K hHeld
        have hHeld := hHeldN
        clear hHeldN
        try simp only [Act.put, qa, qb, qc]
        refine wpAnyH_take (i := 16) (oi := { dst := some 63, op := Op.binOp BinOp.eql 3 (Operand.tmp 57) (Operand.tmp 62) 3, type := 4, pos := "l02_state.go:333", after := #[{ on := 10, ground := Ground.data }, { on := 15, ground := Ground.data }, { on := 5, ground := Ground.guard }], guard := some (5, true) }) (v := ?_) rfl (by kernel_rfl) (by kernel_rfl) (by kernel_rfl) (fun _ _ _ h => h) (Or.inl ⟨by rfl, ?_⟩) hHeld ?_
        rotate_left
        · (intro wq hSw; (try dsimp only at hSw); first | (go_simp; done) | (go_simp; with_reducible rfl))
        try simp only [Act.put, qa, qb, qc]
        refine wpAnyH_take (i := 17) (oi := { dst := some 64, op := Op.pick (Operand.tmp 52) (Operand.tmp 63) (Operand.const (Value.bool false)), type := 4, pos := "l02_state.go:333", after := #[{ on := 5, ground := Ground.data }, { on := 16, ground := Ground.data }], guard := none }) (v := ?_) rfl (by kernel_rfl) (by kernel_rfl) (by kernel_rfl) (fun _ _ _ h => h) (Or.inl ⟨by rfl, ?_⟩) hHeld ?_
        rotate_left
        · (intro wq hSw; (try dsimp only at hSw); first | (go_simp; done) | (go_simp; with_reducible rfl))
        try simp only [Act.put, qa, qb, qc]
        refine wpAnyH_take (i := 18) (oi := { dst := some 65, op := Op.move (Operand.tmp 64), type := 4, pos := "l02_state.go:333", after := #[{ on := 17, ground := Ground.data }, { on := 15, ground := Ground.chain }], guard := none }) (v := ?_) rfl (by kernel_rfl) (by kernel_rfl) (by kernel_rfl) (fun _ _ _ h => h) (Or.inl ⟨by rfl, ?_⟩) hHeld ?_
        rotate_left
        · (intro wq hSw; (try dsimp only at hSw); first | (go_simp; done) | (go_simp; with_reducible rfl))
        try simp only [Act.put, qa, qb, qc]
        refine wpAnyH_take (i := 19) (oi := { dst := some 66, op := Op.move (Operand.tmp 6), type := 139, pos := "l02_state.go:333", after := #[{ on := 18, ground := Ground.guard }], guard := some (18, true) }) (v := ?_) rfl (by kernel_rfl) (by kernel_rfl) (by kernel_rfl) (fun _ _ _ h => h) (Or.inl ⟨by rfl, ?_⟩) hHeld ?_
        rotate_left
        · (intro wq hSw; (try dsimp only at hSw); first | (go_simp; done) | (go_simp; with_reducible rfl))
        try simp only [Act.put, qa, qb, qc]
        refine wpAnyH_take (i := 20) (oi := { dst := some 67, op := Op.nilCheck (Operand.tmp 66), type := 0, pos := "l02_state.go:333", after := #[{ on := 19, ground := Ground.data }, { on := 18, ground := Ground.guard }], guard := some (18, true) }) (v := ?_) rfl (by kernel_rfl) (by kernel_rfl) (by kernel_rfl) (fun _ _ _ h => h) (Or.inl ⟨by rfl, ?_⟩) hHeld ?_
        rotate_left
        · (intro wq hSw; (try dsimp only at hSw); first | (go_simp; done) | (go_simp; with_reducible rfl))
        try simp only [Act.put, qa, qb, qc]
        refine wpAnyH_take (i := 21) (oi := { dst := some 68, op := Op.load 141 (Operand.tmp 67), type := 141, pos := "l02_state.go:333", after := #[{ on := 20, ground := Ground.data }, { on := 18, ground := Ground.guard }], guard := some (18, true) }) (v := ?_) rfl (by kernel_rfl) (by kernel_rfl) (by kernel_rfl) (fun _ _ _ h => h) (Or.inl ⟨by rfl, ?_⟩) hHeld ?_
        rotate_left
        · (intro wq hSw; (try dsimp only at hSw); first | (go_simp; done) | (go_simp; with_reducible rfl))
        try simp only [Act.put, qa, qb, qc]
        refine wpAnyH_ready (rs := [22]) (by kernel_rfl) (by simp) ?_
        refine AllReadyH.cons (o := { dst := some 69, op := Op.call { callee := Callee.value (Operand.func 106), args := #[Operand.tmp 68], argTypes := #[139] }, type := 4, pos := "l02_state.go:333", after := #[{ on := 21, ground := Ground.data }, { on := 18, ground := Ground.chain }, { on := 18, ground := Ground.guard }], guard := some (18, true) }) rfl (fun K hK => ?_) AllReadyH.nil
        go_simp
        go_at_call 106; refine (kb.out _ R5.out).mono ?_; rintro e w6 ⟨rfl, hb6⟩; have R6 := hide (R5.out.next hb6); have B6 := hide (below_then B5.out hb6)
        refine hK.out _ _ ?_ (fun hHeldN => ?_)
        · exact R6.out.cells1
        clear hK K hHeld
        have hHeld := hHeldN
        clear hHeldN
        try simp only [Act.put, qa, qb, qc]
        refine wpAnyH_take (i := 23) (oi := { dst := some 70, op := Op.pick (Operand.tmp 65) (Operand.tmp 69) (Operand.const (Value.bool false)), type := 4, pos := "l02_state.go:333", after := #[{ on := 18, ground := Ground.data }, { on := 22, ground := Ground.data }], guard := none }) (v := ?_) rfl (by kernel_rfl) (by kernel_rfl) (by kernel_rfl) (fun _ _ _ h => h) (Or.inl ⟨by rfl, ?_⟩) hHeld ?_
        rotate_left
        · (intro wq hSw; (try dsimp only at hSw); first | (go_simp; done) | (go_simp; with_reducible rfl))
        try simp only [Act.put, qa, qb, qc]
        refine wpAnyH_take (i := 24) (oi := { dst := some 71, op := Op.move (Operand.tmp 70), type := 4, pos := "l02_state.go:333", after := #[{ on := 23, ground := Ground.data }, { on := 22, ground := Ground.chain }], guard := none }) (v := ?_) rfl (by kernel_rfl) (by kernel_rfl) (by kernel_rfl) (fun _ _ _ h => h) (Or.inl ⟨by rfl, ?_⟩) hHeld ?_
        rotate_left
        · (intro wq hSw; (try dsimp only at hSw); first | (go_simp; done) | (go_simp; with_reducible rfl))
        try simp only [Act.put, qa, qb, qc]
        refine wpAnyH_take (i := 25) (oi := { dst := some 72, op := Op.load 48 (Operand.tmp 3), type := 48, pos := "l02_state.go:333", after := #[{ on := 24, ground := Ground.guard }], guard := some (24, true) }) (v := ?_) rfl (by kernel_rfl) (by kernel_rfl) (by kernel_rfl) (fun _ _ _ h => h) (Or.inl ⟨by rfl, ?_⟩) hHeld ?_
        rotate_left
        · (intro wq hSw; (try dsimp only at hSw); first | (go_simp; done) | (go_simp; with_reducible rfl))
        try simp only [Act.put, qa, qb, qc]
        refine wpAnyH_ready (rs := [26]) (by kernel_rfl) (by simp) ?_
        refine AllReadyH.cons (o := { dst := some 73, op := Op.call { callee := Callee.value (Operand.func 105), args := #[Operand.tmp 72], argTypes := #[48] }, type := 4, pos := "l02_state.go:333", after := #[{ on := 25, ground := Ground.data }, { on := 24, ground := Ground.chain }, { on := 24, ground := Ground.guard }], guard := some (24, true) }) rfl (fun K hK => ?_) AllReadyH.nil
        go_simp
        go_at_call 105; refine (nV.out _).mono ?_; rintro e w7 ⟨rfl, hb7⟩; have R7 := hide (R6.out.next hb7); have B7 := hide (below_then B6.out hb7)
        refine hK.out _ _ ?_ (fun hHeldN => ?_)
        · exact R7.out.cells1
        clear hK K hHeld
        have hHeld := hHeldN
        clear hHeldN
        try simp only [Act.put, qa, qb, qc]
        refine wpAnyH_take (i := 27) (oi := { dst := some 74, op := Op.pick (Operand.tmp 71) (Operand.tmp 73) (Operand.const (Value.bool false)), type := 4, pos := "l02_state.go:333", after := #[{ on := 24, ground := Ground.data }, { on := 26, ground := Ground.data }], guard := none }) (v := ?_) rfl (by kernel_rfl) (by kernel_rfl) (by kernel_rfl) (fun _ _ _ h => h) (Or.inl ⟨by rfl, ?_⟩) hHeld ?_
        rotate_left
        · (intro wq hSw; (try dsimp only at hSw); first | (go_simp; done) | (go_simp; with_reducible rfl))
        try simp only [Act.put, qa, qb, qc]
        refine wpAnyH_take (i := 28) (oi := { dst := some 4, op := Op.assign (Operand.tmp 74), type := 4, pos := "l02_state.go:333", after := #[{ on := 27, ground := Ground.data }, { on := 26, ground := Ground.chain }, { on := 0, ground := Ground.phase }, { on := 1, ground := Ground.phase }, { on := 2, ground := Ground.phase }, { on := 3, ground := Ground.phase }, { on := 4, ground := Ground.phase }, { on := 5, ground := Ground.phase }, { on := 6, ground := Ground.phase }, { on := 7, ground := Ground.phase }, { on := 8, ground := Ground.phase }, { on := 9, ground := Ground.phase }, { on := 10, ground := Ground.phase }, { on := 11, ground := Ground.phase }, { on := 12, ground := Ground.phase }, { on := 13, ground := Ground.phase }, { on := 14, ground := Ground.phase }, { on := 15, ground := Ground.phase }, { on := 16, ground := Ground.phase }, { on := 17, ground := Ground.phase }, { on := 18, ground := Ground.phase }, { on := 19, ground := Ground.phase }, { on := 20, ground := Ground.phase }, { on := 21, ground := Ground.phase }, { on := 22, ground := Ground.phase }, { on := 23, ground := Ground.phase }, { on := 24, ground := Ground.phase }, { on := 25, ground := Ground.phase }, { on := 26, ground := Ground.phase }, { on := 27, ground := Ground.phase }], guard := none }) (v := ?_) rfl (by kernel_rfl) (by kernel_rfl) (by kernel_rfl) (fun _ _ _ h => h) (Or.inl ⟨by rfl, ?_⟩) hHeld ?_
        rotate_left
        · (intro wq hSw; (try dsimp only at hSw); first | (go_simp; done) | (go_simp; with_reducible rfl))
        try simp only [Act.put, qa, qb, qc]
        refine wpAnyH_done (by kernel_rfl) ?_ _
        go_wp2_with fail
        go_ret
        exact ⟨ret_bool (hE.out.trans rfl).symm, B7.out⟩
    · have hm' : ((s.mem.n : Int) == (p.init.length : Int)) = false := by rw [beq_eq_false_iff_ne]; omega
      have hm2 : decide (s.mem.n = p.init.length) = false := decide_eq_false hm
      rw [hm2] at hE
      clear hm hm2
      refine wp_region_held_drew (S := (fun w' => (w'.cell? ⟨T, 0, none⟩ = some (.slice A1 p.init.length c1) ∧ w'.cell? ⟨T, 1, none⟩ = some (.slice A2 p.ts.length c2) ∧ w'.cell? ⟨T, 2, none⟩ = some (.slice s.pc.A s.pc.n s.pc.c) ∧ w'.cell? ⟨T, 3, none⟩ = some (.slice s.F.A s.F.n s.F.c) ∧ w'.cell? ⟨T, 4, none⟩ = some (.slice s.mem.A s.mem.n s.mem.c) ∧ w'.cell? ⟨T, 5, none⟩ = some (.slice s.bufs.A s.bufs.n s.bufs.c)) ∧ w'.cell? ⟨(w.heap.size + 1), 0, none⟩ = some (.int .i64 1) ∧ w'.cell? ⟨(w.heap.size + 1), 1, none⟩ = some (.slice s.pc.A s.pc.n s.pc.c) ∧ w'.cell? ⟨(w.heap.size + 1), 2, none⟩ = some (.slice s.F.A s.F.n s.F.c) ∧ w'.cell? ⟨(w.heap.size + 1), 3, none⟩ = some (.slice s.mem.A s.mem.n s.mem.c) ∧ w'.cell? ⟨(w.heap.size + 1), 4, none⟩ = some (.slice s.bufs.A s.bufs.n s.bufs.c) ∧ w'.cell? ⟨(w.heap.size + 1), 5, none⟩ = some (.slice s.H.A s.H.n s.H.c) ∧ w'.cell? ⟨(w.heap.size + 1), 6, none⟩ = some (.slice s.view.A s.view.n s.view.c) ∧ w'.cell? ⟨(w.heap.size + 1), 7, none⟩ = some (.slice s.sc.A s.sc.n s.sc.c) ∧ w'.cell? ⟨(w.heap.size + 1), 8, none⟩ = some (.int .i64 s.next))) (by kernel_rfl) ?_ (fun hHeld => ?_)
      · exact R2.out.cells1
      refine wpAnyH_take (i := 0) (oi := { dst := some 47, op := Op.move (Operand.tmp 6), type := 139, pos := "l02_state.go:333", after := #[], guard := none }) (v := ?_) rfl (by kernel_rfl) (by kernel_rfl) (by kernel_rfl) (fun _ _ _ h => h) (Or.inl ⟨by rfl, ?_⟩) hHeld ?_
      rotate_left
      · (intro wq hSw; (try dsimp only at hSw); first | (go_simp; done) | (go_simp; with_reducible rfl))
      try simp only [Act.put, qa, qb, qc]
      refine wpAnyH_take (i := 1) (oi := { dst := some 48, op := Op.nilCheck (Operand.tmp 47), type := 0, pos := "l02_state.go:333", after := #[{ on := 0, ground := Ground.data }], guard := none }) (v := ?_) rfl (by kernel_rfl) (by kernel_rfl) (by kernel_rfl) (fun _ _ _ h => h) (Or.inl ⟨by rfl, ?_⟩) hHeld ?_
      rotate_left
      · (intro wq hSw; (try dsimp only at hSw); first | (go_simp; done) | (go_simp; with_reducible rfl))
      try simp only [Act.put, qa, qb, qc]
      refine wpAnyH_take (i := 2) (oi := { dst := some 49, op := Op.fieldAddr 141 (Operand.tmp 48) 0, type := 0, pos := "l02_state.go:333", after := #[{ on := 1, ground := Ground.data }], guard := none }) (v := ?_) rfl (by kernel_rfl) (by kernel_rfl) (by kernel_rfl) (fun _ _ _ h => h) (Or.inl ⟨by rfl, ?_⟩) hHeld ?_
      rotate_left
      · (intro wq hSw; (try dsimp only at hSw); first | (go_simp; done) | (go_simp; with_reducible rfl))
      try simp only [Act.put, qa, qb, qc]
      refine wpAnyH_take (i := 3) (oi := { dst := some 50, op := Op.load 135 (Operand.tmp 49), type := 135, pos := "l02_state.go:333", after := #[{ on := 2, ground := Ground.data }], guard := none }) (v := ?_) rfl (by kernel_rfl) (by kernel_rfl) (by kernel_rfl) (fun _ _ _ h => h) (Or.inl ⟨by rfl, ?_⟩) hHeld ?_
      rotate_left
      · (intro wq hSw; (try dsimp only at hSw); first | (go_simp; done) | (go_simp; with_reducible rfl))
      try simp only [Act.put, qa, qb, qc]
      refine wpAnyH_ready (rs := [4]) (by kernel_rfl) (by simp) ?_
      refine AllReadyH.cons (o := { dst := some 51, op := Op.call { callee := Callee.value (Operand.func 102), args := #[Operand.tmp 50], argTypes := #[135] }, type := 4, pos := "l02_state.go:333", after := #[{ on := 3, ground := Ground.data }], guard := none }) rfl (fun K hK => ?_) AllReadyH.nil
      go_simp
      go_at_call 102; refine (kc.out _ R2.out).mono ?_; rintro e w4 ⟨rfl, hb4⟩; have R4 := hide (R2.out.next hb4); have B4 := hide (below_then B2.out hb4)
      refine hK.out _ _ ?_ (fun hHeldN => ?_)
      · exact R4.out.cells1
      clear hK K hHeld
      have hHeld := hHeldN
      clear hHeldN
      try simp only [Act.put, qa, qb, qc]
      refine wpAnyH_take (i := 5) (oi := { dst := some 52, op := Op.move (Operand.tmp 51), type := 4, pos := "l02_state.go:333", after := #[{ on := 4, ground := Ground.data }, { on := 4, ground := Ground.chain }], guard := none }) (v := ?_) rfl (by kernel_rfl) (by kernel_rfl) (by kernel_rfl) (fun _ _ _ h => h) (Or.inl ⟨by rfl, ?_⟩) hHeld ?_
      rotate_left
      · (intro wq hSw; (try dsimp only at hSw); first | (go_simp; done) | (go_simp; with_reducible rfl))
      try simp only [Act.put, qa, qb, qc]
      refine wpAnyH_take (i := 6) (oi := { dst := some 53, op := Op.move (Operand.tmp 6), type := 139, pos := "l02_state.go:333", after := #[{ on := 5, ground := Ground.guard }], guard := some (5, true) }) (v := ?_) rfl (by kernel_rfl) (by kernel_rfl) (by kernel_rfl) (fun _ _ _ h => h) (Or.inl ⟨by rfl, ?_⟩) hHeld ?_
      rotate_left
      · (intro wq hSw; (try dsimp only at hSw); first | (go_simp; done) | (go_simp; with_reducible rfl))
      try simp only [Act.put, qa, qb, qc]
      refine wpAnyH_take (i := 7) (oi := { dst := some 54, op := Op.nilCheck (Operand.tmp 53), type := 0, pos := "l02_state.go:333", after := #[{ on := 6, ground := Ground.data }, { on := 5, ground := Ground.guard }], guard := some (5, true) }) (v := ?_) rfl (by kernel_rfl) (by kernel_rfl) (by kernel_rfl) (fun _ _ _ h => h) (Or.inl ⟨by rfl, ?_⟩) hHeld ?_
      rotate_left
      · (intro wq hSw; (try dsimp only at hSw); first | (go_simp; done) | (go_simp; with_reducible rfl))
      try simp only [Act.put, qa, qb, qc]
      refine wpAnyH_take (i := 8) (oi := { dst := some 55, op := Op.fieldAddr 141 (Operand.tmp 54) 1, type := 0, pos := "l02_state.go:333", after := #[{ on := 7, ground := Ground.data }, { on := 5, ground := Ground.guard }], guard := some (5, true) }) (v := ?_) rfl (by kernel_rfl) (by kernel_rfl) (by kernel_rfl) (fun _ _ _ h => h) (Or.inl ⟨by rfl, ?_⟩) hHeld ?_
      rotate_left
      · (intro wq hSw; (try dsimp only at hSw); first | (go_simp; done) | (go_simp; with_reducible rfl))
      try simp only [Act.put, qa, qb, qc]
      refine wpAnyH_take (i := 9) (oi := { dst := some 56, op := Op.load 22 (Operand.tmp 55), type := 22, pos := "l02_state.go:333", after := #[{ on := 8, ground := Ground.data }, { on := 5, ground := Ground.guard }], guard := some (5, true) }) (v := ?_) rfl (by kernel_rfl) (by kernel_rfl) (by kernel_rfl) (fun _ _ _ h => h) (Or.inl ⟨by rfl, ?_⟩) hHeld ?_
      rotate_left
      · (intro wq hSw; (try dsimp only at hSw); first | (go_simp; done) | (go_simp; with_reducible rfl))
      try simp only [Act.put, qa, qb, qc]
      refine wpAnyH_take (i := 10) (oi := { dst := some 57, op := Op.call { callee := Callee.builtin Builtin.len, args := #[Operand.tmp 56], argTypes := #[22] }, type := 3, pos := "l02_state.go:333", after := #[{ on := 9, ground := Ground.data }, { on := 5, ground := Ground.guard }], guard := some (5, true) }) (v := ?_) rfl (by kernel_rfl) (by kernel_rfl) (by kernel_rfl) (fun _ _ _ h => h) (Or.inl ⟨by rfl, ?_⟩) hHeld ?_
      rotate_left
      · (intro wq hSw; (try dsimp only at hSw); first | (go_simp; done) | (go_simp; with_reducible rfl))
      try simp only [Act.put, qa, qb, qc]
      refine wpAnyH_take (i := 11) (oi := { dst := some 58, op := Op.move (Operand.tmp 6), type := 139, pos := "l02_state.go:333", after := #[{ on := 5, ground := Ground.guard }], guard := some (5, true) }) (v := ?_) rfl (by kernel_rfl) (by kernel_rfl) (by kernel_rfl) (fun _ _ _ h => h) (Or.inl ⟨by rfl, ?_⟩) hHeld ?_
      rotate_left
      · (intro wq hSw; (try dsimp only at hSw); first | (go_simp; done) | (go_simp; with_reducible rfl))
      try simp only [Act.put, qa, qb, qc]
      refine wpAnyH_take (i := 12) (oi := { dst := some 59, op := Op.nilCheck (Operand.tmp 58), type := 0, pos := "l02_state.go:333", after := #[{ on := 11, ground := Ground.data }, { on := 5, ground := Ground.guard }], guard := some (5, true) }) (v := ?_) rfl (by kernel_rfl) (by kernel_rfl) (by kernel_rfl) (fun _ _ _ h => h) (Or.inl ⟨by rfl, ?_⟩) hHeld ?_
      rotate_left
      · (intro wq hSw; (try dsimp only at hSw); first | (go_simp; done) | (go_simp; with_reducible rfl))
      try simp only [Act.put, qa, qb, qc]
      refine wpAnyH_take (i := 13) (oi := { dst := some 60, op := Op.fieldAddr 141 (Operand.tmp 59) 0, type := 0, pos := "l02_state.go:333", after := #[{ on := 12, ground := Ground.data }, { on := 5, ground := Ground.guard }], guard := some (5, true) }) (v := ?_) rfl (by kernel_rfl) (by kernel_rfl) (by kernel_rfl) (fun _ _ _ h => h) (Or.inl ⟨by rfl, ?_⟩) hHeld ?_
      rotate_left
      · (intro wq hSw; (try dsimp only at hSw); first | (go_simp; done) | (go_simp; with_reducible rfl))
      try simp only [Act.put, qa, qb, qc]
      refine wpAnyH_take (i := 14) (oi := { dst := some 61, op := Op.load 135 (Operand.tmp 60), type := 135, pos := "l02_state.go:333", after := #[{ on := 13, ground := Ground.data }, { on := 5, ground := Ground.guard }], guard := some (5, true) }) (v := ?_) rfl (by kernel_rfl) (by kernel_rfl) (by kernel_rfl) (fun _ _ _ h => h) (Or.inl ⟨by rfl, ?_⟩) hHeld ?_
      rotate_left
      · (intro wq hSw; (try dsimp only at hSw); first | (go_simp; done) | (go_simp; with_reducible rfl))
      try simp only [Act.put, qa, qb, qc]
      refine wpAnyH_ready (rs := [15]) (by kernel_rfl) (by simp) ?_
      refine AllReadyH.cons (o := { dst := some 62, op := Op.call { callee := Callee.value (Operand.func 103), args := #[Operand.tmp 61], argTypes := #[135] }, type := 3, pos := "l02_state.go:333", after := #[{ on := 14, ground := Ground.data }, { on := 5, ground := Ground.chain }, { on := 5, ground := Ground.guard }], guard := some (5, true) }) rfl (fun K hK => ?_) AllReadyH.nil
      go_simp
      go_at_call 103; refine (comCells_any _ _ _ _ _ _ _ _ _ _ _ _ _).mono ?_; rintro e w5 ⟨rfl, hb5⟩; have R5 := hide (R4.out.next hb5); have B5 := hide (below_then B4.out hb5)
      refine hK.out _ _ ?_ (fun hHeldN => ?_)
      · exact R5.out.cells1
      clear hK K hHeld
      have hHeld := hHeldN
      clear hHeldN
      try simp only [Act.put, qa, qb, qc]
      refine wpAnyH_take (i := 16) (oi := { dst := some 63, op := Op.binOp BinOp.eql 3 (Operand.tmp 57) (Operand.tmp 62) 3, type := 4, pos := "l02_state.go:333", after := #[{ on := 10, ground := Ground.data }, { on := 15, ground := Ground.data }, { on := 5, ground := Ground.guard }], guard := some (5, true) }) (v := ?_) rfl (by kernel_rfl) (by kernel_rfl) (by kernel_rfl) (fun _ _ _ h => h) (Or.inl ⟨by rfl, ?_⟩) hHeld ?_
      rotate_left
      · (intro wq hSw; (try dsimp only at hSw); first | (go_simp; done) | (go_simp; with_reducible rfl))
      try simp only [Act.put, qa, qb, qc]
      refine wpAnyH_take (i := 17) (oi := { dst := some 64, op := Op.pick (Operand.tmp 52) (Operand.tmp 63) (Operand.const (Value.bool false)), type := 4, pos := "l02_state.go:333", after := #[{ on := 5, ground := Ground.data }, { on := 16, ground := Ground.data }], guard := none }) (v := ?_) rfl (by kernel_rfl) (by kernel_rfl) (by kernel_rfl) (fun _ _ _ h => h) (Or.inl ⟨by rfl, ?_⟩) hHeld ?_
      rotate_left
      · (intro wq hSw; (try dsimp only at hSw); first | (go_simp; done) | (go_simp; with_reducible rfl))
      try simp only [Act.put, qa, qb, qc]
      refine wpAnyH_take (i := 18) (oi := { dst := some 65, op := Op.move (Operand.tmp 64), type := 4, pos := "l02_state.go:333", after := #[{ on := 17, ground := Ground.data }, { on := 15, ground := Ground.chain }], guard := none }) (v := ?_) rfl (by kernel_rfl) (by kernel_rfl) (by kernel_rfl) (fun _ _ _ h => h) (Or.inl ⟨by rfl, ?_⟩) hHeld ?_
      rotate_left
      · (intro wq hSw; (try dsimp only at hSw); first | (go_simp; done) | (go_simp; with_reducible rfl))
      try simp only [Act.put, qa, qb, qc]
      refine wpAnyH_take (i := 19) (oi := { dst := some 66, op := Op.move (Operand.tmp 6), type := 139, pos := "l02_state.go:333", after := #[{ on := 18, ground := Ground.guard }], guard := some (18, true) }) (v := undef) rfl (by kernel_rfl) (by kernel_rfl) (by kernel_rfl) (fun _ _ _ h => h) (Or.inr ⟨by rfl, rfl⟩) hHeld ?_
      try simp only [Act.put, qa, qb, qc]
      refine wpAnyH_take (i := 20) (oi := { dst := some 67, op := Op.nilCheck (Operand.tmp 66), type := 0, pos := "l02_state.go:333", after := #[{ on := 19, ground := Ground.data }, { on := 18, ground := Ground.guard }], guard := some (18, true) }) (v := undef) rfl (by kernel_rfl) (by kernel_rfl) (by kernel_rfl) (fun _ _ _ h => h) (Or.inr ⟨by rfl, rfl⟩) hHeld ?_
      try simp only [Act.put, qa, qb, qc]
      refine wpAnyH_take (i := 21) (oi := { dst := some 68, op := Op.load 141 (Operand.tmp 67), type := 141, pos := "l02_state.go:333", after := #[{ on := 20, ground := Ground.data }, { on := 18, ground := Ground.guard }], guard := some (18, true) }) (v := undef) rfl (by kernel_rfl) (by kernel_rfl) (by kernel_rfl) (fun _ _ _ h => h) (Or.inr ⟨by rfl, rfl⟩) hHeld ?_
      try simp only [Act.put, qa, qb, qc]
      refine wpAnyH_take (i := 22) (oi := { dst := some 69, op := Op.call { callee := Callee.value (Operand.func 106), args := #[Operand.tmp 68], argTypes := #[139] }, type := 4, pos := "l02_state.go:333", after := #[{ on := 21, ground := Ground.data }, { on := 18, ground := Ground.chain }, { on := 18, ground := Ground.guard }], guard := some (18, true) }) (v := undef) rfl (by kernel_rfl) (by kernel_rfl) (by kernel_rfl) (fun _ _ _ h => h) (Or.inr ⟨by rfl, rfl⟩) hHeld ?_
      try simp only [Act.put, qa, qb, qc]
      refine wpAnyH_take (i := 23) (oi := { dst := some 70, op := Op.pick (Operand.tmp 65) (Operand.tmp 69) (Operand.const (Value.bool false)), type := 4, pos := "l02_state.go:333", after := #[{ on := 18, ground := Ground.data }, { on := 22, ground := Ground.data }], guard := none }) (v := ?_) rfl (by kernel_rfl) (by kernel_rfl) (by kernel_rfl) (fun _ _ _ h => h) (Or.inl ⟨by rfl, ?_⟩) hHeld ?_
      rotate_left
      · (intro wq hSw; (try dsimp only at hSw); first | (go_simp; done) | (go_simp; with_reducible rfl))
      try simp only [Act.put, qa, qb, qc]
      refine wpAnyH_take (i := 24) (oi := { dst := some 71, op := Op.move (Operand.tmp 70), type := 4, pos := "l02_state.go:333", after := #[{ on := 23, ground := Ground.data }, { on := 22, ground := Ground.chain }], guard := none }) (v := ?_) rfl (by kernel_rfl) (by kernel_rfl) (by kernel_rfl) (fun _ _ _ h => h) (Or.inl ⟨by rfl, ?_⟩) hHeld ?_
      rotate_left
      · (intro wq hSw; (try dsimp only at hSw); first | (go_simp; done) | (go_simp; with_reducible rfl))
      try simp only [Act.put, qa, qb, qc]
      refine wpAnyH_take (i := 25) (oi := { dst := some 72, op := Op.load 48 (Operand.tmp 3), type := 48, pos := "l02_state.go:333", after := #[{ on := 24, ground := Ground.guard }], guard := some (24, true) }) (v := undef) rfl (by kernel_rfl) (by kernel_rfl) (by kernel_rfl) (fun _ _ _ h => h) (Or.inr ⟨by rfl, rfl⟩) hHeld ?_
      try simp only [Act.put, qa, qb, qc]
      refine wpAnyH_take (i := 26) (oi := { dst := some 73, op := Op.call { callee := Callee.value (Operand.func 105), args := #[Operand.tmp 72], argTypes := #[48] }, type := 4, pos := "l02_state.go:333", after := #[{ on := 25, ground := Ground.data }, { on := 24, ground := Ground.chain }, { on := 24, ground := Ground.guard }], guard := some (24, true) }) (v := undef) rfl (by kernel_rfl) (by kernel_rfl) (by kernel_rfl) (fun _ _ _ h => h) (Or.inr ⟨by rfl, rfl⟩) hHeld ?_
      try simp only [Act.put, qa, qb, qc]
      refine wpAnyH_take (i := 27) (oi := { dst := some 74, op := Op.pick (Operand.tmp 71) (Operand.tmp 73) (Operand.const (Value.bool false)), type := 4, pos := "l02_state.go:333", after := #[{ on := 24, ground := Ground.data }, { on := 26, ground := Ground.data }], guard := none }) (v := ?_) rfl (by kernel_rfl) (by kernel_rfl) (by kernel_rfl) (fun _ _ _ h => h) (Or.inl ⟨by rfl, ?_⟩) hHeld ?_
      rotate_left
      · (intro wq hSw; (try dsimp only at hSw); first | (go_simp; done) | (go_simp; with_reducible rfl))
      try simp only [Act.put, qa, qb, qc]
      refine wpAnyH_take (i := 28) (oi := { dst := some 4, op := Op.assign (Operand.tmp 74), type := 4, pos := "l02_state.go:333", after := #[{ on := 27, ground := Ground.data }, { on := 26, ground := Ground.chain }, { on := 0, ground := Ground.phase }, { on := 1, ground := Ground.phase }, { on := 2, ground := Ground.phase }, { on := 3, ground := Ground.phase }, { on := 4, ground := Ground.phase }, { on := 5, ground := Ground.phase }, { on := 6, ground := Ground.phase }, { on := 7, ground := Ground.phase }, { on := 8, ground := Ground.phase }, { on := 9, ground := Ground.phase }, { on := 10, ground := Ground.phase }, { on := 11, ground := Ground.phase }, { on := 12, ground := Ground.phase }, { on := 13, ground := Ground.phase }, { on := 14, ground := Ground.phase }, { on := 15, ground := Ground.phase }, { on := 16, ground := Ground.phase }, { on := 17, ground := Ground.phase }, { on := 18, ground := Ground.phase }, { on := 19, ground := Ground.phase }, { on := 20, ground := Ground.phase }, { on := 21, ground := Ground.phase }, { on := 22, ground := Ground.phase }, { on := 23, ground := Ground.phase }, { on := 24, ground := Ground.phase }, { on := 25, ground := Ground.phase }, { on := 26, ground := Ground.phase }, { on := 27, ground := Ground.phase }], guard := none }) (v := ?_) rfl (by kernel_rfl) (by kernel_rfl) (by kernel_rfl) (fun _ _ _ h => h) (Or.inl ⟨by rfl, ?_⟩) hHeld ?_
      rotate_left
      · (intro wq hSw; (try dsimp only at hSw); first | (go_simp; done) | (go_simp; with_reducible rfl))
      try simp only [Act.put, qa, qb, qc]
      refine wpAnyH_done (by kernel_rfl) ?_ _
      go_wp2_with fail
      go_ret
      exact ⟨ret_bool (hE.out.trans rfl).symm, B5.out⟩
end Go.Proofs.Ytfkaacfeikmabaa
