/- The program's accountByKids. -/
import Derived.Test.YtfnphnjadknoaaaMp0
import Derived.Test.YtfnphnjadknoaaaMp15
import Derived.Test.YtfnphnjadknoaaaMp17
namespace Go.Proofs.Ytfnphnjadknoaaa
open Go.RowKit

theorem box4 {w : World} {g : Nat} {t : TypeId} {a0 a1 a2 a3 : Value} (h : Blk w g t #[a0, a1, a2, a3]) :
    (w.cell? ⟨g, 0, none⟩ = some a0 ∧ w.cell? ⟨g, 1, none⟩ = some a1 ∧ w.cell? ⟨g, 2, none⟩ = some a2 ∧ w.cell? ⟨g, 3, none⟩ = some a3) ∧ g < w.heap.size :=
  ⟨⟨h.cell 0, h.cell 1, h.cell 2, h.cell 3⟩, h.lt⟩
theorem cell_new {w : World} {q o : Nat} {v : Value} (obj : Obj) (h : w.cell? ⟨q, o, none⟩ = some v) : (w.alloc obj).cell? ⟨q, o, none⟩ = some v := (World.cell?_alloc_some w _ obj (by rw [h]; rfl)).trans h
theorem cell_drew {w : World} {a : Addr} {v : Value} (h : w.cell? a = some v) : w.drew.cell? a = some v := h
theorem cell_off {w : World} {q i k : Nat} {v u : Value} (h : w.cell? ⟨q, i, none⟩ = some v) (hne : i ≠ k) : (w.setCell ⟨q, k, none⟩ u).cell? ⟨q, i, none⟩ = some v :=
  (World.cell?_setCell_other w ⟨q, k, none⟩ ⟨q, i, none⟩ u (by intro e; cases e; exact hne rfl)).trans h
def accK (p : PoolD) (j : Nat) : Value :=
  if getb p.ran j then
    (if leftN p.dn (getj p.js j).ks = 0 then accV true 0 (sumF p.dn p.vl (getj p.js j).ks) (worth (getj p.js j).v (sumF p.dn p.vl (getj p.js j).ks))
     else accV false (leftN p.dn (getj p.js j).ks : Nat) (sumF p.dn p.vl (getj p.js j).ks) 0)
  else accV false 0 0 0
set_option maxRecDepth 100000 in
set_option maxHeartbeats 6400000 in
theorem accountByKids_no (S : Nat → Prop) (g qp : Nat) (a : PA) (p : PoolD) (w : World) (hlen : Hid (LenP p)) (j : Nat) (hj : j < p.js.length) (h : CrewR w S g qp a p) (hr : getb p.ran j = false) :
    Calls Try.prog 103 #[.pointer (some ⟨g, 0, none⟩), .int .i64 j] w fun e w' => e = .returned (accV false 0 0 0) ∧ Below w.heap.size w w' := by
  unfold accV
  have hb1 := below1 w (Obj.cells #[.bool false, .int .i64 0, .int .i64 0, .int .i64 0] 129)
  have R0 := Blk.new w 129 #[.bool false, .int .i64 0, .int .i64 0, .int .i64 0]
  have h0 := h.next hb1
  obtain ⟨w0, hw0⟩ : ∃ w0, w0 = w.alloc (Obj.cells #[.bool false, .int .i64 0, .int .i64 0, .int .i64 0] 129) := ⟨_, rfl⟩
  rw [← hw0] at hb1 R0 h0
  obtain ⟨r0, r1, r2, r3⟩ := (show w0.cell? ⟨w.heap.size, 0, none⟩ = some (.bool false) ∧ w0.cell? ⟨w.heap.size, 1, none⟩ = some (.int .i64 0) ∧ w0.cell? ⟨w.heap.size, 2, none⟩ = some (.int .i64 0) ∧ w0.cell? ⟨w.heap.size, 3, none⟩ = some (.int .i64 0) from ⟨R0.cell 0, R0.cell 1, R0.cell 2, R0.cell 3⟩)
  obtain ⟨s0, s1, s2, s3⟩ := (show w0.frozen? ⟨w.heap.size, 0, none⟩ = false ∧ w0.frozen? ⟨w.heap.size, 1, none⟩ = false ∧ w0.frozen? ⟨w.heap.size, 2, none⟩ = false ∧ w0.frozen? ⟨w.heap.size, 3, none⟩ = false from ⟨R0.frozen 0, R0.frozen 1, R0.frozen 2, R0.frozen 3⟩)
  have rl := R0.lt
  have e2 := hlen.out.ran
  obtain ⟨⟨-, -, x2, -, -, -, -, -⟩, xl⟩ := box8 h0.box
  obtain ⟨b2, o2, eA2, -, xr⟩ := h0.pool.ran.at_ (k := j) (by omega)
  rw [eA2] at x2
  rw [hr] at xr
  have m2 : (j : Int) < p.ran.length := by omega
  replace hb1 := hide hb1
  clear h h0 R0 eA2 e2 hr
  go_enter Try.func103, Try.ntmps103
  go_upto_region 1 with fail
  rw [← hw0]
  clear hw0
  go_wp2_with fail
  refine bodyPost_ret (v := .agg #[.bool false, .int .i64 0, .int .i64 0, .int .i64 0]) (by simp [results, Try.results103, go_sem, r0, r1, r2, r3]; done) rfl ⟨rfl, ?_⟩
  exact (((hb1.out.setCell (p := ⟨w.heap.size, 0, none⟩) (Nat.le_refl _) _).setCell (p := ⟨w.heap.size, 1, none⟩) (Nat.le_refl _) _).setCell (p := ⟨w.heap.size, 2, none⟩) (Nat.le_refl _) _).setCell (p := ⟨w.heap.size, 3, none⟩) (Nat.le_refl _) _
set_option maxRecDepth 100000 in
set_option maxHeartbeats 12800000 in
theorem accountByKids_yes (S : Nat → Prop) (g qp : Nat) (a : PA) (p : PoolD) (w : World) (hT : Hid (Tree p.js)) (hlen : Hid (LenP p)) (hsz : Hid (∀ k, (getj p.js k).ks.length ≤ 1048576)) (j : Nat) (hj : j < p.js.length) (h : CrewR w S g qp a p) (hr : getb p.ran j = true) :
    Calls Try.prog 103 #[.pointer (some ⟨g, 0, none⟩), .int .i64 j] w fun e w' => e = .returned (if leftN p.dn (getj p.js j).ks = 0 then accV true 0 (sumF p.dn p.vl (getj p.js j).ks) (worth (getj p.js j).v (sumF p.dn p.vl (getj p.js j).ks))
     else accV false (leftN p.dn (getj p.js j).ks : Nat) (sumF p.dn p.vl (getj p.js j).ks) 0) ∧ Below w.heap.size w w' := by
  unfold accV
  have h30 := hT.out.top
  have hkn := hsz.out j
  have hb1 := below1 w (Obj.cells #[.bool false, .int .i64 0, .int .i64 0, .int .i64 0] 129)
  have R0 := Blk.new w 129 #[.bool false, .int .i64 0, .int .i64 0, .int .i64 0]
  have h0 := h.next hb1
  obtain ⟨w0, hw0⟩ : ∃ w0, w0 = w.alloc (Obj.cells #[.bool false, .int .i64 0, .int .i64 0, .int .i64 0] 129) := ⟨_, rfl⟩
  rw [← hw0] at hb1 R0 h0
  have hb2 := below1 w0 (Obj.cells #[.bool false, .int .i64 0, .int .i64 0, .int .i64 0] 129)
  have A0 := Blk.new w0 129 #[.bool false, .int .i64 0, .int .i64 0, .int .i64 0]
  have R1 := R0.below hb2 R0.lt
  have B1 := hb1.alloc hb1.size (Obj.cells #[.bool false, .int .i64 0, .int .i64 0, .int .i64 0] 129)
  obtain ⟨w1, hw1⟩ : ∃ w1, w1 = w0.alloc (Obj.cells #[.bool false, .int .i64 0, .int .i64 0, .int .i64 0] 129) := ⟨_, rfl⟩
  rw [← hw1] at hb2 A0 R1 B1
  have hRA := R0.lt
  obtain ⟨A, hA⟩ : ∃ A, A = w0.heap.size := ⟨_, rfl⟩
  rw [← hA] at A0 hRA
  have hj' : (j : Int) < p.js.length := by omega
  have e2 := hlen.out.ran
  have e3 := hlen.out.dn
  have e6 := hlen.out.vl
  have m2 : (j : Int) < p.ran.length := by omega
  obtain ⟨⟨-, -, x2, -, -, -, -, -⟩, xl⟩ := box8 h0.box
  obtain ⟨b2, o2, eA2, -, xr⟩ := h0.pool.ran.at_ (k := j) (by omega)
  rw [eA2] at x2
  rw [hr] at xr
  obtain ⟨b0, o0, eA0, lb0, zv0, AK, cK, zk0, -, hkI⟩ := h.pool.jobs.at_ hj
  have hgl := h.box.lt
  have hbl := h.lt b0 lb0
  obtain ⟨⟨y0, -, -, -, -, -, -, -⟩, yl⟩ := box8 (h.next B1).box
  rw [eA0] at y0
  have yk : w1.cell? ⟨b0, o0 + j * 2 + 1, none⟩ = some (.slice AK (getj p.js j).ks.length cK) := (B1.cell (p := ⟨b0, o0 + j * 2 + 1, none⟩) hbl).trans zk0
  have kV := hide (fun (s : Int) (w : World) => value_any (getj p.js j).v s (.slice AK (getj p.js j).ks.length cK) w ⟨_, _, _, rfl⟩)
  have hkid := hide (fun k (hk : k < (getj p.js j).ks.length) => hT.out.kid j hj k hk)
  replace h := hide h
  replace hkI := hide hkI
  replace A0 := hide A0
  replace R1 := hide R1
  replace B1 := hide B1
  have nGA : g ≠ A := by omega
  have nBA : b0 ≠ A := by omega
  have hwA : w.heap.size ≤ A := by omega
  replace zv0 := hide zv0
  replace zk0 := hide zk0
  obtain ⟨ks, hks⟩ : ∃ ks, ks = (getj p.js j).ks := ⟨_, rfl⟩
  rw [← hks] at hkn hkI hkid kV zk0 yk ⊢
  obtain ⟨vj, hvj⟩ : ∃ z, z = (getj p.js j).v := ⟨_, rfl⟩
  rw [← hvj] at kV zv0 ⊢
  obtain ⟨res, hres⟩ : ∃ res, res = (if leftN p.dn ks = 0 then Value.agg #[.bool true, .int .i64 0, .int .i64 (sumF p.dn p.vl ks), .int .i64 (worth vj (sumF p.dn p.vl ks))] else .agg #[.bool false, .int .i64 (leftN p.dn ks : Nat), .int .i64 (sumF p.dn p.vl ks), .int .i64 0]) := ⟨_, rfl⟩
  rw [← hres]
  replace hks := hide hks
  replace hvj := hide hvj
  replace hres := hide hres
  clear h0 R0 eA2 hr hb1 hb2
  go_enter Try.func103, Try.ntmps103
  go_upto_region 1 with fail
  rw [← hw0]
  clear hw0
  go_upto_region 4 with fail
  rw [← hw1, ← hA]
  clear hw1 x2 xr
  replace hA := hide hA
  go_wp2_with fail
  go_loopw [28] (fun i wr => ∃ k : Nat, k ≤ ks.length ∧ i = .int .i64 k ∧ Hid (Blk wr A 129 #[.bool false, .int .i64 (leftN p.dn (ks.take k) : Nat), .int .i64 (sumF p.dn p.vl (ks.take k)), .int .i64 0]) ∧ Hid (Blk wr w.heap.size 129 #[.bool false, .int .i64 0, .int .i64 0, .int .i64 0]) ∧ Hid (Below w.heap.size w wr)) (fun i _ => ks.length - (intOf i).toNat)
  case atStart => exact ⟨0, by omega, rfl, A0, R1, B1⟩
  case round =>
    clear A0 R1 B1 y0 yk yl
    obtain ⟨k, hk, rfl, XA, XR, B⟩ := hrel
    by_cases hlk : k < ks.length
    · have hC := h.out.next B.out
      obtain ⟨⟨x0, -, -, x3, -, -, x6, -⟩, xl⟩ := box8 hC.box
      obtain ⟨b', o', eA, -, h5⟩ := (hkI.out.below B.out h.out.lt).at_ hlk
      have hx := hkid.out k hlk
      obtain ⟨m, hm⟩ : ∃ m : Nat, geti ks k = m := ⟨(geti ks k).toNat, by omega⟩
      have hS1 := hide (leftN_take (dn := p.dn) hlk)
      have hS2 := hide (sumF_take (dn := p.dn) (vl := p.vl) hlk)
      rw [hm] at h5 hx hS1 hS2
      rw [Int.toNat_natCast] at hS1 hS2
      have hml : m < p.js.length := by omega
      obtain ⟨b3, o3, eA3, -, hxd⟩ := hC.pool.dn.at_ (k := m) (by omega)
      obtain ⟨b6, o6, eA6, l6, hxv⟩ := hC.pool.vl.at_ (k := m) (by omega)
      rw [eA3] at x3
      rw [eA6] at x6
      have n6 : b6 ≠ A := by have := h.out.lt b6 l6; omega
      have hle := leftN_le p.dn (ks.take k)
      have hle2 : (ks.take k).length ≤ 1048576 := by rw [List.length_take]; omega
      obtain ⟨nl, hnl⟩ : ∃ z, z = leftN p.dn (ks.take k) := ⟨_, rfl⟩
      obtain ⟨sm, hsm⟩ : ∃ z, z = sumF p.dn p.vl (ks.take k) := ⟨_, rfl⟩
      rw [← hnl] at hS1 hle XA
      rw [← hsm] at hS2 XA
      obtain ⟨zv, hzv⟩ : ∃ z, z = geti p.vl m := ⟨_, rfl⟩
      rw [← hzv] at hxv hS2
      have hlk2 : (k : Int) < ks.length := by omega
      have hm3 : (m : Int) < p.dn.length := by omega
      have hm6 : m < p.vl.length := by omega
      obtain ⟨⟨xa0, xa1, xa2, xa3⟩, la⟩ := box4 XA.out
      have fa0 := XA.out.frozen 0
      have fa1 := XA.out.frozen 1
      have fa2 := XA.out.frozen 2
      have fa3 := XA.out.frozen 3
      have XR' := hide ((show Blk wr.drew w.heap.size 129 #[.bool false, .int .i64 0, .int .i64 0, .int .i64 0] from XR.out).far (p := ⟨A, 2, none⟩) (show w.heap.size ≠ A by omega))
      have XR1 := hide (XR.out.far (p := ⟨A, 1, none⟩) (show w.heap.size ≠ A by omega))
      subst eA
      clear hm hnl hsm hzv hC eA3 eA6 hkid hkI XR
      cases hb : getb p.dn m
      · rw [hb] at hxd hS1 hS2
        have hnw : IntKind.i64.wrap ((nl : Int) + 1) = ((nl + 1 : Nat) : Int) := by rw [IntKind.wrap_i64]; omega
        have XA1 := hide (XA.out.set_ 1 (.int .i64 ((nl + 1 : Nat) : Int)))
        have BB := hide (B.out.setCell (p := ⟨A, 1, none⟩) hwA (.int .i64 ((nl + 1 : Nat) : Int)))
        clear XA B
        go_wp2_with fail
        try rw [hnw]
        go_roundw
        case rel =>
          refine ⟨k + 1, by omega, by go_num, ?_, ?_, ?_⟩
          · rw [hS1.out, hS2.out]
            exact XA1
          · exact hide (XR1.out _)
          · exact BB
        case measure => simp [intOf]; omega
      · rw [hb] at hxd hS1 hS2
        have XA2 := hide ((show Blk wr.drew A 129 #[.bool false, .int .i64 (nl : Nat), .int .i64 sm, .int .i64 0] from XA.out).set_ 2 (.int .i64 (wrap64 (sm + zv))))
        have BB := hide (B.out.drew.setCell (p := ⟨A, 2, none⟩) hwA (.int .i64 (wrap64 (sm + zv))))
        have XR2 := hide (XR'.out)
        clear XA B
        go_upto_region 8 with fail
        refine wp_region_held_drew (S := (fun w' => w'.cell? ⟨g, 6, none⟩ = some (.slice (some ⟨b6, o6, none⟩) p.vl.length a.c6) ∧ w'.cell? ⟨b6, o6 + m, none⟩ = some (.int .i64 zv))) (by kernel_rfl) ?_ (fun hHeld => ?_)
        · exact ⟨x6, hxv⟩
        refine wpAnyH_take (i := 0) (oi := { dst := some 40, op := Op.fieldAddr 129 (.tmp 5) 2, type := 0, pos := "l09_jobs.go:181", after := #[], guard := none }) (v := ?_) rfl (by kernel_rfl) (by kernel_rfl) (by kernel_rfl) (fun _ _ _ h => h) (Or.inl ⟨by rfl, ?_⟩) hHeld ?_
        rotate_left
        · (intro wq hSw; (try dsimp only at hSw); first | (go_simp; done) | (go_simp; with_reducible rfl))
        try simp only [Act.put, qa, qb, qc]
        refine wpAnyH_take (i := 2) (oi := { dst := some 42, op := Op.move (.tmp 0), type := 90, pos := "l09_jobs.go:181", after := #[], guard := none }) (v := ?_) rfl (by kernel_rfl) (by kernel_rfl) (by kernel_rfl) (fun _ _ _ h => h) (Or.inl ⟨by rfl, ?_⟩) hHeld ?_
        rotate_left
        · (intro wq hSw; (try dsimp only at hSw); first | (go_simp; done) | (go_simp; with_reducible rfl))
        try simp only [Act.put, qa, qb, qc]
        refine wpAnyH_take (i := 3) (oi := { dst := some 43, op := Op.nilCheck (.tmp 42), type := 0, pos := "l09_jobs.go:181", after := #[⟨2, .data⟩], guard := none }) (v := ?_) rfl (by kernel_rfl) (by kernel_rfl) (by kernel_rfl) (fun _ _ _ h => h) (Or.inl ⟨by rfl, ?_⟩) hHeld ?_
        rotate_left
        · (intro wq hSw; (try dsimp only at hSw); first | (go_simp; done) | (go_simp; with_reducible rfl))
        try simp only [Act.put, qa, qb, qc]
        refine wpAnyH_take (i := 4) (oi := { dst := some 44, op := Op.fieldAddr 98 (.tmp 43) 0, type := 0, pos := "l09_jobs.go:181", after := #[⟨3, .data⟩], guard := none }) (v := ?_) rfl (by kernel_rfl) (by kernel_rfl) (by kernel_rfl) (fun _ _ _ h => h) (Or.inl ⟨by rfl, ?_⟩) hHeld ?_
        rotate_left
        · (intro wq hSw; (try dsimp only at hSw); first | (go_simp; done) | (go_simp; with_reducible rfl))
        try simp only [Act.put, qa, qb, qc]
        refine wpAnyH_take (i := 5) (oi := { dst := some 45, op := Op.fieldAddr 28 (.tmp 44) 6, type := 0, pos := "l09_jobs.go:181", after := #[⟨4, .data⟩], guard := none }) (v := ?_) rfl (by kernel_rfl) (by kernel_rfl) (by kernel_rfl) (fun _ _ _ h => h) (Or.inl ⟨by rfl, ?_⟩) hHeld ?_
        rotate_left
        · (intro wq hSw; (try dsimp only at hSw); first | (go_simp; done) | (go_simp; with_reducible rfl))
        try simp only [Act.put, qa, qb, qc]
        refine wpAnyH_take (i := 6) (oi := { dst := some 46, op := Op.load 26 (.tmp 45), type := 26, pos := "l09_jobs.go:181", after := #[⟨5, .data⟩], guard := none }) (v := ?_) rfl (by kernel_rfl) (by kernel_rfl) (by kernel_rfl) (fun _ _ _ h => h) (Or.inl ⟨by rfl, ?_⟩) hHeld ?_
        rotate_left
        · (intro wq hSw; (try dsimp only at hSw); first | (go_simp; done) | (go_simp; with_reducible rfl))
        try simp only [Act.put, qa, qb, qc]
        refine wpAnyH_take (i := 7) (oi := { dst := some 47, op := Op.move (.tmp 7), type := 3, pos := "l09_jobs.go:181", after := #[], guard := none }) (v := ?_) rfl (by kernel_rfl) (by kernel_rfl) (by kernel_rfl) (fun _ _ _ h => h) (Or.inl ⟨by rfl, ?_⟩) hHeld ?_
        rotate_left
        · (intro wq hSw; (try dsimp only at hSw); first | (go_simp; done) | (go_simp; with_reducible rfl))
        try simp only [Act.put, qa, qb, qc]
        refine wpAnyH_take (i := 8) (oi := { dst := some 48, op := Op.indexAddr 26 (.tmp 46) (.tmp 47), type := 0, pos := "l09_jobs.go:181", after := #[⟨6, .data⟩, ⟨7, .data⟩], guard := none }) (v := ?_) rfl (by kernel_rfl) (by kernel_rfl) (by kernel_rfl) (fun _ _ _ h => h) (Or.inl ⟨by rfl, ?_⟩) hHeld ?_
        rotate_left
        · (intro wq hSw; (try dsimp only at hSw); first | (go_simp; done) | (go_simp; with_reducible rfl))
        try simp only [Act.put, qa, qb, qc]
        refine wpAnyH_take (i := 9) (oi := { dst := some 49, op := Op.load 3 (.tmp 48), type := 3, pos := "l09_jobs.go:181", after := #[⟨8, .data⟩], guard := none }) (v := ?_) rfl (by kernel_rfl) (by kernel_rfl) (by kernel_rfl) (fun _ _ _ h => h) (Or.inl ⟨by rfl, ?_⟩) hHeld ?_
        rotate_left
        · (intro wq hSw; (try dsimp only at hSw); first | (go_simp; done) | (go_simp; with_reducible rfl))
        try simp only [Act.put, qa, qb, qc]
        refine wpAnyH_ready (rs := [1]) (by kernel_rfl) (by simp) ?_
        refine AllReadyH.cons (o := { dst := some 41, op := Op.load 3 (.tmp 40), type := 3, pos := "l09_jobs.go:181", after := #[⟨0, .data⟩], guard := none }) rfl (fun K hK => ?_) AllReadyH.nil
        go_simp
        skip
        refine hK.out _ _ ?_ (fun hHeldN => ?_)
        · exact hHeld
        clear hK K hHeld
        have hHeld := hHeldN
        clear hHeldN
        try simp only [Act.put, qa, qb, qc]
        refine wpAnyH_take (i := 10) (oi := { dst := some 50, op := Op.binOp BinOp.add 3 (.tmp 41) (.tmp 49) 3, type := 3, pos := "l09_jobs.go:181", after := #[⟨1, .data⟩, ⟨9, .data⟩], guard := none }) (v := ?_) rfl (by kernel_rfl) (by kernel_rfl) (by kernel_rfl) (fun _ _ _ h => h) (Or.inl ⟨by rfl, ?_⟩) hHeld ?_
        rotate_left
        · (intro wq hSw; (try dsimp only at hSw); first | (go_simp; done) | (go_simp; with_reducible rfl))
        try simp only [Act.put, qa, qb, qc]
        refine wpAnyH_take (i := 11) (oi := { dst := some 51, op := Op.fieldAddr 129 (.tmp 5) 2, type := 0, pos := "l09_jobs.go:181", after := #[⟨0, .phase⟩, ⟨1, .phase⟩, ⟨2, .phase⟩, ⟨3, .phase⟩, ⟨4, .phase⟩, ⟨5, .phase⟩, ⟨6, .phase⟩, ⟨7, .phase⟩, ⟨8, .phase⟩, ⟨9, .phase⟩, ⟨10, .phase⟩], guard := none }) (v := ?_) rfl (by kernel_rfl) (by kernel_rfl) (by kernel_rfl) (fun _ _ _ h => h) (Or.inl ⟨by rfl, ?_⟩) hHeld ?_
        rotate_left
        · (intro wq hSw; (try dsimp only at hSw); first | (go_simp; done) | (go_simp; with_reducible rfl))
        try simp only [Act.put, qa, qb, qc]
        refine wpAnyH_ready (rs := [12]) (by kernel_rfl) (by simp) ?_
        refine AllReadyH.cons (o := { dst := none, op := Op.store 3 (.tmp 51) (.tmp 50), type := 0, pos := "l09_jobs.go:181", after := #[⟨11, .data⟩, ⟨10, .data⟩, ⟨0, .phase⟩, ⟨1, .phase⟩, ⟨2, .phase⟩, ⟨3, .phase⟩, ⟨4, .phase⟩, ⟨5, .phase⟩, ⟨6, .phase⟩, ⟨7, .phase⟩, ⟨8, .phase⟩, ⟨9, .phase⟩, ⟨10, .phase⟩], guard := none }) rfl (fun K hK => ?_) AllReadyH.nil
        go_simp
        skip
        refine hK.out _ _ ?_ (fun hHeldN => ?_)
        · exact ⟨cell_far hHeld.1 nGA, cell_far hHeld.2 n6⟩
        clear hK K hHeld
        have hHeld := hHeldN
        clear hHeldN
        try simp only [Act.put, qa, qb, qc]
        refine wpAnyH_done (by kernel_rfl) ?_ _
        clear hHeld
        go_wp2_with fail
        go_roundw
        case rel =>
          refine ⟨k + 1, by omega, by go_num, ?_, ?_, ?_⟩
          · rw [hS1.out, hS2.out]
            exact XA2
          · exact hide (XR2.out _)
          · exact BB
        case measure => simp [intOf]; omega
    · obtain rfl : k = ks.length := by omega
      rw [List.take_length] at XA
      obtain ⟨nl, hnl⟩ : ∃ z, z = leftN p.dn ks := ⟨_, rfl⟩
      obtain ⟨sm, hsm⟩ : ∃ z, z = sumF p.dn p.vl ks := ⟨_, rfl⟩
      rw [← hnl, ← hsm] at XA
      obtain ⟨⟨xa0, xa1, xa2, xa3⟩, la⟩ := box4 XA.out
      have fa0 := XA.out.frozen 0
      have fa1 := XA.out.frozen 1
      have fa2 := XA.out.frozen 2
      have fa3 := XA.out.frozen 3
      have nRA : w.heap.size ≠ A := by omega
      by_cases hl0 : nl = 0
      · have hRes := hide (show (if leftN p.dn ks = 0 then Value.agg #[.bool true, .int .i64 0, .int .i64 (sumF p.dn p.vl ks), .int .i64 (worth vj (sumF p.dn p.vl ks))] else .agg #[.bool false, .int .i64 (leftN p.dn ks : Nat), .int .i64 (sumF p.dn p.vl ks), .int .i64 0]) = .agg #[.bool true, .int .i64 0, .int .i64 sm, .int .i64 (wrap64 (vj + wrap64 (2 * sm)))] from by rw [← hnl, ← hsm, if_pos hl0]; rfl)
        subst hl0
        obtain ⟨⟨x0, -, -, -, -, -, -, -⟩, xl⟩ := box8 (h.out.next B.out).box
        rw [eA0] at x0
        have xv : wr.cell? ⟨b0, o0 + j * 2, none⟩ = some (.int .i64 vj) := (B.out.cell (p := ⟨b0, o0 + j * 2, none⟩) hbl).trans zv0.out
        have xk : wr.cell? ⟨b0, o0 + j * 2 + 1, none⟩ = some (.slice AK ks.length cK) := (B.out.cell (p := ⟨b0, o0 + j * 2 + 1, none⟩) hbl).trans zk0.out
        replace hsm := hide hsm
        replace hnl := hide hnl
        obtain ⟨val, hval⟩ : ∃ z, z = wrap64 (vj + wrap64 (2 * sm)) := ⟨_, rfl⟩
        rw [← hval] at hRes
        have kV2 := hide (show ∀ w, Calls Try.prog 72 #[.agg #[.int .i64 vj, .slice AK ks.length cK], .int .i64 sm] w fun e w' => e = .returned (.int .i64 val) ∧ w' = w.alloc (.cells #[.int .i64 vj, .slice AK ks.length cK] 42) from fun w => by rw [hval]; exact kV.out sm w)
        replace hval := hide hval
        go_upto_region 12 with fail
        refine wp_region_held_drew (S := (fun w' => w'.cell? ⟨g, 0, none⟩ = some (.slice (some ⟨b0, o0, none⟩) p.js.length a.c0) ∧ w'.cell? ⟨b0, o0 + j * 2, none⟩ = some (.int .i64 vj) ∧ w'.cell? ⟨b0, o0 + j * 2 + 1, none⟩ = some (.slice AK ks.length cK) ∧ w'.cell? ⟨A, 2, none⟩ = some (.int .i64 sm))) (by kernel_rfl) ?_ (fun hHeld => ?_)
        · exact ⟨x0, xv, xk, xa2⟩
        refine wpAnyH_take (i := 0) (oi := { dst := some 60, op := Op.move (.tmp 0), type := 90, pos := "l09_jobs.go:187", after := #[], guard := none }) (v := ?_) rfl (by kernel_rfl) (by kernel_rfl) (by kernel_rfl) (fun _ _ _ h => h) (Or.inl ⟨by rfl, ?_⟩) hHeld ?_
        rotate_left
        · (intro wq hSw; (try dsimp only at hSw); first | (go_simp; done) | (go_simp; with_reducible rfl))
        try simp only [Act.put, qa, qb, qc]
        refine wpAnyH_take (i := 1) (oi := { dst := some 61, op := Op.nilCheck (.tmp 60), type := 0, pos := "l09_jobs.go:187", after := #[⟨0, .data⟩], guard := none }) (v := ?_) rfl (by kernel_rfl) (by kernel_rfl) (by kernel_rfl) (fun _ _ _ h => h) (Or.inl ⟨by rfl, ?_⟩) hHeld ?_
        rotate_left
        · (intro wq hSw; (try dsimp only at hSw); first | (go_simp; done) | (go_simp; with_reducible rfl))
        try simp only [Act.put, qa, qb, qc]
        refine wpAnyH_take (i := 2) (oi := { dst := some 62, op := Op.fieldAddr 98 (.tmp 61) 0, type := 0, pos := "l09_jobs.go:187", after := #[⟨1, .data⟩], guard := none }) (v := ?_) rfl (by kernel_rfl) (by kernel_rfl) (by kernel_rfl) (fun _ _ _ h => h) (Or.inl ⟨by rfl, ?_⟩) hHeld ?_
        rotate_left
        · (intro wq hSw; (try dsimp only at hSw); first | (go_simp; done) | (go_simp; with_reducible rfl))
        try simp only [Act.put, qa, qb, qc]
        refine wpAnyH_take (i := 3) (oi := { dst := some 63, op := Op.fieldAddr 28 (.tmp 62) 0, type := 0, pos := "l09_jobs.go:187", after := #[⟨2, .data⟩], guard := none }) (v := ?_) rfl (by kernel_rfl) (by kernel_rfl) (by kernel_rfl) (fun _ _ _ h => h) (Or.inl ⟨by rfl, ?_⟩) hHeld ?_
        rotate_left
        · (intro wq hSw; (try dsimp only at hSw); first | (go_simp; done) | (go_simp; with_reducible rfl))
        try simp only [Act.put, qa, qb, qc]
        refine wpAnyH_take (i := 4) (oi := { dst := some 64, op := Op.load 23 (.tmp 63), type := 23, pos := "l09_jobs.go:187", after := #[⟨3, .data⟩], guard := none }) (v := ?_) rfl (by kernel_rfl) (by kernel_rfl) (by kernel_rfl) (fun _ _ _ h => h) (Or.inl ⟨by rfl, ?_⟩) hHeld ?_
        rotate_left
        · (intro wq hSw; (try dsimp only at hSw); first | (go_simp; done) | (go_simp; with_reducible rfl))
        try simp only [Act.put, qa, qb, qc]
        refine wpAnyH_take (i := 5) (oi := { dst := some 65, op := Op.move (.tmp 1), type := 3, pos := "l09_jobs.go:187", after := #[], guard := none }) (v := ?_) rfl (by kernel_rfl) (by kernel_rfl) (by kernel_rfl) (fun _ _ _ h => h) (Or.inl ⟨by rfl, ?_⟩) hHeld ?_
        rotate_left
        · (intro wq hSw; (try dsimp only at hSw); first | (go_simp; done) | (go_simp; with_reducible rfl))
        try simp only [Act.put, qa, qb, qc]
        refine wpAnyH_take (i := 6) (oi := { dst := some 66, op := Op.indexAddr 23 (.tmp 64) (.tmp 65), type := 0, pos := "l09_jobs.go:187", after := #[⟨4, .data⟩, ⟨5, .data⟩], guard := none }) (v := ?_) rfl (by kernel_rfl) (by kernel_rfl) (by kernel_rfl) (fun _ _ _ h => h) (Or.inl ⟨by rfl, ?_⟩) hHeld ?_
        rotate_left
        · (intro wq hSw; (try dsimp only at hSw); first | (go_simp; done) | (go_simp; with_reducible rfl))
        try simp only [Act.put, qa, qb, qc]
        refine wpAnyH_take (i := 7) (oi := { dst := some 67, op := Op.load 42 (.tmp 66), type := 42, pos := "l09_jobs.go:187", after := #[⟨6, .data⟩], guard := none }) (v := ?_) rfl (by kernel_rfl) (by kernel_rfl) (by kernel_rfl) (fun _ _ _ h => h) (Or.inl ⟨by rfl, ?_⟩) hHeld ?_
        rotate_left
        · (intro wq hSw; (try dsimp only at hSw); first | (go_simp; done) | (go_simp; with_reducible rfl))
        try simp only [Act.put, qa, qb, qc]
        refine wpAnyH_take (i := 8) (oi := { dst := some 68, op := Op.fieldAddr 129 (.tmp 5) 2, type := 0, pos := "l09_jobs.go:187", after := #[], guard := none }) (v := ?_) rfl (by kernel_rfl) (by kernel_rfl) (by kernel_rfl) (fun _ _ _ h => h) (Or.inl ⟨by rfl, ?_⟩) hHeld ?_
        rotate_left
        · (intro wq hSw; (try dsimp only at hSw); first | (go_simp; done) | (go_simp; with_reducible rfl))
        try simp only [Act.put, qa, qb, qc]
        refine wpAnyH_take (i := 9) (oi := { dst := some 69, op := Op.load 3 (.tmp 68), type := 3, pos := "l09_jobs.go:187", after := #[⟨8, .data⟩], guard := none }) (v := ?_) rfl (by kernel_rfl) (by kernel_rfl) (by kernel_rfl) (fun _ _ _ h => h) (Or.inl ⟨by rfl, ?_⟩) hHeld ?_
        rotate_left
        · (intro wq hSw; (try dsimp only at hSw); first | (go_simp; done) | (go_simp; with_reducible rfl))
        try simp only [Act.put, qa, qb, qc]
        refine wpAnyH_take (i := 11) (oi := { dst := some 71, op := Op.fieldAddr 129 (.tmp 5) 0, type := 0, pos := "l09_jobs.go:187", after := #[{ on := 0, ground := Ground.textOnly Departure.lateStores }, { on := 1, ground := Ground.textOnly Departure.lateStores }, { on := 2, ground := Ground.textOnly Departure.lateStores }, { on := 3, ground := Ground.textOnly Departure.lateStores }, { on := 4, ground := Ground.textOnly Departure.lateStores }, { on := 5, ground := Ground.textOnly Departure.lateStores }, { on := 6, ground := Ground.textOnly Departure.lateStores }, { on := 7, ground := Ground.textOnly Departure.lateStores }, ⟨8, .phase⟩, ⟨9, .phase⟩, { on := 10, ground := Ground.textOnly Departure.lateStoresUnsure }], guard := none }) (v := ?_) rfl (by kernel_rfl) (by kernel_rfl) (by kernel_rfl) (fun _ _ _ h => h) (Or.inl ⟨by rfl, ?_⟩) hHeld ?_
        rotate_left
        · (intro wq hSw; (try dsimp only at hSw); first | (go_simp; done) | (go_simp; with_reducible rfl))
        try simp only [Act.put, qa, qb, qc]
        refine wpAnyH_ready (rs := [10]) (by kernel_rfl) (by simp) ?_
        refine AllReadyH.cons (o := { dst := some 70, op := Op.call { callee := Callee.value (.func 72), args := #[.tmp 67, .tmp 69], argTypes := #[42, 3] }, type := 3, pos := "l09_jobs.go:187", after := #[⟨7, .data⟩, ⟨9, .data⟩], guard := none }) rfl (fun K hK => ?_) AllReadyH.nil
        go_simp
        go_at_call 72; refine (kV2.out _).mono ?_; rintro e wx ⟨rfl, rfl⟩
        refine hK.out _ _ ?_ (fun hHeldN => ?_)
        · exact ⟨cell_new _ hHeld.1, cell_new _ hHeld.2.1, cell_new _ hHeld.2.2.1, cell_new _ hHeld.2.2.2⟩
        clear hK K hHeld
        have hHeld := hHeldN
        clear hHeldN
        try simp only [Act.put, qa, qb, qc]
        refine wpAnyH_ready (rs := [12]) (by kernel_rfl) (by simp) ?_
        refine AllReadyH.cons (o := { dst := none, op := Op.store 4 (.tmp 71) (.const (Value.bool true)), type := 0, pos := "l09_jobs.go:187", after := #[⟨11, .data⟩, ⟨10, .chain⟩, { on := 0, ground := Ground.textOnly Departure.lateStores }, { on := 1, ground := Ground.textOnly Departure.lateStores }, { on := 2, ground := Ground.textOnly Departure.lateStores }, { on := 3, ground := Ground.textOnly Departure.lateStores }, { on := 4, ground := Ground.textOnly Departure.lateStores }, { on := 5, ground := Ground.textOnly Departure.lateStores }, { on := 6, ground := Ground.textOnly Departure.lateStores }, { on := 7, ground := Ground.textOnly Departure.lateStores }, ⟨8, .phase⟩, ⟨9, .phase⟩, { on := 10, ground := Ground.textOnly Departure.lateStoresUnsure }], guard := none }) rfl (fun K hK => ?_) AllReadyH.nil
        go_simp
        skip
        refine hK.out _ _ ?_ (fun hHeldN => ?_)
        · exact ⟨cell_drew (cell_new _ (cell_far x0 nGA)), cell_drew (cell_new _ (cell_far xv nBA)), cell_drew (cell_new _ (cell_far xk nBA)), cell_drew (cell_new _ (cell_off xa2 (k := 0) (by omega)))⟩
        clear hK K hHeld
        have hHeld := hHeldN
        clear hHeldN
        try simp only [Act.put, qa, qb, qc]
        refine wpAnyH_take (i := 13) (oi := { dst := some 72, op := Op.fieldAddr 129 (.tmp 5) 3, type := 0, pos := "l09_jobs.go:187", after := #[⟨0, .phase⟩, ⟨1, .phase⟩, ⟨2, .phase⟩, ⟨3, .phase⟩, ⟨4, .phase⟩, ⟨5, .phase⟩, ⟨6, .phase⟩, ⟨7, .phase⟩, ⟨8, .phase⟩, ⟨9, .phase⟩, ⟨10, .phase⟩, ⟨11, .phase⟩, ⟨12, .phase⟩], guard := none }) (v := ?_) rfl (by kernel_rfl) (by kernel_rfl) (by kernel_rfl) (fun _ _ _ h => h) (Or.inl ⟨by rfl, ?_⟩) hHeld ?_
        rotate_left
        · (intro wq hSw; (try dsimp only at hSw); first | (go_simp; done) | (go_simp; with_reducible rfl))
        try simp only [Act.put, qa, qb, qc]
        refine wpAnyH_ready (rs := [14]) (by kernel_rfl) (by simp) ?_
        refine AllReadyH.cons (o := { dst := none, op := Op.store 3 (.tmp 72) (.tmp 70), type := 0, pos := "l09_jobs.go:187", after := #[⟨13, .data⟩, ⟨10, .data⟩, ⟨12, .chain⟩, ⟨0, .phase⟩, ⟨1, .phase⟩, ⟨2, .phase⟩, ⟨3, .phase⟩, ⟨4, .phase⟩, ⟨5, .phase⟩, ⟨6, .phase⟩, ⟨7, .phase⟩, ⟨8, .phase⟩, ⟨9, .phase⟩, ⟨10, .phase⟩, ⟨11, .phase⟩, ⟨12, .phase⟩], guard := none }) rfl (fun K hK => ?_) AllReadyH.nil
        go_simp
        skip
        refine hK.out _ _ ?_ (fun hHeldN => ?_)
        · exact ⟨cell_drew (cell_new _ (cell_far (cell_far x0 nGA) nGA)), cell_drew (cell_new _ (cell_far (cell_far xv nBA) nBA)), cell_drew (cell_new _ (cell_far (cell_far xk nBA) nBA)), cell_drew (cell_new _ (cell_off (cell_off xa2 (k := 0) (by omega)) (k := 3) (by omega)))⟩
        clear hK K hHeld
        have hHeld := hHeldN
        clear hHeldN
        try simp only [Act.put, qa, qb, qc]
        refine wpAnyH_done (by kernel_rfl) ?_ _
        clear hHeld
        go_upto_region 13 with fail
        obtain ⟨wz, hwz⟩ : ∃ wz, wz = (((wr.setCell ⟨A, 0, none⟩ (.bool true)).setCell ⟨A, 3, none⟩ (.int .i64 val)).alloc (.cells #[.int .i64 vj, .slice AK ks.length cK] 42)).drew := ⟨_, rfl⟩
        have XZ : Blk wz A 129 #[.bool true, .int .i64 ((0 : Nat) : Int), .int .i64 sm, .int .i64 val] := by rw [hwz]; exact ((XA.out.set_ 0 (.bool true)).set_ 3 (.int .i64 val)).alloc _
        have RZ : Blk wz w.heap.size 129 #[.bool false, .int .i64 0, .int .i64 0, .int .i64 0] := by rw [hwz]; exact ((XR.out.far (p := ⟨A, 0, none⟩) nRA (.bool true)).far (p := ⟨A, 3, none⟩) nRA (.int .i64 val)).alloc _
        have BZ : Below w.heap.size w wz := by
          rw [hwz]
          have h1 := (B.out.setCell (p := ⟨A, 0, none⟩) hwA (.bool true)).setCell (p := ⟨A, 3, none⟩) hwA (.int .i64 val)
          exact (h1.alloc h1.size _).drew
        rw [← hwz]
        clear hwz
        clear x0 xv xk xa0 xa1 xa2 xa3 fa0 fa1 fa2 fa3 la xl XA XR B
        obtain ⟨⟨xa0, xa1, xa2, xa3⟩, la⟩ := box4 XZ
        obtain ⟨⟨r0, r1, r2, r3⟩, rl⟩ := box4 RZ
        have s0 := RZ.frozen 0
        have s1 := RZ.frozen 1
        have s2 := RZ.frozen 2
        have s3 := RZ.frozen 3
        replace BZ := hide BZ
        clear XZ RZ
        go_wp2_with fail
        refine bodyPost_ret (v := .agg #[.bool true, .int .i64 0, .int .i64 sm, .int .i64 val]) (by simp [results, Try.results103, go_sem, r0, r1, r2, r3]; done) rfl ⟨by rw [hres.out, hRes.out], ?_⟩
        exact (((BZ.out.setCell (p := ⟨w.heap.size, 0, none⟩) (Nat.le_refl _) _).setCell (p := ⟨w.heap.size, 1, none⟩) (Nat.le_refl _) _).setCell (p := ⟨w.heap.size, 2, none⟩) (Nat.le_refl _) _).setCell (p := ⟨w.heap.size, 3, none⟩) (Nat.le_refl _) _
      · have hRes := hide (show (if leftN p.dn ks = 0 then Value.agg #[.bool true, .int .i64 0, .int .i64 (sumF p.dn p.vl ks), .int .i64 (worth vj (sumF p.dn p.vl ks))] else .agg #[.bool false, .int .i64 (leftN p.dn ks : Nat), .int .i64 (sumF p.dn p.vl ks), .int .i64 0]) = .agg #[.bool false, .int .i64 nl, .int .i64 sm, .int .i64 0] from by rw [← hnl, ← hsm, if_neg hl0])
        have hln : ¬ ((nl : Int) = 0) := by omega
        have hlb : ((nl : Int) == 0) = false := by simpa using hln
        obtain ⟨⟨r0, r1, r2, r3⟩, rl⟩ := box4 XR.out
        have s0 := XR.out.frozen 0
        have s1 := XR.out.frozen 1
        have s2 := XR.out.frozen 2
        have s3 := XR.out.frozen 3
        replace hnl := hide hnl
        replace hsm := hide hsm
        clear XA XR
        go_wp2_with fail
        refine bodyPost_ret (v := .agg #[.bool false, .int .i64 nl, .int .i64 sm, .int .i64 0]) (by simp [results, Try.results103, go_sem, r0, r1, r2, r3]; done) rfl ⟨by rw [hres.out, hRes.out], ?_⟩
        exact (((B.out.setCell (p := ⟨w.heap.size, 0, none⟩) (Nat.le_refl _) _).setCell (p := ⟨w.heap.size, 1, none⟩) (Nat.le_refl _) _).setCell (p := ⟨w.heap.size, 2, none⟩) (Nat.le_refl _) _).setCell (p := ⟨w.heap.size, 3, none⟩) (Nat.le_refl _) _
set_option maxHeartbeats 400000 in
theorem accountByKids_any (S : Nat → Prop) (g qp : Nat) (a : PA) (p : PoolD) (w : World) (hT : Hid (Tree p.js)) (hlen : Hid (LenP p)) (hsz : Hid (∀ k, (getj p.js k).ks.length ≤ 1048576)) (j : Nat) (hj : j < p.js.length) (h : CrewR w S g qp a p) :
    Calls Try.prog 103 #[.pointer (some ⟨g, 0, none⟩), .int .i64 j] w fun e w' => e = .returned (accK p j) ∧ Below w.heap.size w w' := by
  unfold accK
  cases hr : getb p.ran j
  · exact accountByKids_no S g qp a p w hlen j hj h hr
  · exact accountByKids_yes S g qp a p w hT hlen hsz j hj h hr
end Go.Proofs.Ytfnphnjadknoaaa
