/- The program's kindStart: a beginning of each kind. -/
import Derived.Test.YtfkaacfeikmabaaMf0
import Derived.Test.YtfkaacfeikmabaaMf1
import Derived.Test.YtfkaacfeikmabaaMf10
import Derived.Test.YtfkaacfeikmabaaMf13
import Derived.Test.YtfkaacfeikmabaaMf21
import Derived.Test.YtfkaacfeikmabaaMf23
import Derived.Deep.RegionHeld3
namespace Go.Proofs.Ytfkaacfeikmabaa
open Go.RowKit

attribute [local go_sem ↓] Go.wp_at_zero Go.wp_at_succ

theorem zbufs_ok {w : World} {b n : Nat} (h : Blk w b 182 (zrow #[.slice none 0 0] n)) (hn : n ≤ 3) : (RowsP.mk b (b + 1) (some ⟨b, 0, none⟩) n n (List.replicate n (nilRow b))).okB w := by
  refine ⟨.inr ⟨b, rfl, ⟨⟨_, h, by simp [zrow_size], fun k hk => ?_⟩, fun k hk => ?_, fun i j hij hj => ?_, ⟨⟨Nat.le_refl _, Nat.lt_succ_self _⟩, fun k hk => ?_⟩⟩⟩, by simp, by show n ≤ 1048576; omega, fun k hk => ?_⟩
  · have hk' : k < n := by simpa using hk
    rw [getr_rep _ _ _ hk']
    unfold zrow madeCells
    simp [hk', Nat.mod_one, nilRow]
  · have hk' : k < n := by simpa using hk
    rw [getr_rep _ _ _ hk']
    exact ⟨.inl ⟨rfl, rfl, rfl⟩, fun b hb => by simp [nilRow, Value.ownBlock] at hb⟩
  · have hj' : j < n := by simpa using hj
    rw [getr_rep _ _ _ hj', getr_rep _ _ _ (by omega)]
    exact Nat.le_refl _
  · have hk' : k < n := by simpa using hk
    rw [getr_rep _ _ _ hk']
    simp [nilRow]
  · have hk' : k < n := by simpa using hk
    rw [getr_rep _ _ _ hk']
    simp [nilRow]

set_option maxRecDepth 100000 in
set_option maxHeartbeats 12800000 in
theorem kindStart_0 (p : ProgD) (A1 A2 : Option Addr) (c1 c2 n : Nat) (w : World) (hn : n ≤ w.heap.size) (hi : IntsAt w (Old n) A1 p.init) (h1 : 1 ≤ p.init.length) (h6 : p.init.length ≤ 6) (h3 : p.ts.length ≤ 3) :
    Calls Try.prog 83 #[.agg #[.slice A1 p.init.length c1, .slice A2 p.ts.length c2], .int .i64 0] w fun e w' => ∃ (T : Nat) (d : StD), e = .returned (.iface 133 (.pointer (some ⟨T, 0, none⟩))) ∧ Blk w' T 137 #[.slice A1 p.init.length c1, .slice A2 p.ts.length c2, .slice d.pc.A d.pc.n d.pc.c, .slice d.F.A d.F.n d.F.c, .slice d.mem.A d.mem.n d.mem.c] ∧ StIn w' d ∧ (∀ i, i < 7 → w.heap.size ≤ (d.iv i).1) ∧ SameSt (startC p 0) d ∧ d.cells = #[.int .i64 0, .slice d.pc.A d.pc.n d.pc.c, .slice d.F.A d.F.n d.F.c, .slice d.mem.A d.mem.n d.mem.c, .slice none 0 0, .slice none 0 0, .slice none 0 0, .slice none 0 0, .int .i64 0] ∧ Below w.heap.size w w' := by
  have B0 := hide (below1 w (Obj.cells #[.slice A1 p.init.length c1, .slice A2 p.ts.length c2] 31))
  have G0 := hide (Blk.new w 31 #[.slice A1 p.init.length c1, .slice A2 p.ts.length c2])
  replace hi := hide hi
  go_enter Try.func83, Try.ntmps83
  go_wp2_with fail
  refine (commonStart_up A1 A2 p.init.length p.ts.length c1 c2 _ h3).mono ?_
  rintro e w1 ⟨qp, A5, c5, rs, rfl, hrl, hsix, ⟨hpc, hq1, hq2⟩, hrow, hsz, hb1⟩
  simp only [World.size_alloc] at hq1 hq2 hrow hsz
  have B1 := hide (below_then B0.out hb1)
  have G1 := hide (G0.out.below hb1 G0.out.lt)
  have lg := G1.out.lt
  have g0 : w1.cell? ⟨w.heap.size, 0, none⟩ = some (.slice A1 p.init.length c1) := G1.out.cell 0
  have g1 : w1.cell? ⟨w.heap.size, 1, none⟩ = some (.slice A2 p.ts.length c2) := G1.out.cell 1
  have hlen : ∀ k, k < rs.length → (getr rs k).zs.length = (getr rs k).n ∧ (getr rs k).n ≤ 1048576 := fun k hk => by
    obtain ⟨e1, e2⟩ := hsix k hk
    rw [e1, e2, zerosS_len]
    exact ⟨rfl, by omega⟩
  have hlen := hide hlen
  have hsix := hide hsix
  have P1 := hide hpc
  have F1 := hide hrow
  obtain ⟨w2, hw2⟩ : ∃ x, x = w1.alloc (Obj.cells #[.slice A1 p.init.length c1, .slice A2 p.ts.length c2, .slice (some ⟨qp, 0, none⟩) p.ts.length p.ts.length, .slice A5 p.ts.length c5] 135) := ⟨_, rfl⟩
  have hz2 : w1.heap.size < w2.heap.size := by rw [hw2]; simp
  have C2 := hide (show Blk w2 w1.heap.size 135 #[.slice A1 p.init.length c1, .slice A2 p.ts.length c2, .slice (some ⟨qp, 0, none⟩) p.ts.length p.ts.length, .slice A5 p.ts.length c5] from by rw [hw2]; exact Blk.new _ _ _)
  have hb2 : Below w1.heap.size w1 w2 := by rw [hw2]; exact below1 _ _
  have G2 := hide (G1.out.below hb2 G1.out.lt)
  have B2 := hide (B1.out.trans (hb2.mono B1.out.size))
  have P2 := hide (P1.out.below hb2)
  have F2 := hide (F1.out.next hb2)
  clear hpc hrow hb1 B0 G0
  have hC := hide (fun (W : World) (hg : Blk W w.heap.size 31 #[.slice A1 p.init.length c1, .slice A2 p.ts.length c2]) (hc : Blk W w1.heap.size 135 #[.slice A1 p.init.length c1, .slice A2 p.ts.length c2, .slice (some ⟨qp, 0, none⟩) p.ts.length p.ts.length, .slice A5 p.ts.length c5]) => show W.cell? ⟨w.heap.size, 0, none⟩ = some (.slice A1 p.init.length c1) ∧ W.cell? ⟨w.heap.size, 1, none⟩ = some (.slice A2 p.ts.length c2) ∧ W.cell? ⟨w1.heap.size, 0, none⟩ = some (.slice A1 p.init.length c1) ∧ W.cell? ⟨w1.heap.size, 1, none⟩ = some (.slice A2 p.ts.length c2) ∧ W.cell? ⟨w1.heap.size, 2, none⟩ = some (.slice (some ⟨qp, 0, none⟩) p.ts.length p.ts.length) ∧ W.cell? ⟨w1.heap.size, 3, none⟩ = some (.slice A5 p.ts.length c5) from ⟨hg.cell 0, hg.cell 1, hc.cell 0, hc.cell 1, hc.cell 2, hc.cell 3⟩)
  go_wp2_with fail
  rw [← hw2]
  clear hw2 hb2 g0 g1
  go_wp2_with fail
  refine wp_region_held_drew (S := (fun wq : World => wq.cell? ⟨w.heap.size, 0, none⟩ = some (.slice A1 p.init.length c1) ∧ wq.cell? ⟨w.heap.size, 1, none⟩ = some (.slice A2 p.ts.length c2) ∧ wq.cell? ⟨w1.heap.size, 0, none⟩ = some (.slice A1 p.init.length c1) ∧ wq.cell? ⟨w1.heap.size, 1, none⟩ = some (.slice A2 p.ts.length c2) ∧ wq.cell? ⟨w1.heap.size, 2, none⟩ = some (.slice (some ⟨qp, 0, none⟩) p.ts.length p.ts.length) ∧ wq.cell? ⟨w1.heap.size, 3, none⟩ = some (.slice A5 p.ts.length c5))) (by kernel_rfl) ?_ (fun hHeld => ?_)
  · exact hC.out w2.drew G2.out C2.out
  refine wpAnyH_take (i := 0) (oi := { dst := some 11, op := Op.load 135 (Operand.tmp 5), type := 135, pos := "l02_state.go:160", after := #[], guard := none }) (v := ?_) rfl (by kernel_rfl) (by kernel_rfl) (by kernel_rfl) (fun _ _ _ h => h) (Or.inl ⟨by rfl, ?_⟩) hHeld ?_
  rotate_left
  · (intro wq hSw; (try dsimp only at hSw); first | (go_simp; done) | (go_simp; with_reducible rfl))
  try simp only [Act.put, qa, qb, qc]
  refine wpAnyH_take (i := 1) (oi := { dst := some 12, op := Op.fieldAddr 31 (Operand.tmp 2) 0, type := 0, pos := "l02_state.go:160", after := #[], guard := none }) (v := ?_) rfl (by kernel_rfl) (by kernel_rfl) (by kernel_rfl) (fun _ _ _ h => h) (Or.inl ⟨by rfl, ?_⟩) hHeld ?_
  rotate_left
  · (intro wq hSw; (try dsimp only at hSw); first | (go_simp; done) | (go_simp; with_reducible rfl))
  try simp only [Act.put, qa, qb, qc]
  refine wpAnyH_take (i := 2) (oi := { dst := some 13, op := Op.load 22 (Operand.tmp 12), type := 22, pos := "l02_state.go:160", after := #[{ on := 1, ground := Ground.data }], guard := none }) (v := ?_) rfl (by kernel_rfl) (by kernel_rfl) (by kernel_rfl) (fun _ _ _ h => h) (Or.inl ⟨by rfl, ?_⟩) hHeld ?_
  rotate_left
  · (intro wq hSw; (try dsimp only at hSw); first | (go_simp; done) | (go_simp; with_reducible rfl))
  try simp only [Act.put, qa, qb, qc]
  refine wpAnyH_ready (rs := [3]) (by kernel_rfl) (by simp) ?_
  refine AllReadyH.cons (o := { dst := some 14, op := Op.call { callee := Callee.value (Operand.func 66), args := #[Operand.tmp 13], argTypes := #[22] }, type := 22, pos := "l02_state.go:160", after := #[{ on := 2, ground := Ground.data }], guard := none }) rfl (fun K hK => ?_) (AllReadyH.nil)
  · go_simp
    go_at_call 66; refine (cloneInts_any A1 p.init p.init.length c1 w2.drew rfl (by omega) ((hi.out.below (B2.out.drew) (fun b (h : b < n) => Nat.lt_of_lt_of_le h hn)).more (fun b (h : b < n) => show b < w2.drew.heap.size from Nat.lt_of_lt_of_le h (Nat.le_trans hn (B2.out.drew).size)))).mono ?_; rintro e wm ⟨A3, c3, rfl, hown, hbm⟩
    have Gm := hide (Blk.below (w := w2.drew) G2.out hbm (by exact G2.out.lt))
    have Cm := hide (Blk.below (w := w2.drew) C2.out hbm (by exact C2.out.lt))
    have Bm := hide (B2.out.drew.trans (hbm.mono B2.out.size))
    have Pm := hide (RowT.below (w := w2.drew) P2.out hbm)
    have Fm := hide ((F2.out.next (Below.refl _ _).drew).next hbm)
    have Mm := hide (RvI.of (RvT.of_own hown))
    have hzm : w2.heap.size ≤ wm.heap.size := hbm.size
    clear hown hbm
    refine hK.out _ _ ?_ (fun hHeldN => ?_)
    · exact hC.out _ Gm.out Cm.out
    clear hK K hHeld
    have hHeld := hHeldN
    clear hHeldN
    try simp only [Act.put, qa, qb, qc]
    refine wpAnyH_take (i := 4) (oi := { dst := some 15, op := Op.build 137 #[(0, Operand.tmp 11), (1, Operand.tmp 14)], type := 137, pos := "l02_state.go:160", after := #[{ on := 0, ground := Ground.data }, { on := 3, ground := Ground.data }], guard := none }) (v := ?_) rfl (by kernel_rfl) (by kernel_rfl) (by kernel_rfl) (fun _ _ _ h => h) (Or.inl ⟨by rfl, ?_⟩) hHeld ?_
    rotate_left
    · (intro wq hSw; (try dsimp only at hSw); first | (go_simp; done) | (go_simp; with_reducible rfl))
    try simp only [Act.put, qa, qb, qc]
    refine wpAnyH_ready (rs := [5]) (by kernel_rfl) (by simp) ?_
    refine AllReadyH.cons (o := { dst := some 16, op := Op.box 137 (Operand.tmp 15), type := 133, pos := "l02_state.go:160", after := #[{ on := 4, ground := Ground.data }], guard := none }) rfl (fun K hK => ?_) (AllReadyH.nil)
    · go_simp
      refine hK.out _ _ ?_ (fun hHeldN => ?_)
      · exact hC.out _ (Gm.out.alloc _) (Cm.out.alloc _)
      clear hK K hHeld
      have hHeld := hHeldN
      clear hHeldN
      try simp only [Act.put, qa, qb, qc]
      refine wpAnyH_take (i := 6) (oi := { dst := some 17, op := Op.makeInterface 133 (Operand.tmp 16), type := 20, pos := "l02_state.go:160", after := #[{ on := 5, ground := Ground.data }], guard := none }) (v := ?_) rfl (by kernel_rfl) (by kernel_rfl) (by kernel_rfl) (fun _ _ _ h => h) (Or.inl ⟨by rfl, ?_⟩) hHeld ?_
      rotate_left
      · (intro wq hSw; (try dsimp only at hSw); first | (go_simp; done) | (go_simp; with_reducible rfl))
      try simp only [Act.put, qa, qb, qc]
      refine wpAnyH_take (i := 7) (oi := { dst := some 4, op := Op.assign (Operand.tmp 17), type := 20, pos := "l02_state.go:160", after := #[{ on := 6, ground := Ground.data }, { on := 3, ground := Ground.chain }, { on := 0, ground := Ground.phase }, { on := 1, ground := Ground.phase }, { on := 2, ground := Ground.phase }, { on := 3, ground := Ground.phase }, { on := 4, ground := Ground.phase }, { on := 5, ground := Ground.phase }, { on := 6, ground := Ground.phase }], guard := none }) (v := ?_) rfl (by kernel_rfl) (by kernel_rfl) (by kernel_rfl) (fun _ _ _ h => h) (Or.inl ⟨by rfl, ?_⟩) hHeld ?_
      rotate_left
      · (intro wq hSw; (try dsimp only at hSw); first | (go_simp; done) | (go_simp; with_reducible rfl))
      try simp only [Act.put, qa, qb, qc]
      refine wpAnyH_done (by kernel_rfl) ?_ _
      obtain ⟨d, hd⟩ : ∃ d : StD, d = ⟨0, ⟨qp, qp + 1, some ⟨qp, 0, none⟩, p.ts.length, p.ts.length, zerosS p.ts.length⟩, ⟨w.heap.size + 1 + 1 + 1 + 1 + 1, w1.heap.size, A5, p.ts.length, c5, rs⟩, ⟨w2.heap.size, wm.heap.size, A3, p.init.length, c3, p.init⟩, nilRows w.heap.size, nilHists w.heap.size, nilRows w.heap.size, nilRow w.heap.size, 0⟩ := ⟨_, rfl⟩
      have hIn := hide (show StIn (wm.alloc (Obj.cells #[.slice A1 p.init.length c1, .slice A2 p.ts.length c2, .slice (some ⟨qp, 0, none⟩) p.ts.length p.ts.length, .slice A5 p.ts.length c5, .slice A3 p.init.length c3] 137)) d from by
        subst hd
        refine ⟨⟨⟨.inr ⟨_, _, rfl, Pm.out.below (below1 wm _), Nat.le_refl _⟩, fun b hb => ?_⟩, zerosS_len _, by show p.ts.length ≤ 1048576; omega⟩, ⟨Fm.out.next (below1 wm _), hrl, by show p.ts.length ≤ 1048576; omega, hlen.out⟩, ⟨Mm.out.next (below1 wm _), rfl, by show p.init.length ≤ 1048576; omega⟩, nilRows_okB _ _, nilHists_ok _ _, nilRows_okF _ _, nilRow_ok _ _, ?_, ?_⟩
        · simp [Value.ownBlock] at hb
          show b < qp + 1
          omega
        · refine fun i j hij hj => iv_pair ?_ i j hij (by simpa using hj)
          simp [nilRow, nilRows, nilHists]
          omega
        · intro i hi
          have h7 : i = 0 ∨ i = 1 ∨ i = 2 ∨ i = 3 ∨ i = 4 ∨ i = 5 ∨ i = 6 := by omega
          rcases h7 with rfl | rfl | rfl | rfl | rfl | rfl | rfl <;> simp [StD.iv, nilRow, nilRows, nilHists] <;> omega)
      have hSame := hide (show SameSt (startC p 0) d from by
        subst hd
        refine ⟨rfl, ⟨rfl, rfl⟩, ⟨by simp [startC, hrl], fun k hk => ?_⟩, ⟨rfl, rfl⟩, ⟨rfl, fun k hk => by simp [startC, nilRows] at hk⟩, rfl, ⟨rfl, fun k hk => by simp [startC, nilRows] at hk⟩, ⟨rfl, rfl⟩, rfl⟩
        · have hk' : k < p.ts.length := by simpa [startC] using hk
          obtain ⟨e1, e2⟩ := hsix.out k (by omega)
          show (getr (List.replicate p.ts.length (zrowD 0 6)) k).n = (getr rs k).n ∧ (getr (List.replicate p.ts.length (zrowD 0 6)) k).zs = (getr rs k).zs
          rw [getr_rep _ _ _ hk', e1, e2]
          exact ⟨rfl, rfl⟩)
      have hlo := hide (show ∀ i, i < 7 → w.heap.size ≤ (d.iv i).1 from by
        subst hd
        intro i hi
        have h7 : i = 0 ∨ i = 1 ∨ i = 2 ∨ i = 3 ∨ i = 4 ∨ i = 5 ∨ i = 6 := by omega
        rcases h7 with rfl | rfl | rfl | rfl | rfl | rfl | rfl <;> simp [StD.iv, nilRow, nilRows, nilHists] <;> omega)
      have hBl := hide (show Blk (wm.alloc (Obj.cells #[.slice A1 p.init.length c1, .slice A2 p.ts.length c2, .slice (some ⟨qp, 0, none⟩) p.ts.length p.ts.length, .slice A5 p.ts.length c5, .slice A3 p.init.length c3] 137)) wm.heap.size 137 #[.slice A1 p.init.length c1, .slice A2 p.ts.length c2, .slice d.pc.A d.pc.n d.pc.c, .slice d.F.A d.F.n d.F.c, .slice d.mem.A d.mem.n d.mem.c] from by subst hd; exact Blk.new _ _ _)
      have hDc := hide (show d.cells = #[.int .i64 0, .slice d.pc.A d.pc.n d.pc.c, .slice d.F.A d.F.n d.F.c, .slice d.mem.A d.mem.n d.mem.c, .slice none 0 0, .slice none 0 0, .slice none 0 0, .slice none 0 0, .int .i64 0] from by subst hd; rfl)
      have hBf := hide (show Below w.heap.size w (wm.alloc (Obj.cells #[.slice A1 p.init.length c1, .slice A2 p.ts.length c2, .slice (some ⟨qp, 0, none⟩) p.ts.length p.ts.length, .slice A5 p.ts.length c5, .slice A3 p.init.length c3] 137)) from Bm.out.alloc Bm.out.size _)
      clear hd
      
      go_wp2_with fail
      go_ret
      exact ⟨wm.heap.size, d, rfl, hBl.out, hIn.out, hlo.out, hSame.out, hDc.out, hBf.out⟩

set_option maxRecDepth 100000 in
set_option maxHeartbeats 12800000 in
theorem kindStart_1 (p : ProgD) (A1 A2 : Option Addr) (c1 c2 n : Nat) (w : World) (hn : n ≤ w.heap.size) (hi : IntsAt w (Old n) A1 p.init) (h1 : 1 ≤ p.init.length) (h6 : p.init.length ≤ 6) (h3 : p.ts.length ≤ 3) :
    Calls Try.prog 83 #[.agg #[.slice A1 p.init.length c1, .slice A2 p.ts.length c2], .int .i64 1] w fun e w' => ∃ (T : Nat) (d : StD), e = .returned (.iface 139 (.pointer (some ⟨T, 0, none⟩))) ∧ Blk w' T 141 #[.slice A1 p.init.length c1, .slice A2 p.ts.length c2, .slice d.pc.A d.pc.n d.pc.c, .slice d.F.A d.F.n d.F.c, .slice d.mem.A d.mem.n d.mem.c, .slice d.bufs.A d.bufs.n d.bufs.c] ∧ StIn w' d ∧ (∀ i, i < 7 → w.heap.size ≤ (d.iv i).1) ∧ SameSt (startC p 1) d ∧ d.cells = #[.int .i64 1, .slice d.pc.A d.pc.n d.pc.c, .slice d.F.A d.F.n d.F.c, .slice d.mem.A d.mem.n d.mem.c, .slice d.bufs.A d.bufs.n d.bufs.c, .slice none 0 0, .slice none 0 0, .slice none 0 0, .int .i64 0] ∧ Below w.heap.size w w' := by
  have B0 := hide (below1 w (Obj.cells #[.slice A1 p.init.length c1, .slice A2 p.ts.length c2] 31))
  have G0 := hide (Blk.new w 31 #[.slice A1 p.init.length c1, .slice A2 p.ts.length c2])
  replace hi := hide hi
  go_enter Try.func83, Try.ntmps83
  go_wp2_with fail
  refine (commonStart_up A1 A2 p.init.length p.ts.length c1 c2 _ h3).mono ?_
  rintro e w1 ⟨qp, A5, c5, rs, rfl, hrl, hsix, ⟨hpc, hq1, hq2⟩, hrow, hsz, hb1⟩
  simp only [World.size_alloc] at hq1 hq2 hrow hsz
  have B1 := hide (below_then B0.out hb1)
  have G1 := hide (G0.out.below hb1 G0.out.lt)
  have lg := G1.out.lt
  have g0 : w1.cell? ⟨w.heap.size, 0, none⟩ = some (.slice A1 p.init.length c1) := G1.out.cell 0
  have g1 : w1.cell? ⟨w.heap.size, 1, none⟩ = some (.slice A2 p.ts.length c2) := G1.out.cell 1
  have hlen : ∀ k, k < rs.length → (getr rs k).zs.length = (getr rs k).n ∧ (getr rs k).n ≤ 1048576 := fun k hk => by
    obtain ⟨e1, e2⟩ := hsix k hk
    rw [e1, e2, zerosS_len]
    exact ⟨rfl, by omega⟩
  have hlen := hide hlen
  have hsix := hide hsix
  have P1 := hide hpc
  have F1 := hide hrow
  obtain ⟨w2, hw2⟩ : ∃ x, x = w1.alloc (Obj.cells #[.slice A1 p.init.length c1, .slice A2 p.ts.length c2, .slice (some ⟨qp, 0, none⟩) p.ts.length p.ts.length, .slice A5 p.ts.length c5] 135) := ⟨_, rfl⟩
  have hz2 : w1.heap.size < w2.heap.size := by rw [hw2]; simp
  have C2 := hide (show Blk w2 w1.heap.size 135 #[.slice A1 p.init.length c1, .slice A2 p.ts.length c2, .slice (some ⟨qp, 0, none⟩) p.ts.length p.ts.length, .slice A5 p.ts.length c5] from by rw [hw2]; exact Blk.new _ _ _)
  have hb2 : Below w1.heap.size w1 w2 := by rw [hw2]; exact below1 _ _
  have G2 := hide (G1.out.below hb2 G1.out.lt)
  have B2 := hide (B1.out.trans (hb2.mono B1.out.size))
  have P2 := hide (P1.out.below hb2)
  have F2 := hide (F1.out.next hb2)
  clear hpc hrow hb1 B0 G0
  have hmb := make_rowsBuf p.ts.length (by omega)
  have hC := hide (fun (W : World) (hg : Blk W w.heap.size 31 #[.slice A1 p.init.length c1, .slice A2 p.ts.length c2]) (hc : Blk W w1.heap.size 135 #[.slice A1 p.init.length c1, .slice A2 p.ts.length c2, .slice (some ⟨qp, 0, none⟩) p.ts.length p.ts.length, .slice A5 p.ts.length c5]) => show W.cell? ⟨w.heap.size, 0, none⟩ = some (.slice A1 p.init.length c1) ∧ W.cell? ⟨w.heap.size, 1, none⟩ = some (.slice A2 p.ts.length c2) ∧ W.cell? ⟨w1.heap.size, 0, none⟩ = some (.slice A1 p.init.length c1) ∧ W.cell? ⟨w1.heap.size, 1, none⟩ = some (.slice A2 p.ts.length c2) ∧ W.cell? ⟨w1.heap.size, 2, none⟩ = some (.slice (some ⟨qp, 0, none⟩) p.ts.length p.ts.length) ∧ W.cell? ⟨w1.heap.size, 3, none⟩ = some (.slice A5 p.ts.length c5) from ⟨hg.cell 0, hg.cell 1, hc.cell 0, hc.cell 1, hc.cell 2, hc.cell 3⟩)
  go_wp2_with fail
  rw [← hw2]
  clear hw2 hb2 g0 g1
  go_wp2_with fail
  refine wp_region_held_drew (S := (fun wq : World => wq.cell? ⟨w.heap.size, 0, none⟩ = some (.slice A1 p.init.length c1) ∧ wq.cell? ⟨w.heap.size, 1, none⟩ = some (.slice A2 p.ts.length c2) ∧ wq.cell? ⟨w1.heap.size, 0, none⟩ = some (.slice A1 p.init.length c1) ∧ wq.cell? ⟨w1.heap.size, 1, none⟩ = some (.slice A2 p.ts.length c2) ∧ wq.cell? ⟨w1.heap.size, 2, none⟩ = some (.slice (some ⟨qp, 0, none⟩) p.ts.length p.ts.length) ∧ wq.cell? ⟨w1.heap.size, 3, none⟩ = some (.slice A5 p.ts.length c5))) (by kernel_rfl) ?_ (fun hHeld => ?_)
  · exact hC.out w2.drew G2.out C2.out
  refine wpAnyH_take (i := 0) (oi := { dst := some 20, op := Op.load 135 (Operand.tmp 5), type := 135, pos := "l02_state.go:162", after := #[], guard := none }) (v := ?_) rfl (by kernel_rfl) (by kernel_rfl) (by kernel_rfl) (fun _ _ _ h => h) (Or.inl ⟨by rfl, ?_⟩) hHeld ?_
  rotate_left
  · (intro wq hSw; (try dsimp only at hSw); first | (go_simp; done) | (go_simp; with_reducible rfl))
  try simp only [Act.put, qa, qb, qc]
  refine wpAnyH_take (i := 1) (oi := { dst := some 21, op := Op.fieldAddr 31 (Operand.tmp 2) 0, type := 0, pos := "l02_state.go:162", after := #[], guard := none }) (v := ?_) rfl (by kernel_rfl) (by kernel_rfl) (by kernel_rfl) (fun _ _ _ h => h) (Or.inl ⟨by rfl, ?_⟩) hHeld ?_
  rotate_left
  · (intro wq hSw; (try dsimp only at hSw); first | (go_simp; done) | (go_simp; with_reducible rfl))
  try simp only [Act.put, qa, qb, qc]
  refine wpAnyH_take (i := 2) (oi := { dst := some 22, op := Op.load 22 (Operand.tmp 21), type := 22, pos := "l02_state.go:162", after := #[{ on := 1, ground := Ground.data }], guard := none }) (v := ?_) rfl (by kernel_rfl) (by kernel_rfl) (by kernel_rfl) (fun _ _ _ h => h) (Or.inl ⟨by rfl, ?_⟩) hHeld ?_
  rotate_left
  · (intro wq hSw; (try dsimp only at hSw); first | (go_simp; done) | (go_simp; with_reducible rfl))
  try simp only [Act.put, qa, qb, qc]
  refine wpAnyH_take (i := 4) (oi := { dst := some 24, op := Op.fieldAddr 31 (Operand.tmp 2) 1, type := 0, pos := "l02_state.go:162", after := #[], guard := none }) (v := ?_) rfl (by kernel_rfl) (by kernel_rfl) (by kernel_rfl) (fun _ _ _ h => h) (Or.inl ⟨by rfl, ?_⟩) hHeld ?_
  rotate_left
  · (intro wq hSw; (try dsimp only at hSw); first | (go_simp; done) | (go_simp; with_reducible rfl))
  try simp only [Act.put, qa, qb, qc]
  refine wpAnyH_take (i := 5) (oi := { dst := some 25, op := Op.load 29 (Operand.tmp 24), type := 29, pos := "l02_state.go:162", after := #[{ on := 4, ground := Ground.data }], guard := none }) (v := ?_) rfl (by kernel_rfl) (by kernel_rfl) (by kernel_rfl) (fun _ _ _ h => h) (Or.inl ⟨by rfl, ?_⟩) hHeld ?_
  rotate_left
  · (intro wq hSw; (try dsimp only at hSw); first | (go_simp; done) | (go_simp; with_reducible rfl))
  try simp only [Act.put, qa, qb, qc]
  refine wpAnyH_take (i := 6) (oi := { dst := some 26, op := Op.call { callee := Callee.builtin Builtin.len, args := #[Operand.tmp 25], argTypes := #[29] }, type := 3, pos := "l02_state.go:162", after := #[{ on := 5, ground := Ground.data }], guard := none }) (v := ?_) rfl (by kernel_rfl) (by kernel_rfl) (by kernel_rfl) (fun _ _ _ h => h) (Or.inl ⟨by rfl, ?_⟩) hHeld ?_
  rotate_left
  · (intro wq hSw; (try dsimp only at hSw); first | (go_simp; done) | (go_simp; with_reducible rfl))
  try simp only [Act.put, qa, qb, qc]
  refine wpAnyH_ready (rs := [3, 7]) (by kernel_rfl) (by simp) ?_
  refine AllReadyH.cons (o := { dst := some 23, op := Op.call { callee := Callee.value (Operand.func 66), args := #[Operand.tmp 22], argTypes := #[22] }, type := 22, pos := "l02_state.go:162", after := #[{ on := 2, ground := Ground.data }], guard := none }) rfl (fun K hK => ?_) (AllReadyH.cons (o := { dst := some 27, op := Op.makeSlice 45 (Operand.tmp 26) (Operand.tmp 26), type := 45, pos := "l02_state.go:162", after := #[{ on := 6, ground := Ground.data }, { on := 6, ground := Ground.data }], guard := none }) rfl (fun K hK => ?_) (AllReadyH.nil))
  · go_simp
    go_at_call 66; refine (cloneInts_any A1 p.init p.init.length c1 w2.drew rfl (by omega) ((hi.out.below (B2.out.drew) (fun b (h : b < n) => Nat.lt_of_lt_of_le h hn)).more (fun b (h : b < n) => show b < w2.drew.heap.size from Nat.lt_of_lt_of_le h (Nat.le_trans hn (B2.out.drew).size)))).mono ?_; rintro e wm ⟨A3, c3, rfl, hown, hbm⟩
    have Gm := hide (Blk.below (w := w2.drew) G2.out hbm (by exact (Blk.lt (w := w2.drew) G2.out)))
    have Cm := hide (Blk.below (w := w2.drew) C2.out hbm (by exact (Blk.lt (w := w2.drew) C2.out)))
    have Bm := hide ((B2.out.drew).trans (hbm.mono (B2.out.drew).size))
    have Pm := hide (RowT.below (w := w2.drew) P2.out hbm)
    have Fm := hide (RowsI.next (F2.out.next (Below.refl _ _).drew) hbm)
    have Mm := hide (RvI.of (RvT.of_own hown))
    have hzm : w2.heap.size ≤ wm.heap.size := hbm.size
    clear hown hbm
    refine hK.out _ _ ?_ (fun hHeldN => ?_)
    · exact hC.out _ Gm.out Cm.out
    clear hK K hHeld
    have hHeld := hHeldN
    clear hHeldN
    try simp only [Act.put, qa, qb, qc]
    refine wpAnyH_ready (rs := [7]) (by kernel_rfl) (by simp) ?_
    refine AllReadyH.cons (o := { dst := some 27, op := Op.makeSlice 45 (Operand.tmp 26) (Operand.tmp 26), type := 45, pos := "l02_state.go:162", after := #[{ on := 6, ground := Ground.data }, { on := 6, ground := Ground.data }], guard := none }) rfl (fun K hK => ?_) (AllReadyH.nil)
    · go_simp
      refine hK.out _ _ ?_ (fun hHeldN => ?_)
      · exact hC.out _ (Gm.out.alloc (Obj.cells (zrow #[.slice none 0 0] p.ts.length) 182)) (Cm.out.alloc (Obj.cells (zrow #[.slice none 0 0] p.ts.length) 182))
      clear hK K hHeld
      have hHeld := hHeldN
      clear hHeldN
      try simp only [Act.put, qa, qb, qc]
      refine wpAnyH_take (i := 8) (oi := { dst := some 28, op := Op.build 141 #[(0, Operand.tmp 20), (1, Operand.tmp 23), (2, Operand.tmp 27)], type := 141, pos := "l02_state.go:162", after := #[{ on := 0, ground := Ground.data }, { on := 3, ground := Ground.data }, { on := 7, ground := Ground.data }], guard := none }) (v := ?_) rfl (by kernel_rfl) (by kernel_rfl) (by kernel_rfl) (fun _ _ _ h => h) (Or.inl ⟨by rfl, ?_⟩) hHeld ?_
      rotate_left
      · (intro wq hSw; (try dsimp only at hSw); first | (go_simp; done) | (go_simp; with_reducible rfl))
      try simp only [Act.put, qa, qb, qc]
      refine wpAnyH_ready (rs := [9]) (by kernel_rfl) (by simp) ?_
      refine AllReadyH.cons (o := { dst := some 29, op := Op.box 141 (Operand.tmp 28), type := 139, pos := "l02_state.go:162", after := #[{ on := 8, ground := Ground.data }], guard := none }) rfl (fun K hK => ?_) (AllReadyH.nil)
      · go_simp
        refine hK.out _ _ ?_ (fun hHeldN => ?_)
        · exact hC.out _ ((Gm.out.alloc _).alloc _) ((Cm.out.alloc _).alloc _)
        clear hK K hHeld
        have hHeld := hHeldN
        clear hHeldN
        try simp only [Act.put, qa, qb, qc]
        refine wpAnyH_take (i := 10) (oi := { dst := some 30, op := Op.makeInterface 139 (Operand.tmp 29), type := 20, pos := "l02_state.go:162", after := #[{ on := 9, ground := Ground.data }], guard := none }) (v := ?_) rfl (by kernel_rfl) (by kernel_rfl) (by kernel_rfl) (fun _ _ _ h => h) (Or.inl ⟨by rfl, ?_⟩) hHeld ?_
        rotate_left
        · (intro wq hSw; (try dsimp only at hSw); first | (go_simp; done) | (go_simp; with_reducible rfl))
        try simp only [Act.put, qa, qb, qc]
        refine wpAnyH_take (i := 11) (oi := { dst := some 4, op := Op.assign (Operand.tmp 30), type := 20, pos := "l02_state.go:162", after := #[{ on := 10, ground := Ground.data }, { on := 3, ground := Ground.chain }, { on := 0, ground := Ground.phase }, { on := 1, ground := Ground.phase }, { on := 2, ground := Ground.phase }, { on := 3, ground := Ground.phase }, { on := 4, ground := Ground.phase }, { on := 5, ground := Ground.phase }, { on := 6, ground := Ground.phase }, { on := 7, ground := Ground.phase }, { on := 8, ground := Ground.phase }, { on := 9, ground := Ground.phase }, { on := 10, ground := Ground.phase }], guard := none }) (v := ?_) rfl (by kernel_rfl) (by kernel_rfl) (by kernel_rfl) (fun _ _ _ h => h) (Or.inl ⟨by rfl, ?_⟩) hHeld ?_
        rotate_left
        · (intro wq hSw; (try dsimp only at hSw); first | (go_simp; done) | (go_simp; with_reducible rfl))
        try simp only [Act.put, qa, qb, qc]
        refine wpAnyH_done (by kernel_rfl) ?_ _
        obtain ⟨d, hd⟩ : ∃ d : StD, d = ⟨1, ⟨qp, qp + 1, some ⟨qp, 0, none⟩, p.ts.length, p.ts.length, zerosS p.ts.length⟩, ⟨w.heap.size + 1 + 1 + 1 + 1 + 1, w1.heap.size, A5, p.ts.length, c5, rs⟩, ⟨w2.heap.size, wm.heap.size, A3, p.init.length, c3, p.init⟩, ⟨wm.heap.size, wm.heap.size + 1, some ⟨wm.heap.size, 0, none⟩, p.ts.length, p.ts.length, List.replicate p.ts.length (nilRow wm.heap.size)⟩, nilHists w.heap.size, nilRows w.heap.size, nilRow w.heap.size, 0⟩ := ⟨_, rfl⟩
        have hIn := hide (show StIn ((wm.alloc (Obj.cells (zrow #[.slice none 0 0] p.ts.length) 182)).alloc (Obj.cells #[.slice A1 p.init.length c1, .slice A2 p.ts.length c2, .slice (some ⟨qp, 0, none⟩) p.ts.length p.ts.length, .slice A5 p.ts.length c5, .slice A3 p.init.length c3, .slice (some ⟨wm.heap.size, 0, none⟩) p.ts.length p.ts.length] 141)) d from by
          subst hd
          refine ⟨⟨⟨.inr ⟨_, _, rfl, Pm.out.below ((below1 wm (Obj.cells (zrow #[.slice none 0 0] p.ts.length) 182)).trans ((below1 _ (Obj.cells #[.slice A1 p.init.length c1, .slice A2 p.ts.length c2, .slice (some ⟨qp, 0, none⟩) p.ts.length p.ts.length, .slice A5 p.ts.length c5, .slice A3 p.init.length c3, .slice (some ⟨wm.heap.size, 0, none⟩) p.ts.length p.ts.length] 141)).mono (by simp))), Nat.le_refl _⟩, fun b hb => ?_⟩, zerosS_len _, by show p.ts.length ≤ 1048576; omega⟩, ⟨Fm.out.next ((below1 wm (Obj.cells (zrow #[.slice none 0 0] p.ts.length) 182)).trans ((below1 _ (Obj.cells #[.slice A1 p.init.length c1, .slice A2 p.ts.length c2, .slice (some ⟨qp, 0, none⟩) p.ts.length p.ts.length, .slice A5 p.ts.length c5, .slice A3 p.init.length c3, .slice (some ⟨wm.heap.size, 0, none⟩) p.ts.length p.ts.length] 141)).mono (by simp))), hrl, by show p.ts.length ≤ 1048576; omega, hlen.out⟩, ⟨Mm.out.next ((below1 wm (Obj.cells (zrow #[.slice none 0 0] p.ts.length) 182)).trans ((below1 _ (Obj.cells #[.slice A1 p.init.length c1, .slice A2 p.ts.length c2, .slice (some ⟨qp, 0, none⟩) p.ts.length p.ts.length, .slice A5 p.ts.length c5, .slice A3 p.init.length c3, .slice (some ⟨wm.heap.size, 0, none⟩) p.ts.length p.ts.length] 141)).mono (by simp))), rfl, by show p.init.length ≤ 1048576; omega⟩, zbufs_ok ((Blk.new wm _ _).alloc _) h3, nilHists_ok _ _, nilRows_okF _ _, nilRow_ok _ _, ?_, ?_⟩
          · simp [Value.ownBlock] at hb
            show b < qp + 1
            omega
          · refine fun i j hij hj => iv_pair ?_ i j hij (by simpa using hj)
            simp [nilRow, nilRows, nilHists]
            omega
          · intro i hi
            have h7 : i = 0 ∨ i = 1 ∨ i = 2 ∨ i = 3 ∨ i = 4 ∨ i = 5 ∨ i = 6 := by omega
            rcases h7 with rfl | rfl | rfl | rfl | rfl | rfl | rfl <;> simp [StD.iv, nilRow, nilRows, nilHists] <;> omega)
        have hSame := hide (show SameSt (startC p 1) d from by
          subst hd
          refine ⟨rfl, ⟨rfl, rfl⟩, ⟨by simp [startC, hrl], fun k hk => ?_⟩, ⟨rfl, rfl⟩, ⟨by simp [startC], fun k hk => (?_ : _ ∧ _)⟩, rfl, ⟨rfl, fun k hk => by simp [startC, nilRows] at hk⟩, ⟨rfl, rfl⟩, rfl⟩
          · have hk' : k < p.ts.length := by simpa [startC] using hk
            obtain ⟨e1, e2⟩ := hsix.out k (by omega)
            show (getr (List.replicate p.ts.length (zrowD 0 6)) k).n = (getr rs k).n ∧ (getr (List.replicate p.ts.length (zrowD 0 6)) k).zs = (getr rs k).zs
            rw [getr_rep _ _ _ hk', e1, e2]
            exact ⟨rfl, rfl⟩
          · have hk' : k < p.ts.length := by simpa [startC] using hk
            show (getr (List.replicate p.ts.length row0) k).n = (getr (List.replicate p.ts.length (nilRow wm.heap.size)) k).n ∧ (getr (List.replicate p.ts.length row0) k).zs = (getr (List.replicate p.ts.length (nilRow wm.heap.size)) k).zs
            rw [getr_rep _ _ _ hk', getr_rep _ _ _ hk']
            exact ⟨rfl, rfl⟩)
        have hlo := hide (show ∀ i, i < 7 → w.heap.size ≤ (d.iv i).1 from by
          subst hd
          intro i hi
          have h7 : i = 0 ∨ i = 1 ∨ i = 2 ∨ i = 3 ∨ i = 4 ∨ i = 5 ∨ i = 6 := by omega
          rcases h7 with rfl | rfl | rfl | rfl | rfl | rfl | rfl <;> simp [StD.iv, nilRow, nilRows, nilHists] <;> omega)
        have hBl := hide (show Blk ((wm.alloc (Obj.cells (zrow #[.slice none 0 0] p.ts.length) 182)).alloc (Obj.cells #[.slice A1 p.init.length c1, .slice A2 p.ts.length c2, .slice (some ⟨qp, 0, none⟩) p.ts.length p.ts.length, .slice A5 p.ts.length c5, .slice A3 p.init.length c3, .slice (some ⟨wm.heap.size, 0, none⟩) p.ts.length p.ts.length] 141)) (wm.heap.size + 1) 141 #[.slice A1 p.init.length c1, .slice A2 p.ts.length c2, .slice d.pc.A d.pc.n d.pc.c, .slice d.F.A d.F.n d.F.c, .slice d.mem.A d.mem.n d.mem.c, .slice d.bufs.A d.bufs.n d.bufs.c] from by subst hd; exact (by have := Blk.new (wm.alloc (Obj.cells (zrow #[.slice none 0 0] p.ts.length) 182)) 141 #[.slice A1 p.init.length c1, .slice A2 p.ts.length c2, .slice (some ⟨qp, 0, none⟩) p.ts.length p.ts.length, .slice A5 p.ts.length c5, .slice A3 p.init.length c3, .slice (some ⟨wm.heap.size, 0, none⟩) p.ts.length p.ts.length]; rw [World.size_alloc] at this; exact this))
        have hDc := hide (show d.cells = #[.int .i64 1, .slice d.pc.A d.pc.n d.pc.c, .slice d.F.A d.F.n d.F.c, .slice d.mem.A d.mem.n d.mem.c, .slice d.bufs.A d.bufs.n d.bufs.c, .slice none 0 0, .slice none 0 0, .slice none 0 0, .int .i64 0] from by subst hd; rfl)
        have hBf := hide (show Below w.heap.size w ((wm.alloc (Obj.cells (zrow #[.slice none 0 0] p.ts.length) 182)).alloc (Obj.cells #[.slice A1 p.init.length c1, .slice A2 p.ts.length c2, .slice (some ⟨qp, 0, none⟩) p.ts.length p.ts.length, .slice A5 p.ts.length c5, .slice A3 p.init.length c3, .slice (some ⟨wm.heap.size, 0, none⟩) p.ts.length p.ts.length] 141)) from (Bm.out.alloc Bm.out.size _).alloc (Bm.out.alloc Bm.out.size (Obj.cells (zrow #[.slice none 0 0] p.ts.length) 182)).size _)
        clear hd
        
        go_wp2_with fail
        go_ret
        exact ⟨(wm.heap.size + 1), d, rfl, hBl.out, hIn.out, hlo.out, hSame.out, hDc.out, hBf.out⟩
  · go_simp
    refine hK.out _ _ ?_ (fun hHeldN => ?_)
    · exact hC.out _ (Blk.alloc (w := w2.drew) G2.out (Obj.cells (zrow #[.slice none 0 0] p.ts.length) 182)) (Blk.alloc (w := w2.drew) C2.out (Obj.cells (zrow #[.slice none 0 0] p.ts.length) 182))
    clear hK K hHeld
    have hHeld := hHeldN
    clear hHeldN
    try simp only [Act.put, qa, qb, qc]
    refine wpAnyH_ready (rs := [3]) (by kernel_rfl) (by simp) ?_
    refine AllReadyH.cons (o := { dst := some 23, op := Op.call { callee := Callee.value (Operand.func 66), args := #[Operand.tmp 22], argTypes := #[22] }, type := 22, pos := "l02_state.go:162", after := #[{ on := 2, ground := Ground.data }], guard := none }) rfl (fun K hK => ?_) (AllReadyH.nil)
    · go_simp
      go_at_call 66; refine (cloneInts_any A1 p.init p.init.length c1 (w2.drew.alloc (Obj.cells (zrow #[.slice none 0 0] p.ts.length) 182)) rfl (by omega) ((hi.out.below ((B2.out.drew.alloc B2.out.size (Obj.cells (zrow #[.slice none 0 0] p.ts.length) 182))) (fun b (h : b < n) => Nat.lt_of_lt_of_le h hn)).more (fun b (h : b < n) => show b < (w2.drew.alloc (Obj.cells (zrow #[.slice none 0 0] p.ts.length) 182)).heap.size from Nat.lt_of_lt_of_le h (Nat.le_trans hn ((B2.out.drew.alloc B2.out.size (Obj.cells (zrow #[.slice none 0 0] p.ts.length) 182))).size)))).mono ?_; rintro e wm ⟨A3, c3, rfl, hown, hbm⟩
      have Gm := hide (Blk.below (w := (w2.drew.alloc (Obj.cells (zrow #[.slice none 0 0] p.ts.length) 182))) (Blk.alloc (w := w2.drew) G2.out (Obj.cells (zrow #[.slice none 0 0] p.ts.length) 182)) hbm (by exact (Blk.lt (w := (w2.drew.alloc (Obj.cells (zrow #[.slice none 0 0] p.ts.length) 182))) (Blk.alloc (w := w2.drew) G2.out (Obj.cells (zrow #[.slice none 0 0] p.ts.length) 182)))))
      have Cm := hide (Blk.below (w := (w2.drew.alloc (Obj.cells (zrow #[.slice none 0 0] p.ts.length) 182))) (Blk.alloc (w := w2.drew) C2.out (Obj.cells (zrow #[.slice none 0 0] p.ts.length) 182)) hbm (by exact (Blk.lt (w := (w2.drew.alloc (Obj.cells (zrow #[.slice none 0 0] p.ts.length) 182))) (Blk.alloc (w := w2.drew) C2.out (Obj.cells (zrow #[.slice none 0 0] p.ts.length) 182)))))
      have Bm := hide (((B2.out.drew.alloc B2.out.size (Obj.cells (zrow #[.slice none 0 0] p.ts.length) 182))).trans (hbm.mono ((B2.out.drew.alloc B2.out.size (Obj.cells (zrow #[.slice none 0 0] p.ts.length) 182))).size))
      have Pm := hide (RowT.below (w := (w2.drew.alloc (Obj.cells (zrow #[.slice none 0 0] p.ts.length) 182))) (RowT.below (w := w2.drew) P2.out (below1 _ (Obj.cells (zrow #[.slice none 0 0] p.ts.length) 182))) hbm)
      have Fm := hide (RowsI.next ((F2.out.next (Below.refl _ _).drew).next (below1 _ (Obj.cells (zrow #[.slice none 0 0] p.ts.length) 182))) hbm)
      have Mm := hide (RvI.of (RvT.of_own hown))
      have Zm := hide (Blk.below (Blk.new w2.drew 182 (zrow #[.slice none 0 0] p.ts.length)) hbm (by show w2.heap.size < _; simp))
      have hzm : w2.heap.size + 1 ≤ wm.heap.size := by have := hbm.size; simp at this; exact this
      clear hown hbm
      refine hK.out _ _ ?_ (fun hHeldN => ?_)
      · exact hC.out _ Gm.out Cm.out
      clear hK K hHeld
      have hHeld := hHeldN
      clear hHeldN
      try simp only [Act.put, qa, qb, qc]
      refine wpAnyH_take (i := 8) (oi := { dst := some 28, op := Op.build 141 #[(0, Operand.tmp 20), (1, Operand.tmp 23), (2, Operand.tmp 27)], type := 141, pos := "l02_state.go:162", after := #[{ on := 0, ground := Ground.data }, { on := 3, ground := Ground.data }, { on := 7, ground := Ground.data }], guard := none }) (v := ?_) rfl (by kernel_rfl) (by kernel_rfl) (by kernel_rfl) (fun _ _ _ h => h) (Or.inl ⟨by rfl, ?_⟩) hHeld ?_
      rotate_left
      · (intro wq hSw; (try dsimp only at hSw); first | (go_simp; done) | (go_simp; with_reducible rfl))
      try simp only [Act.put, qa, qb, qc]
      refine wpAnyH_ready (rs := [9]) (by kernel_rfl) (by simp) ?_
      refine AllReadyH.cons (o := { dst := some 29, op := Op.box 141 (Operand.tmp 28), type := 139, pos := "l02_state.go:162", after := #[{ on := 8, ground := Ground.data }], guard := none }) rfl (fun K hK => ?_) (AllReadyH.nil)
      · go_simp
        refine hK.out _ _ ?_ (fun hHeldN => ?_)
        · exact hC.out _ (Gm.out.alloc _) (Cm.out.alloc _)
        clear hK K hHeld
        have hHeld := hHeldN
        clear hHeldN
        try simp only [Act.put, qa, qb, qc]
        refine wpAnyH_take (i := 10) (oi := { dst := some 30, op := Op.makeInterface 139 (Operand.tmp 29), type := 20, pos := "l02_state.go:162", after := #[{ on := 9, ground := Ground.data }], guard := none }) (v := ?_) rfl (by kernel_rfl) (by kernel_rfl) (by kernel_rfl) (fun _ _ _ h => h) (Or.inl ⟨by rfl, ?_⟩) hHeld ?_
        rotate_left
        · (intro wq hSw; (try dsimp only at hSw); first | (go_simp; done) | (go_simp; with_reducible rfl))
        try simp only [Act.put, qa, qb, qc]
        refine wpAnyH_take (i := 11) (oi := { dst := some 4, op := Op.assign (Operand.tmp 30), type := 20, pos := "l02_state.go:162", after := #[{ on := 10, ground := Ground.data }, { on := 3, ground := Ground.chain }, { on := 0, ground := Ground.phase }, { on := 1, ground := Ground.phase }, { on := 2, ground := Ground.phase }, { on := 3, ground := Ground.phase }, { on := 4, ground := Ground.phase }, { on := 5, ground := Ground.phase }, { on := 6, ground := Ground.phase }, { on := 7, ground := Ground.phase }, { on := 8, ground := Ground.phase }, { on := 9, ground := Ground.phase }, { on := 10, ground := Ground.phase }], guard := none }) (v := ?_) rfl (by kernel_rfl) (by kernel_rfl) (by kernel_rfl) (fun _ _ _ h => h) (Or.inl ⟨by rfl, ?_⟩) hHeld ?_
        rotate_left
        · (intro wq hSw; (try dsimp only at hSw); first | (go_simp; done) | (go_simp; with_reducible rfl))
        try simp only [Act.put, qa, qb, qc]
        refine wpAnyH_done (by kernel_rfl) ?_ _
        obtain ⟨d, hd⟩ : ∃ d : StD, d = ⟨1, ⟨qp, qp + 1, some ⟨qp, 0, none⟩, p.ts.length, p.ts.length, zerosS p.ts.length⟩, ⟨w.heap.size + 1 + 1 + 1 + 1 + 1, w1.heap.size, A5, p.ts.length, c5, rs⟩, ⟨w2.heap.size + 1, wm.heap.size, A3, p.init.length, c3, p.init⟩, ⟨w2.heap.size, w2.heap.size + 1, some ⟨w2.heap.size, 0, none⟩, p.ts.length, p.ts.length, List.replicate p.ts.length (nilRow w2.heap.size)⟩, nilHists w.heap.size, nilRows w.heap.size, nilRow w.heap.size, 0⟩ := ⟨_, rfl⟩
        have hIn := hide (show StIn (wm.alloc (Obj.cells #[.slice A1 p.init.length c1, .slice A2 p.ts.length c2, .slice (some ⟨qp, 0, none⟩) p.ts.length p.ts.length, .slice A5 p.ts.length c5, .slice A3 p.init.length c3, .slice (some ⟨w2.heap.size, 0, none⟩) p.ts.length p.ts.length] 141)) d from by
          subst hd
          refine ⟨⟨⟨.inr ⟨_, _, rfl, Pm.out.below (below1 wm _), Nat.le_refl _⟩, fun b hb => ?_⟩, zerosS_len _, by show p.ts.length ≤ 1048576; omega⟩, ⟨Fm.out.next (below1 wm _), hrl, by show p.ts.length ≤ 1048576; omega, hlen.out⟩, ⟨(Mm.out.base (by simp)).next (below1 wm _), rfl, by show p.init.length ≤ 1048576; omega⟩, zbufs_ok (Zm.out.alloc _) h3, nilHists_ok _ _, nilRows_okF _ _, nilRow_ok _ _, ?_, ?_⟩
          · simp [Value.ownBlock] at hb
            show b < qp + 1
            omega
          · refine fun i j hij hj => iv_pair ?_ i j hij (by simpa using hj)
            simp [nilRow, nilRows, nilHists]
            omega
          · intro i hi
            have h7 : i = 0 ∨ i = 1 ∨ i = 2 ∨ i = 3 ∨ i = 4 ∨ i = 5 ∨ i = 6 := by omega
            rcases h7 with rfl | rfl | rfl | rfl | rfl | rfl | rfl <;> simp [StD.iv, nilRow, nilRows, nilHists] <;> omega)
        have hSame := hide (show SameSt (startC p 1) d from by
          subst hd
          refine ⟨rfl, ⟨rfl, rfl⟩, ⟨by simp [startC, hrl], fun k hk => ?_⟩, ⟨rfl, rfl⟩, ⟨by simp [startC], fun k hk => (?_ : _ ∧ _)⟩, rfl, ⟨rfl, fun k hk => by simp [startC, nilRows] at hk⟩, ⟨rfl, rfl⟩, rfl⟩
          · have hk' : k < p.ts.length := by simpa [startC] using hk
            obtain ⟨e1, e2⟩ := hsix.out k (by omega)
            show (getr (List.replicate p.ts.length (zrowD 0 6)) k).n = (getr rs k).n ∧ (getr (List.replicate p.ts.length (zrowD 0 6)) k).zs = (getr rs k).zs
            rw [getr_rep _ _ _ hk', e1, e2]
            exact ⟨rfl, rfl⟩
          · have hk' : k < p.ts.length := by simpa [startC] using hk
            show (getr (List.replicate p.ts.length row0) k).n = (getr (List.replicate p.ts.length (nilRow w2.heap.size)) k).n ∧ (getr (List.replicate p.ts.length row0) k).zs = (getr (List.replicate p.ts.length (nilRow w2.heap.size)) k).zs
            rw [getr_rep _ _ _ hk', getr_rep _ _ _ hk']
            exact ⟨rfl, rfl⟩)
        have hlo := hide (show ∀ i, i < 7 → w.heap.size ≤ (d.iv i).1 from by
          subst hd
          intro i hi
          have h7 : i = 0 ∨ i = 1 ∨ i = 2 ∨ i = 3 ∨ i = 4 ∨ i = 5 ∨ i = 6 := by omega
          rcases h7 with rfl | rfl | rfl | rfl | rfl | rfl | rfl <;> simp [StD.iv, nilRow, nilRows, nilHists] <;> omega)
        have hBl := hide (show Blk (wm.alloc (Obj.cells #[.slice A1 p.init.length c1, .slice A2 p.ts.length c2, .slice (some ⟨qp, 0, none⟩) p.ts.length p.ts.length, .slice A5 p.ts.length c5, .slice A3 p.init.length c3, .slice (some ⟨w2.heap.size, 0, none⟩) p.ts.length p.ts.length] 141)) wm.heap.size 141 #[.slice A1 p.init.length c1, .slice A2 p.ts.length c2, .slice d.pc.A d.pc.n d.pc.c, .slice d.F.A d.F.n d.F.c, .slice d.mem.A d.mem.n d.mem.c, .slice d.bufs.A d.bufs.n d.bufs.c] from by subst hd; exact Blk.new _ _ _)
        have hDc := hide (show d.cells = #[.int .i64 1, .slice d.pc.A d.pc.n d.pc.c, .slice d.F.A d.F.n d.F.c, .slice d.mem.A d.mem.n d.mem.c, .slice d.bufs.A d.bufs.n d.bufs.c, .slice none 0 0, .slice none 0 0, .slice none 0 0, .int .i64 0] from by subst hd; rfl)
        have hBf := hide (show Below w.heap.size w (wm.alloc (Obj.cells #[.slice A1 p.init.length c1, .slice A2 p.ts.length c2, .slice (some ⟨qp, 0, none⟩) p.ts.length p.ts.length, .slice A5 p.ts.length c5, .slice A3 p.init.length c3, .slice (some ⟨w2.heap.size, 0, none⟩) p.ts.length p.ts.length] 141)) from Bm.out.alloc Bm.out.size _)
        clear hd
        
        go_wp2_with fail
        go_ret
        exact ⟨wm.heap.size, d, rfl, hBl.out, hIn.out, hlo.out, hSame.out, hDc.out, hBf.out⟩

set_option maxRecDepth 100000 in
set_option maxHeartbeats 12800000 in
theorem kindStart_2 (p : ProgD) (A1 A2 : Option Addr) (c1 c2 n : Nat) (w : World) (hn : n ≤ w.heap.size) (hi : IntsAt w (Old n) A1 p.init) (h1 : 1 ≤ p.init.length) (h6 : p.init.length ≤ 6) (h3 : p.ts.length ≤ 3) :
    Calls Try.prog 83 #[.agg #[.slice A1 p.init.length c1, .slice A2 p.ts.length c2], .int .i64 2] w fun e w' => ∃ (T : Nat) (d : StD), e = .returned (.iface 142 (.pointer (some ⟨T, 0, none⟩))) ∧ Blk w' T 144 #[.slice A1 p.init.length c1, .slice A2 p.ts.length c2, .slice d.pc.A d.pc.n d.pc.c, .slice d.F.A d.F.n d.F.c, .slice d.H.A d.H.n d.H.c, .slice d.view.A d.view.n d.view.c, .slice d.sc.A d.sc.n d.sc.c, .int .i64 d.next] ∧ StIn w' d ∧ (∀ i, i < 7 → w.heap.size ≤ (d.iv i).1) ∧ SameSt (startV p) d ∧ d.cells = #[.int .i64 2, .slice d.pc.A d.pc.n d.pc.c, .slice d.F.A d.F.n d.F.c, .slice none 0 0, .slice none 0 0, .slice d.H.A d.H.n d.H.c, .slice d.view.A d.view.n d.view.c, .slice d.sc.A d.sc.n d.sc.c, .int .i64 d.next] ∧ Below w.heap.size w w' := by
  have B0 := hide (below1 w (Obj.cells #[.slice A1 p.init.length c1, .slice A2 p.ts.length c2] 31))
  have G0 := hide (Blk.new w 31 #[.slice A1 p.init.length c1, .slice A2 p.ts.length c2])
  replace hi := hide hi
  go_enter Try.func83, Try.ntmps83
  go_wp2_with fail
  refine (commonStart_up A1 A2 p.init.length p.ts.length c1 c2 _ h3).mono ?_
  rintro e w1 ⟨qp, A5, c5, rs, rfl, hrl, hsix, ⟨hpc, hq1, hq2⟩, hrow, hsz, hb1⟩
  simp only [World.size_alloc] at hq1 hq2 hrow hsz
  have B1 := hide (below_then B0.out hb1)
  have G1 := hide (G0.out.below hb1 G0.out.lt)
  have lg := G1.out.lt
  have g0 : w1.cell? ⟨w.heap.size, 0, none⟩ = some (.slice A1 p.init.length c1) := G1.out.cell 0
  have g1 : w1.cell? ⟨w.heap.size, 1, none⟩ = some (.slice A2 p.ts.length c2) := G1.out.cell 1
  have hlen : ∀ k, k < rs.length → (getr rs k).zs.length = (getr rs k).n ∧ (getr rs k).n ≤ 1048576 := fun k hk => by
    obtain ⟨e1, e2⟩ := hsix k hk
    rw [e1, e2, zerosS_len]
    exact ⟨rfl, by omega⟩
  have hlen := hide hlen
  have hsix := hide hsix
  have P1 := hide hpc
  have F1 := hide hrow
  obtain ⟨w2, hw2⟩ : ∃ x, x = w1.alloc (Obj.cells #[.slice A1 p.init.length c1, .slice A2 p.ts.length c2, .slice (some ⟨qp, 0, none⟩) p.ts.length p.ts.length, .slice A5 p.ts.length c5] 135) := ⟨_, rfl⟩
  have hz2 : w1.heap.size < w2.heap.size := by rw [hw2]; simp
  have C2 := hide (show Blk w2 w1.heap.size 135 #[.slice A1 p.init.length c1, .slice A2 p.ts.length c2, .slice (some ⟨qp, 0, none⟩) p.ts.length p.ts.length, .slice A5 p.ts.length c5] from by rw [hw2]; exact Blk.new _ _ _)
  have hb2 : Below w1.heap.size w1 w2 := by rw [hw2]; exact below1 _ _
  have G2 := hide (G1.out.below hb2 G1.out.lt)
  have B2 := hide (B1.out.trans (hb2.mono B1.out.size))
  have P2 := hide (P1.out.below hb2)
  have F2 := hide (F1.out.next hb2)
  clear hpc hrow hb1 B0 G0
  go_wp2_with fail
  rw [← hw2]
  clear hw2 hb2 g0 g1
  go_wp2_with fail
  refine (viewStart_any p A1 A2 (some ⟨qp, 0, none⟩) A5 c1 c2 p.ts.length p.ts.length p.ts.length c5 n w2 (Nat.le_trans hn B2.out.size) (hi.out.below B2.out (fun b (h : b < n) => Nat.lt_of_lt_of_le h hn)) h1 h6 h3).mono ?_
  rintro e w3 ⟨T, q, L, A7, A8, c7, c8, hm, los, his, pq, qs, rs2, rfl, hV, hH, hVr, hv1, hv2, hm1, hm2⟩
  have hpos := hV.pos
  have hb3 := hV.below
  have B3 := hide (B2.out.trans (hb3.mono B2.out.size))
  have P3 := hide (P2.out.below hb3)
  have F3 := hide (F2.out.next hb3)
  have hlen2 : ∀ k, k < rs2.length → (getr rs2 k).zs.length = (getr rs2 k).n ∧ (getr rs2 k).n ≤ 1048576 := fun k hk => by
    obtain ⟨e1, e2⟩ := hv2 k hk
    rw [e1, e2, idsL_len]
    exact ⟨rfl, by omega⟩
  obtain ⟨d, hd⟩ : ∃ d : StD, d = ⟨2, ⟨qp, qp + 1, some ⟨qp, 0, none⟩, p.ts.length, p.ts.length, zerosS p.ts.length⟩, ⟨w.heap.size + 1 + 1 + 1 + 1 + 1, w1.heap.size, A5, p.ts.length, c5, rs⟩, nilRow w.heap.size, nilRows w.heap.size, ⟨L, hm, A7, p.init.length, c7, histK p.init p.init.length, los, his, pq, qs⟩, ⟨hm, w3.heap.size, A8, p.ts.length, c8, rs2⟩, ⟨q, q + 1, some ⟨q, 0, none⟩, p.init.length, p.init.length, idsL p.init.length⟩, p.init.length⟩ := ⟨_, rfl⟩
  have hIn := hide (show StIn w3 d from by
    subst hd
    refine ⟨⟨⟨.inr ⟨_, _, rfl, P3.out, Nat.le_refl _⟩, fun b hb => ?_⟩, zerosS_len _, by show p.ts.length ≤ 1048576; omega⟩, ⟨F3.out, hrl, by show p.ts.length ≤ 1048576; omega, hlen.out⟩, nilRow_ok _ _, nilRows_okB _ _, ⟨hH, histK_len _ _, histK_small _ h6⟩, ⟨hVr, hv1, by show p.ts.length ≤ 1048576; omega, hlen2⟩, ⟨⟨.inr ⟨_, _, rfl, hV.ids, Nat.le_refl _⟩, fun b hb => by simp [Value.ownBlock] at hb; show b < q + 1; omega⟩, idsL_len _, by show p.init.length ≤ 1048576; omega⟩, ?_, ?_⟩
    · simp [Value.ownBlock] at hb
      show b < qp + 1
      omega
    · refine fun i j hij hj => iv_pair ?_ i j hij (by simpa using hj)
      simp [nilRow, nilRows]
      omega
    · intro i hi
      have h7 : i = 0 ∨ i = 1 ∨ i = 2 ∨ i = 3 ∨ i = 4 ∨ i = 5 ∨ i = 6 := by omega
      rcases h7 with rfl | rfl | rfl | rfl | rfl | rfl | rfl <;> simp [StD.iv, nilRow, nilRows] <;> omega)
  have hSame := hide (show SameSt (startV p) d from by
    subst hd
    refine ⟨rfl, ⟨rfl, rfl⟩, ⟨by simp [startV, hrl], fun k hk => ?_⟩, ⟨rfl, rfl⟩, ⟨rfl, fun k hk => by simp [startV, nilRows] at hk⟩, rfl, ⟨by simp [startV, hv1], fun k hk => ?_⟩, ⟨rfl, rfl⟩, rfl⟩
    · have hk' : k < p.ts.length := by simpa [startV] using hk
      obtain ⟨e1, e2⟩ := hsix.out k (by omega)
      show (getr (List.replicate p.ts.length (zrowD 0 6)) k).n = (getr rs k).n ∧ (getr (List.replicate p.ts.length (zrowD 0 6)) k).zs = (getr rs k).zs
      rw [getr_rep _ _ _ hk', e1, e2]
      exact ⟨rfl, rfl⟩
    · have hk' : k < p.ts.length := by simpa [startV] using hk
      obtain ⟨e1, e2⟩ := hv2 k (by omega)
      show (getr (List.replicate p.ts.length (RowD.mk 0 0 none p.init.length 0 (idsL p.init.length))) k).n = (getr rs2 k).n ∧ (getr (List.replicate p.ts.length (RowD.mk 0 0 none p.init.length 0 (idsL p.init.length))) k).zs = (getr rs2 k).zs
      rw [getr_rep _ _ _ hk', e1, e2]
      exact ⟨rfl, rfl⟩)
  have hlo := hide (show ∀ i, i < 7 → w.heap.size ≤ (d.iv i).1 from by
    subst hd
    intro i hi
    have h7 : i = 0 ∨ i = 1 ∨ i = 2 ∨ i = 3 ∨ i = 4 ∨ i = 5 ∨ i = 6 := by omega
    rcases h7 with rfl | rfl | rfl | rfl | rfl | rfl | rfl <;> simp [StD.iv, nilRow, nilRows] <;> omega)
  have hBl := hide (show Blk w3 T 144 #[.slice A1 p.init.length c1, .slice A2 p.ts.length c2, .slice d.pc.A d.pc.n d.pc.c, .slice d.F.A d.F.n d.F.c, .slice d.H.A d.H.n d.H.c, .slice d.view.A d.view.n d.view.c, .slice d.sc.A d.sc.n d.sc.c, .int .i64 d.next] from by subst hd; exact hV.blk)
  have hDc := hide (show d.cells = #[.int .i64 2, .slice d.pc.A d.pc.n d.pc.c, .slice d.F.A d.F.n d.F.c, .slice none 0 0, .slice none 0 0, .slice d.H.A d.H.n d.H.c, .slice d.view.A d.view.n d.view.c, .slice d.sc.A d.sc.n d.sc.c, .int .i64 d.next] from by subst hd; rfl)
  have hBf := hide (show Below w.heap.size w w3 from B3.out)
  clear hd
  clear hV hH hVr hlen2
  go_wp2_with fail
  go_ret
  exact ⟨T, d, rfl, hBl.out, hIn.out, hlo.out, hSame.out, hDc.out, hBf.out⟩
end Go.Proofs.Ytfkaacfeikmabaa
