/- impl.StateOk of any state of KdView. -/
import Derived.Test.YtfkaacfeikmabaaMf0
import Derived.Test.YtfkaacfeikmabaaMf29
namespace Go.Proofs.Ytfkaacfeikmabaa
open Go.RowKit

set_option maxRecDepth 100000 in
set_option maxHeartbeats 25600000 in
theorem stateOk_2 (p : ProgD) (s : StD) (A1 A2 : Option Addr) (c1 c2 n : Nat) (w : World) (hcc : p.init.length ≤ c1 ∧ p.ts.length ≤ c2) (hi : IntsAt w (Old n) A1 p.init) (ht : ThreadsAt w (Old n) A2 p.ts) (hs : StAt w n s) (hl : StLen s) (hB : progB p = true) (hk : s.kind = 2) :
    Calls Try.prog 35 #[.agg #[.slice A1 p.init.length c1, .slice A2 p.ts.length c2], .agg s.cells] w fun e w' => e = .returned (.bool (stateB p s)) ∧ Below w.heap.size w w' := by
  have hn : n ≤ w.heap.size := hs.sz
  have hS : ∀ b, Old n b → b < w.heap.size := hs.lts
  have hb0 := hide (below2 w (Obj.cells #[.slice A1 p.init.length c1, .slice A2 p.ts.length c2] 31) (Obj.cells s.cells 48))
  have G0 := hide ((Blk.new w 31 #[.slice A1 p.init.length c1, .slice A2 p.ts.length c2]).alloc (Obj.cells s.cells 48))
  have K0 := Blk.new (w.alloc (Obj.cells #[.slice A1 p.init.length c1, .slice A2 p.ts.length c2] 31)) 48 s.cells
  simp only [World.size_alloc] at K0
  replace K0 := hide K0
  have hok := hide (progOk_any (.agg #[.slice A1 p.init.length c1, .slice A2 p.ts.length c2]) p (Old n) _ (fun b h => Nat.lt_of_lt_of_le (hS b h) hb0.out.size) ⟨A1, c1, A2, c2, rfl, hcc, hi.below hb0.out hS, ht.below hb0.out hS⟩)
  replace hi := hide hi
  replace ht := hide ht
  replace hs := hide hs
  have hcs : s.cells = #[.int .i64 2, .slice s.pc.A s.pc.n s.pc.c, .slice s.F.A s.F.n s.F.c, .slice s.mem.A s.mem.n s.mem.c, .slice s.bufs.A s.bufs.n s.bufs.c, .slice s.H.A s.H.n s.H.c, .slice s.view.A s.view.n s.view.c, .slice s.sc.A s.sc.n s.sc.c, .int .i64 s.next] := by unfold StD.cells; rw [hk]
  have hE : stateB p s = (comB p.ts s.pc.zs s.F.rs && restB p s) := by unfold stateB; rw [hB]; rfl
  obtain ⟨res, hres⟩ : ∃ res, res = stateB p s := ⟨_, rfl⟩
  rw [← hres]
  rw [hE] at hres
  have hrest := hide (show restB p s = (decide (s.mem.n = 0) && decide (s.bufs.n = 0) && viewsB p.init.length p.ts.length s.next s.H.hs s.view.rs s.sc.zs) from by unfold restB; rw [hk]; rw [if_neg (by decide), if_neg (by decide), if_pos rfl]; rw [hl.bufs])
  have nM := hide (fun w => noMem_any s w)
  have nB := hide (fun w => noBufs_any s w)
  have nV := hide (fun w => noViews_any s w)
  rw [hcs] at nM nB nV hok hb0 G0 K0 ⊢
  clear hcs hE hk
  replace hres := hide hres
  replace hl := hide hl
  go_enter Try.func35, Try.ntmps35
  go_wp2_with fail
  refine hok.out.mono ?_
  rintro e w1 ⟨rfl, hb1⟩
  rw [hB]
  have B1 := hide (below_then hb0.out hb1)
  have hs1 := hb1.size
  simp only [World.size_alloc] at hs1
  have G1 := hide (G0.out.below hb1 G0.out.lt)
  have K1 := hide (K0.out.below hb1 K0.out.lt)
  have hs2 := hide (hs.out.next ((B1.out).mono (Nat.le_refl _)))
  have ht2 := hide (ht.out.below B1.out hS)
  have g0 : w1.cell? ⟨w.heap.size, 0, none⟩ = some (.slice A1 p.init.length c1) := G1.out.cell 0
  have g1 : w1.cell? ⟨w.heap.size, 1, none⟩ = some (.slice A2 p.ts.length c2) := G1.out.cell 1
  have k0 : w1.cell? ⟨w.heap.size + 1, 0, none⟩ = some (.int .i64 2) := K1.out.cell 0
  have k1 : w1.cell? ⟨w.heap.size + 1, 1, none⟩ = some (.slice s.pc.A s.pc.n s.pc.c) := K1.out.cell 1
  have k2 : w1.cell? ⟨w.heap.size + 1, 2, none⟩ = some (.slice s.F.A s.F.n s.F.c) := K1.out.cell 2
  have k3 : w1.cell? ⟨w.heap.size + 1, 3, none⟩ = some (.slice s.mem.A s.mem.n s.mem.c) := K1.out.cell 3
  have k4 : w1.cell? ⟨w.heap.size + 1, 4, none⟩ = some (.slice s.bufs.A s.bufs.n s.bufs.c) := K1.out.cell 4
  have k5 : w1.cell? ⟨w.heap.size + 1, 5, none⟩ = some (.slice s.H.A s.H.n s.H.c) := K1.out.cell 5
  have k6 : w1.cell? ⟨w.heap.size + 1, 6, none⟩ = some (.slice s.view.A s.view.n s.view.c) := K1.out.cell 6
  have k7 : w1.cell? ⟨w.heap.size + 1, 7, none⟩ = some (.slice s.sc.A s.sc.n s.sc.c) := K1.out.cell 7
  have k8 : w1.cell? ⟨w.heap.size + 1, 8, none⟩ = some (.int .i64 s.next) := K1.out.cell 8
  clear hok hb1 hb0 G0 K0 hs ht hi
  go_wp2_with fail
  refine (kindOf_2 A1 A2 s.pc.A s.F.A s.mem.A s.bufs.A s.H.A s.view.A s.sc.A _ _ s.pc.n s.F.n s.mem.n s.bufs.n s.H.n s.view.n s.sc.n c1 c2 s.pc.c s.F.c s.mem.c s.bufs.c s.H.c s.view.c s.sc.c s.next w1).mono ?_
  rintro e w2 ⟨T, rfl, hKT, hT, hb2⟩
  have B2 := hide (below_then B1.out hb2)
  have hR := hide (show SoR (w.heap.size + 1) T n 144 #[.slice A1 p.init.length c1, .slice A2 p.ts.length c2, .slice s.pc.A s.pc.n s.pc.c, .slice s.F.A s.F.n s.F.c, .slice s.H.A s.H.n s.H.c, .slice s.view.A s.view.n s.view.c, .slice s.sc.A s.sc.n s.sc.c, .int .i64 s.next] #[.int .i64 2, .slice s.pc.A s.pc.n s.pc.c, .slice s.F.A s.F.n s.F.c, .slice s.mem.A s.mem.n s.mem.c, .slice s.bufs.A s.bufs.n s.bufs.c, .slice s.H.A s.H.n s.H.c, .slice s.view.A s.view.n s.view.c, .slice s.sc.A s.sc.n s.sc.c, .int .i64 s.next] A2 p s w2 from ⟨K1.out.below hb2 K1.out.lt, hKT, hs2.out.next hb2, ht2.out.below hb2 (fun b h => Nat.lt_of_lt_of_le (hS b h) B1.out.size)⟩)
  have hTl := hKT.lt
  have hgl : w.heap.size + 1 < w2.heap.size := Nat.lt_of_lt_of_le K1.out.lt hb2.size
  have hTg : w.heap.size + 1 < T := Nat.lt_of_lt_of_le K1.out.lt hT
  clear G1 K1 hs2 ht2 B1 hb2 hKT hT g0 g1 k0 k1 k2 k3 k4 k5 k6 k7 k8 hs1
  have t0 : ∀ w, (Instr.typeAssert (Value.iface 142 (.pointer (some ⟨T, 0, none⟩))) 20 133 true).run Try.prog w = .ok (.tuple #[.pointer none, .bool false]) w := fun _ => by kernel_rfl
  have t1 : ∀ w, (Instr.typeAssert (Value.iface 142 (.pointer (some ⟨T, 0, none⟩))) 20 139 true).run Try.prog w = .ok (.tuple #[.pointer none, .bool false]) w := fun _ => by kernel_rfl
  have t2 : ∀ w, (Instr.typeAssert (Value.iface 142 (.pointer (some ⟨T, 0, none⟩))) 20 142 true).run Try.prog w = .ok (.tuple #[.pointer (some ⟨T, 0, none⟩), .bool true]) w := fun _ => by kernel_rfl
  obtain ⟨⟨x0, x1, x2, x3, x4, x5, x6, x7⟩, ⟨y0, y1, y2, y3, y4, y5, y6, y7, y8⟩⟩ := hR.out.cells2
  go_wp2_with fail
  clear x0 x1 x2 x3 x4 x5 x6 x7 y0 y1 y2 y3 y4 y5 y6 y7 y8
  have kc := fun (wX : World) (h : SoR (w.heap.size + 1) T n 144 #[.slice A1 p.init.length c1, .slice A2 p.ts.length c2, .slice s.pc.A s.pc.n s.pc.c, .slice s.F.A s.F.n s.F.c, .slice s.H.A s.H.n s.H.c, .slice s.view.A s.view.n s.view.c, .slice s.sc.A s.sc.n s.sc.c, .int .i64 s.next] #[.int .i64 2, .slice s.pc.A s.pc.n s.pc.c, .slice s.F.A s.F.n s.F.c, .slice s.mem.A s.mem.n s.mem.c, .slice s.bufs.A s.bufs.n s.bufs.c, .slice s.H.A s.H.n s.H.c, .slice s.view.A s.view.n s.view.c, .slice s.sc.A s.sc.n s.sc.c, .int .i64 s.next] A2 p s wX) => commonOk_any A1 A2 s.pc.A s.F.A p.init.length c1 c2 s.pc.c s.F.c p.ts s.pc.zs s.F.rs (Old n) wX h.st.lts h.thr h.st.pc h.st.F
  rw [hl.out.pc, hl.out.F] at kc
  replace kc := hide kc
  have kv := fun (wX : World) (h : SoR (w.heap.size + 1) T n 144 #[.slice A1 p.init.length c1, .slice A2 p.ts.length c2, .slice s.pc.A s.pc.n s.pc.c, .slice s.F.A s.F.n s.F.c, .slice s.H.A s.H.n s.H.c, .slice s.view.A s.view.n s.view.c, .slice s.sc.A s.sc.n s.sc.c, .int .i64 s.next] #[.int .i64 2, .slice s.pc.A s.pc.n s.pc.c, .slice s.F.A s.F.n s.F.c, .slice s.mem.A s.mem.n s.mem.c, .slice s.bufs.A s.bufs.n s.bufs.c, .slice s.H.A s.H.n s.H.c, .slice s.view.A s.view.n s.view.c, .slice s.sc.A s.sc.n s.sc.c, .int .i64 s.next] A2 p s wX) => viewsOk_any A1 A2 s.pc.A s.F.A s.H.A s.view.A s.sc.A p.init.length p.ts.length s.pc.n s.F.n c1 c2 s.pc.c s.F.c s.H.c s.view.c s.sc.c s.next s.H.hs s.view.rs s.sc.zs (Old n) wX h.st.lts hl.out.eV h.st.H h.st.view h.st.sc
  rw [hl.out.H, hl.out.view, hl.out.sc] at kv
  simp only [viewsI_eq] at kv
  replace kv := hide kv
  generalize comB p.ts s.pc.zs s.F.rs = cb at *
  generalize viewsB p.init.length p.ts.length s.next s.H.hs s.view.rs s.sc.zs = vv at *
  obtain ⟨mm, hmm⟩ : ∃ mm, mm = decide (s.mem.n = 0) := ⟨_, rfl⟩
  rw [← hmm] at hrest nM
  clear hmm
  obtain ⟨bb, hbb⟩ : ∃ bb, bb = decide (s.bufs.n = 0) := ⟨_, rfl⟩
  rw [← hbb] at hrest nB
  clear hbb
  have hE := hide (show res = (cb && (mm && bb && vv)) from by rw [hres.out, hrest.out])
  clear hres hrest hl
  refine (kc.out _ hR.out).mono ?_
  rintro e w4 ⟨rfl, hb4⟩
  have R4 := hide (hR.out.next hb4)
  have B4 := hide (below_then B2.out hb4)
  clear hR hb4
  cases cb
  · go_wp2_with fail
    go_ret
    exact ⟨ret_bool (hE.out.trans rfl).symm, B4.out⟩
  · obtain ⟨⟨x0, x1, x2, x3, x4, x5, x6, x7⟩, ⟨y0, y1, y2, y3, y4, y5, y6, y7, y8⟩⟩ := R4.out.cells2
    have lT := R4.out.kd.lt
    have lg := R4.out.box.lt
    go_wp2_with fail
    refine (nM.out _).mono ?_
    rintro e w5 ⟨rfl, hb5⟩
    clear x0 x1 x2 x3 x4 x5 x6 x7 y0 y1 y2 y3 y4 y5 y6 y7 y8 lT lg
    have R5 := hide (R4.out.next hb5)
    have B5 := hide (below_then B4.out hb5)
    cases mm
    · go_wp2_with fail
      go_ret
      exact ⟨ret_bool (hE.out.trans rfl).symm, B5.out⟩
    · obtain ⟨⟨x0, x1, x2, x3, x4, x5, x6, x7⟩, ⟨y0, y1, y2, y3, y4, y5, y6, y7, y8⟩⟩ := R5.out.cells2
      have lT := R5.out.kd.lt
      have lg := R5.out.box.lt
      go_wp2_with fail
      refine (nB.out _).mono ?_
      rintro e w6 ⟨rfl, hb6⟩
      clear x0 x1 x2 x3 x4 x5 x6 x7 y0 y1 y2 y3 y4 y5 y6 y7 y8 lT lg
      have R6 := hide (R5.out.next hb6)
      have B6 := hide (below_then B5.out hb6)
      cases bb
      · go_wp2_with fail
        go_ret
        exact ⟨ret_bool (hE.out.trans rfl).symm, B6.out⟩
      · obtain ⟨⟨x0, x1, x2, x3, x4, x5, x6, x7⟩, ⟨y0, y1, y2, y3, y4, y5, y6, y7, y8⟩⟩ := R6.out.cells2
        have lT := R6.out.kd.lt
        have lg := R6.out.box.lt
        go_wp2_with fail
        refine (kv.out _ R6.out).mono ?_
        rintro e w7 ⟨rfl, hb7⟩
        clear x0 x1 x2 x3 x4 x5 x6 x7 y0 y1 y2 y3 y4 y5 y6 y7 y8 lT lg
        have R7 := hide (R6.out.next hb7)
        have B7 := hide (below_then B6.out hb7)
        go_wp2_with fail
        go_ret
        exact ⟨ret_bool (hE.out.trans rfl).symm, B7.out⟩

set_option maxRecDepth 100000 in
set_option maxHeartbeats 3200000 in
theorem stateOk_no (p : ProgD) (s : StD) (A1 A2 : Option Addr) (c1 c2 n : Nat) (w : World) (hcc : p.init.length ≤ c1 ∧ p.ts.length ≤ c2) (hi : IntsAt w (Old n) A1 p.init) (ht : ThreadsAt w (Old n) A2 p.ts) (hs : StAt w n s) (hB : progB p = true) (h0 : s.kind ≠ 0) (h1 : s.kind ≠ 1) (h2 : s.kind ≠ 2) :
    Calls Try.prog 35 #[.agg #[.slice A1 p.init.length c1, .slice A2 p.ts.length c2], .agg s.cells] w fun e w' => e = .returned (.bool false) ∧ Below w.heap.size w w' := by
  have hn : n ≤ w.heap.size := hs.sz
  have hS : ∀ b, Old n b → b < w.heap.size := hs.lts
  have hb0 := hide (below2 w (Obj.cells #[.slice A1 p.init.length c1, .slice A2 p.ts.length c2] 31) (Obj.cells s.cells 48))
  have G0 := hide ((Blk.new w 31 #[.slice A1 p.init.length c1, .slice A2 p.ts.length c2]).alloc (Obj.cells s.cells 48))
  have K0 := Blk.new (w.alloc (Obj.cells #[.slice A1 p.init.length c1, .slice A2 p.ts.length c2] 31)) 48 s.cells
  simp only [World.size_alloc] at K0
  replace K0 := hide K0
  have hok := hide (progOk_any (.agg #[.slice A1 p.init.length c1, .slice A2 p.ts.length c2]) p (Old n) _ (fun b h => Nat.lt_of_lt_of_le (hS b h) hb0.out.size) ⟨A1, c1, A2, c2, rfl, hcc, hi.below hb0.out hS, ht.below hb0.out hS⟩)
  replace hi := hide hi
  replace ht := hide ht
  replace hs := hide hs
  unfold StD.cells at hok hb0 G0 K0 ⊢
  have t0 : ∀ w, (Instr.typeAssert Value.nilIface 20 133 true).run Try.prog w = .ok (.tuple #[.pointer none, .bool false]) w := fun _ => by kernel_rfl
  have t1 : ∀ w, (Instr.typeAssert Value.nilIface 20 139 true).run Try.prog w = .ok (.tuple #[.pointer none, .bool false]) w := fun _ => by kernel_rfl
  have t2 : ∀ w, (Instr.typeAssert Value.nilIface 20 142 true).run Try.prog w = .ok (.tuple #[.pointer none, .bool false]) w := fun _ => by kernel_rfl
  go_enter Try.func35, Try.ntmps35
  go_wp2_with fail
  refine hok.out.mono ?_
  rintro e w1 ⟨rfl, hb1⟩
  rw [hB]
  have B1 := hide (below_then hb0.out hb1)
  have G1 := hide (G0.out.below hb1 G0.out.lt)
  have K1 := hide (K0.out.below hb1 K0.out.lt)
  have hs1 := hb1.size
  simp only [World.size_alloc] at hs1
  have g0 : w1.cell? ⟨w.heap.size, 0, none⟩ = some (.slice A1 p.init.length c1) := G1.out.cell 0
  have g1 : w1.cell? ⟨w.heap.size, 1, none⟩ = some (.slice A2 p.ts.length c2) := G1.out.cell 1
  have k0 : w1.cell? ⟨w.heap.size + 1, 0, none⟩ = some (.int .i64 s.kind) := K1.out.cell 0
  have k1 : w1.cell? ⟨w.heap.size + 1, 1, none⟩ = some (.slice s.pc.A s.pc.n s.pc.c) := K1.out.cell 1
  have k2 : w1.cell? ⟨w.heap.size + 1, 2, none⟩ = some (.slice s.F.A s.F.n s.F.c) := K1.out.cell 2
  have k3 : w1.cell? ⟨w.heap.size + 1, 3, none⟩ = some (.slice s.mem.A s.mem.n s.mem.c) := K1.out.cell 3
  have k4 : w1.cell? ⟨w.heap.size + 1, 4, none⟩ = some (.slice s.bufs.A s.bufs.n s.bufs.c) := K1.out.cell 4
  have k5 : w1.cell? ⟨w.heap.size + 1, 5, none⟩ = some (.slice s.H.A s.H.n s.H.c) := K1.out.cell 5
  have k6 : w1.cell? ⟨w.heap.size + 1, 6, none⟩ = some (.slice s.view.A s.view.n s.view.c) := K1.out.cell 6
  have k7 : w1.cell? ⟨w.heap.size + 1, 7, none⟩ = some (.slice s.sc.A s.sc.n s.sc.c) := K1.out.cell 7
  have k8 : w1.cell? ⟨w.heap.size + 1, 8, none⟩ = some (.int .i64 s.next) := K1.out.cell 8
  clear hok hb1 hb0 G0 K0 hs ht hi
  go_wp2_with fail
  refine (kindOf_no A1 A2 s.pc.A s.F.A s.mem.A s.bufs.A s.H.A s.view.A s.sc.A _ _ s.pc.n s.F.n s.mem.n s.bufs.n s.H.n s.view.n s.sc.n c1 c2 s.pc.c s.F.c s.mem.c s.bufs.c s.H.c s.view.c s.sc.c s.next w1 s.kind h0 h1 h2).mono ?_
  rintro e w2 ⟨rfl, hb2⟩
  have B2 := hide (below_then B1.out hb2)
  clear g0 g1 k0 k1 k2 k3 k4 k5 k6 k7 k8
  go_wp2_with fail
  go_ret
  exact ⟨rfl, B2.out⟩

theorem stateOk_any {p : ProgD} {s : StD} {n : Nat} {v : Value} {w : World} (hp : ProgAt w (Old n) v p) (hs : StAt w n s) (hl : StLen s) :
    Calls Try.prog 35 #[v, .agg s.cells] w fun e w' => e = .returned (.bool (stateB p s)) ∧ Below w.heap.size w w' := by
  obtain ⟨A1, c1, A2, c2, rfl, hcc, hi, ht⟩ := hp
  cases hB : progB p
  · have e : stateB p s = false := by unfold stateB; rw [hB]; rfl
    rw [e]
    exact stateOk_bad p s A1 A2 c1 c2 n w hcc hi ht hs hB
  · by_cases h0 : s.kind = 0
    · exact stateOk_0 p s A1 A2 c1 c2 n w hcc hi ht hs hl hB h0
    · by_cases h1 : s.kind = 1
      · exact stateOk_1 p s A1 A2 c1 c2 n w hcc hi ht hs hl hB h1
      · by_cases h2 : s.kind = 2
        · exact stateOk_2 p s A1 A2 c1 c2 n w hcc hi ht hs hl hB h2
        · have e : stateB p s = false := by unfold stateB restB; rw [if_neg h0, if_neg h1, if_neg h2]; simp
          rw [e]
          exact stateOk_no p s A1 A2 c1 c2 n w hcc hi ht hs hB h0 h1 h2
end Go.Proofs.Ytfkaacfeikmabaa
