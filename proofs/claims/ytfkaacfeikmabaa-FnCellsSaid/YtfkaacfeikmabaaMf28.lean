/- impl.StateOk of any state. -/
import Derived.Test.YtfkaacfeikmabaaMf0
import Derived.Test.YtfkaacfeikmabaaMf27
namespace Go.Proofs.Ytfkaacfeikmabaa
open Go.RowKit

structure SoR (g T n : Nat) (ty : TypeId) (ks cs : Array Value) (A2 : Option Addr) (p : ProgD) (s : StD) (w : World) : Prop where
  box : Blk w g 48 cs
  kd : Blk w T ty ks
  st : StAt w n s
  thr : ThreadsAt w (Old n) A2 p.ts
section
variable {w w' : World} {g T n : Nat} {ty : TypeId} {ks cs : Array Value} {A2 : Option Addr} {p : ProgD} {s : StD}
theorem SoR.next (h : SoR g T n ty ks cs A2 p s w) (hb : Below w.heap.size w w') : SoR g T n ty ks cs A2 p s w' := ⟨h.box.below hb h.box.lt, h.kd.below hb h.kd.lt, h.st.next hb, h.thr.below hb h.st.lts⟩
theorem SoR.cells0 {A1 : Option Addr} {c1 c2 : Nat} (h : SoR g T n 137 #[.slice A1 p.init.length c1, .slice A2 p.ts.length c2, .slice s.pc.A s.pc.n s.pc.c, .slice s.F.A s.F.n s.F.c, .slice s.mem.A s.mem.n s.mem.c] #[.int .i64 0, .slice s.pc.A s.pc.n s.pc.c, .slice s.F.A s.F.n s.F.c, .slice s.mem.A s.mem.n s.mem.c, .slice s.bufs.A s.bufs.n s.bufs.c, .slice s.H.A s.H.n s.H.c, .slice s.view.A s.view.n s.view.c, .slice s.sc.A s.sc.n s.sc.c, .int .i64 s.next] A2 p s w) : (w.cell? ⟨T, 0, none⟩ = some (.slice A1 p.init.length c1) ∧ w.cell? ⟨T, 1, none⟩ = some (.slice A2 p.ts.length c2) ∧ w.cell? ⟨T, 2, none⟩ = some (.slice s.pc.A s.pc.n s.pc.c) ∧ w.cell? ⟨T, 3, none⟩ = some (.slice s.F.A s.F.n s.F.c) ∧ w.cell? ⟨T, 4, none⟩ = some (.slice s.mem.A s.mem.n s.mem.c)) ∧ w.cell? ⟨g, 0, none⟩ = some (.int .i64 0) ∧ w.cell? ⟨g, 1, none⟩ = some (.slice s.pc.A s.pc.n s.pc.c) ∧ w.cell? ⟨g, 2, none⟩ = some (.slice s.F.A s.F.n s.F.c) ∧ w.cell? ⟨g, 3, none⟩ = some (.slice s.mem.A s.mem.n s.mem.c) ∧ w.cell? ⟨g, 4, none⟩ = some (.slice s.bufs.A s.bufs.n s.bufs.c) ∧ w.cell? ⟨g, 5, none⟩ = some (.slice s.H.A s.H.n s.H.c) ∧ w.cell? ⟨g, 6, none⟩ = some (.slice s.view.A s.view.n s.view.c) ∧ w.cell? ⟨g, 7, none⟩ = some (.slice s.sc.A s.sc.n s.sc.c) ∧ w.cell? ⟨g, 8, none⟩ = some (.int .i64 s.next) :=
  ⟨⟨h.kd.cell 0, h.kd.cell 1, h.kd.cell 2, h.kd.cell 3, h.kd.cell 4⟩, h.box.cell 0, h.box.cell 1, h.box.cell 2, h.box.cell 3, h.box.cell 4, h.box.cell 5, h.box.cell 6, h.box.cell 7, h.box.cell 8⟩
theorem SoR.cells1 {A1 : Option Addr} {c1 c2 : Nat} (h : SoR g T n 141 #[.slice A1 p.init.length c1, .slice A2 p.ts.length c2, .slice s.pc.A s.pc.n s.pc.c, .slice s.F.A s.F.n s.F.c, .slice s.mem.A s.mem.n s.mem.c, .slice s.bufs.A s.bufs.n s.bufs.c] #[.int .i64 1, .slice s.pc.A s.pc.n s.pc.c, .slice s.F.A s.F.n s.F.c, .slice s.mem.A s.mem.n s.mem.c, .slice s.bufs.A s.bufs.n s.bufs.c, .slice s.H.A s.H.n s.H.c, .slice s.view.A s.view.n s.view.c, .slice s.sc.A s.sc.n s.sc.c, .int .i64 s.next] A2 p s w) : (w.cell? ⟨T, 0, none⟩ = some (.slice A1 p.init.length c1) ∧ w.cell? ⟨T, 1, none⟩ = some (.slice A2 p.ts.length c2) ∧ w.cell? ⟨T, 2, none⟩ = some (.slice s.pc.A s.pc.n s.pc.c) ∧ w.cell? ⟨T, 3, none⟩ = some (.slice s.F.A s.F.n s.F.c) ∧ w.cell? ⟨T, 4, none⟩ = some (.slice s.mem.A s.mem.n s.mem.c) ∧ w.cell? ⟨T, 5, none⟩ = some (.slice s.bufs.A s.bufs.n s.bufs.c)) ∧ w.cell? ⟨g, 0, none⟩ = some (.int .i64 1) ∧ w.cell? ⟨g, 1, none⟩ = some (.slice s.pc.A s.pc.n s.pc.c) ∧ w.cell? ⟨g, 2, none⟩ = some (.slice s.F.A s.F.n s.F.c) ∧ w.cell? ⟨g, 3, none⟩ = some (.slice s.mem.A s.mem.n s.mem.c) ∧ w.cell? ⟨g, 4, none⟩ = some (.slice s.bufs.A s.bufs.n s.bufs.c) ∧ w.cell? ⟨g, 5, none⟩ = some (.slice s.H.A s.H.n s.H.c) ∧ w.cell? ⟨g, 6, none⟩ = some (.slice s.view.A s.view.n s.view.c) ∧ w.cell? ⟨g, 7, none⟩ = some (.slice s.sc.A s.sc.n s.sc.c) ∧ w.cell? ⟨g, 8, none⟩ = some (.int .i64 s.next) :=
  ⟨⟨h.kd.cell 0, h.kd.cell 1, h.kd.cell 2, h.kd.cell 3, h.kd.cell 4, h.kd.cell 5⟩, h.box.cell 0, h.box.cell 1, h.box.cell 2, h.box.cell 3, h.box.cell 4, h.box.cell 5, h.box.cell 6, h.box.cell 7, h.box.cell 8⟩
theorem SoR.cells2 {A1 : Option Addr} {c1 c2 : Nat} (h : SoR g T n 144 #[.slice A1 p.init.length c1, .slice A2 p.ts.length c2, .slice s.pc.A s.pc.n s.pc.c, .slice s.F.A s.F.n s.F.c, .slice s.H.A s.H.n s.H.c, .slice s.view.A s.view.n s.view.c, .slice s.sc.A s.sc.n s.sc.c, .int .i64 s.next] #[.int .i64 2, .slice s.pc.A s.pc.n s.pc.c, .slice s.F.A s.F.n s.F.c, .slice s.mem.A s.mem.n s.mem.c, .slice s.bufs.A s.bufs.n s.bufs.c, .slice s.H.A s.H.n s.H.c, .slice s.view.A s.view.n s.view.c, .slice s.sc.A s.sc.n s.sc.c, .int .i64 s.next] A2 p s w) : (w.cell? ⟨T, 0, none⟩ = some (.slice A1 p.init.length c1) ∧ w.cell? ⟨T, 1, none⟩ = some (.slice A2 p.ts.length c2) ∧ w.cell? ⟨T, 2, none⟩ = some (.slice s.pc.A s.pc.n s.pc.c) ∧ w.cell? ⟨T, 3, none⟩ = some (.slice s.F.A s.F.n s.F.c) ∧ w.cell? ⟨T, 4, none⟩ = some (.slice s.H.A s.H.n s.H.c) ∧ w.cell? ⟨T, 5, none⟩ = some (.slice s.view.A s.view.n s.view.c) ∧ w.cell? ⟨T, 6, none⟩ = some (.slice s.sc.A s.sc.n s.sc.c) ∧ w.cell? ⟨T, 7, none⟩ = some (.int .i64 s.next)) ∧ w.cell? ⟨g, 0, none⟩ = some (.int .i64 2) ∧ w.cell? ⟨g, 1, none⟩ = some (.slice s.pc.A s.pc.n s.pc.c) ∧ w.cell? ⟨g, 2, none⟩ = some (.slice s.F.A s.F.n s.F.c) ∧ w.cell? ⟨g, 3, none⟩ = some (.slice s.mem.A s.mem.n s.mem.c) ∧ w.cell? ⟨g, 4, none⟩ = some (.slice s.bufs.A s.bufs.n s.bufs.c) ∧ w.cell? ⟨g, 5, none⟩ = some (.slice s.H.A s.H.n s.H.c) ∧ w.cell? ⟨g, 6, none⟩ = some (.slice s.view.A s.view.n s.view.c) ∧ w.cell? ⟨g, 7, none⟩ = some (.slice s.sc.A s.sc.n s.sc.c) ∧ w.cell? ⟨g, 8, none⟩ = some (.int .i64 s.next) :=
  ⟨⟨h.kd.cell 0, h.kd.cell 1, h.kd.cell 2, h.kd.cell 3, h.kd.cell 4, h.kd.cell 5, h.kd.cell 6, h.kd.cell 7⟩, h.box.cell 0, h.box.cell 1, h.box.cell 2, h.box.cell 3, h.box.cell 4, h.box.cell 5, h.box.cell 6, h.box.cell 7, h.box.cell 8⟩
end

set_option maxRecDepth 100000 in
set_option maxHeartbeats 3200000 in
theorem stateOk_bad (p : ProgD) (s : StD) (A1 A2 : Option Addr) (c1 c2 n : Nat) (w : World) (hcc : p.init.length ≤ c1 ∧ p.ts.length ≤ c2) (hi : IntsAt w (Old n) A1 p.init) (ht : ThreadsAt w (Old n) A2 p.ts) (hs : StAt w n s) (hB : progB p = false) :
    Calls Try.prog 35 #[.agg #[.slice A1 p.init.length c1, .slice A2 p.ts.length c2], .agg s.cells] w fun e w' => e = .returned (.bool false) ∧ Below w.heap.size w w' := by
  have hn : n ≤ w.heap.size := hs.sz
  have hS : ∀ b, Old n b → b < w.heap.size := hs.lts
  have hb0 := hide (below2 w (Obj.cells #[.slice A1 p.init.length c1, .slice A2 p.ts.length c2] 31) (Obj.cells s.cells 48))
  have G0 := hide ((Blk.new w 31 #[.slice A1 p.init.length c1, .slice A2 p.ts.length c2]).alloc (Obj.cells s.cells 48))
  have K0 := Blk.new (w.alloc (Obj.cells #[.slice A1 p.init.length c1, .slice A2 p.ts.length c2] 31)) 48 s.cells
  simp only [World.size_alloc] at K0
  replace K0 := hide K0
  have hok := hide (progOk_any (.agg #[.slice A1 p.init.length c1, .slice A2 p.ts.length c2]) p (Old n) _ (fun b h => Nat.lt_of_lt_of_le (hS b h) hb0.out.size) ⟨A1, c1, A2, c2, rfl, hcc, hi.below hb0.out hS, ht.below hb0.out hS⟩)
  replace hi := hide hi
  replace ht := hide ht
  replace hs := hide hs
  unfold StD.cells at hok hb0 ⊢
  go_enter Try.func35, Try.ntmps35
  go_wp2_with fail
  refine hok.out.mono ?_
  rintro e w1 ⟨rfl, hb1⟩
  rw [hB]
  have B1 := hide (below_then hb0.out hb1)
  clear hok hb1
  go_wp2_with fail
  go_ret
  exact ⟨rfl, B1.out⟩

set_option maxRecDepth 100000 in
set_option maxHeartbeats 25600000 in
theorem stateOk_0 (p : ProgD) (s : StD) (A1 A2 : Option Addr) (c1 c2 n : Nat) (w : World) (hcc : p.init.length ≤ c1 ∧ p.ts.length ≤ c2) (hi : IntsAt w (Old n) A1 p.init) (ht : ThreadsAt w (Old n) A2 p.ts) (hs : StAt w n s) (hl : StLen s) (hB : progB p = true) (hk : s.kind = 0) :
    Calls Try.prog 35 #[.agg #[.slice A1 p.init.length c1, .slice A2 p.ts.length c2], .agg s.cells] w fun e w' => e = .returned (.bool (stateB p s)) ∧ Below w.heap.size w w' := by
  have hn : n ≤ w.heap.size := hs.sz
  have hS : ∀ b, Old n b → b < w.heap.size := hs.lts
  have hb0 := hide (below2 w (Obj.cells #[.slice A1 p.init.length c1, .slice A2 p.ts.length c2] 31) (Obj.cells s.cells 48))
  have G0 := hide ((Blk.new w 31 #[.slice A1 p.init.length c1, .slice A2 p.ts.length c2]).alloc (Obj.cells s.cells 48))
  have K0 := Blk.new (w.alloc (Obj.cells #[.slice A1 p.init.length c1, .slice A2 p.ts.length c2] 31)) 48 s.cells
  simp only [World.size_alloc] at K0
  replace K0 := hide K0
  have hok := hide (progOk_any (.agg #[.slice A1 p.init.length c1, .slice A2 p.ts.length c2]) p (Old n) _ (fun b h => Nat.lt_of_lt_of_le (hS b h) hb0.out.size) ⟨A1, c1, A2, c2, rfl, hcc, hi.below hb0.out hS, ht.below hb0.out hS⟩)
  replace hi := hide hi
  replace ht := hide ht
  replace hs := hide hs
  have hcs : s.cells = #[.int .i64 0, .slice s.pc.A s.pc.n s.pc.c, .slice s.F.A s.F.n s.F.c, .slice s.mem.A s.mem.n s.mem.c, .slice s.bufs.A s.bufs.n s.bufs.c, .slice s.H.A s.H.n s.H.c, .slice s.view.A s.view.n s.view.c, .slice s.sc.A s.sc.n s.sc.c, .int .i64 s.next] := by unfold StD.cells; rw [hk]
  have hE : stateB p s = (comB p.ts s.pc.zs s.F.rs && restB p s) := by unfold stateB; rw [hB]; rfl
  obtain ⟨res, hres⟩ : ∃ res, res = stateB p s := ⟨_, rfl⟩
  rw [← hres]
  rw [hE] at hres
  have hrest := hide (show restB p s = (decide (s.mem.n = p.init.length) && decide (s.bufs.n = 0) && (decide (s.H.n = 0) && decide (s.view.n = 0) && decide (s.sc.n = 0) && decide (s.next = 0))) from by unfold restB; rw [hk]; rw [if_pos rfl]; unfold noViewsB; rw [hl.H, hl.view]; rw [hl.bufs])
  have nM := hide (fun w => noMem_any s w)
  have nB := hide (fun w => noBufs_any s w)
  have nV := hide (fun w => noViews_any s w)
  rw [hcs] at nM nB nV hok hb0 G0 K0 ⊢
  clear hcs hE hk
  replace hres := hide hres
  replace hl := hide hl
  go_enter Try.func35, Try.ntmps35
  go_wp2_with fail
  refine hok.out.mono ?_
  rintro e w1 ⟨rfl, hb1⟩
  rw [hB]
  have B1 := hide (below_then hb0.out hb1)
  have hs1 := hb1.size
  simp only [World.size_alloc] at hs1
  have G1 := hide (G0.out.below hb1 G0.out.lt)
  have K1 := hide (K0.out.below hb1 K0.out.lt)
  have hs2 := hide (hs.out.next ((B1.out).mono (Nat.le_refl _)))
  have ht2 := hide (ht.out.below B1.out hS)
  have g0 : w1.cell? ⟨w.heap.size, 0, none⟩ = some (.slice A1 p.init.length c1) := G1.out.cell 0
  have g1 : w1.cell? ⟨w.heap.size, 1, none⟩ = some (.slice A2 p.ts.length c2) := G1.out.cell 1
  have k0 : w1.cell? ⟨w.heap.size + 1, 0, none⟩ = some (.int .i64 0) := K1.out.cell 0
  have k1 : w1.cell? ⟨w.heap.size + 1, 1, none⟩ = some (.slice s.pc.A s.pc.n s.pc.c) := K1.out.cell 1
  have k2 : w1.cell? ⟨w.heap.size + 1, 2, none⟩ = some (.slice s.F.A s.F.n s.F.c) := K1.out.cell 2
  have k3 : w1.cell? ⟨w.heap.size + 1, 3, none⟩ = some (.slice s.mem.A s.mem.n s.mem.c) := K1.out.cell 3
  have k4 : w1.cell? ⟨w.heap.size + 1, 4, none⟩ = some (.slice s.bufs.A s.bufs.n s.bufs.c) := K1.out.cell 4
  have k5 : w1.cell? ⟨w.heap.size + 1, 5, none⟩ = some (.slice s.H.A s.H.n s.H.c) := K1.out.cell 5
  have k6 : w1.cell? ⟨w.heap.size + 1, 6, none⟩ = some (.slice s.view.A s.view.n s.view.c) := K1.out.cell 6
  have k7 : w1.cell? ⟨w.heap.size + 1, 7, none⟩ = some (.slice s.sc.A s.sc.n s.sc.c) := K1.out.cell 7
  have k8 : w1.cell? ⟨w.heap.size + 1, 8, none⟩ = some (.int .i64 s.next) := K1.out.cell 8
  clear hok hb1 hb0 G0 K0 hs ht hi
  go_wp2_with fail
  refine (kindOf_0 A1 A2 s.pc.A s.F.A s.mem.A s.bufs.A s.H.A s.view.A s.sc.A _ _ s.pc.n s.F.n s.mem.n s.bufs.n s.H.n s.view.n s.sc.n c1 c2 s.pc.c s.F.c s.mem.c s.bufs.c s.H.c s.view.c s.sc.c s.next w1).mono ?_
  rintro e w2 ⟨T, rfl, hKT, hT, hb2⟩
  have B2 := hide (below_then B1.out hb2)
  have hR := hide (show SoR (w.heap.size + 1) T n 137 #[.slice A1 p.init.length c1, .slice A2 p.ts.length c2, .slice s.pc.A s.pc.n s.pc.c, .slice s.F.A s.F.n s.F.c, .slice s.mem.A s.mem.n s.mem.c] #[.int .i64 0, .slice s.pc.A s.pc.n s.pc.c, .slice s.F.A s.F.n s.F.c, .slice s.mem.A s.mem.n s.mem.c, .slice s.bufs.A s.bufs.n s.bufs.c, .slice s.H.A s.H.n s.H.c, .slice s.view.A s.view.n s.view.c, .slice s.sc.A s.sc.n s.sc.c, .int .i64 s.next] A2 p s w2 from ⟨K1.out.below hb2 K1.out.lt, hKT, hs2.out.next hb2, ht2.out.below hb2 (fun b h => Nat.lt_of_lt_of_le (hS b h) B1.out.size)⟩)
  have hTl := hKT.lt
  have hgl : w.heap.size + 1 < w2.heap.size := Nat.lt_of_lt_of_le K1.out.lt hb2.size
  have hTg : w.heap.size + 1 < T := Nat.lt_of_lt_of_le K1.out.lt hT
  clear G1 K1 hs2 ht2 B1 hb2 hKT hT g0 g1 k0 k1 k2 k3 k4 k5 k6 k7 k8 hs1
  have t0 : ∀ w, (Instr.typeAssert (Value.iface 133 (.pointer (some ⟨T, 0, none⟩))) 20 133 true).run Try.prog w = .ok (.tuple #[.pointer (some ⟨T, 0, none⟩), .bool true]) w := fun _ => by kernel_rfl
  go_wp2_with fail
  have R2 := hide (show SoR (w.heap.size + 1) T n _ _ _ A2 p s w2.drew from hR.out.next (Below.refl _ _).drew)
  replace B2 := hide B2.out.drew
  have kc := fun (wX : World) (h : SoR (w.heap.size + 1) T n 137 #[.slice A1 p.init.length c1, .slice A2 p.ts.length c2, .slice s.pc.A s.pc.n s.pc.c, .slice s.F.A s.F.n s.F.c, .slice s.mem.A s.mem.n s.mem.c] #[.int .i64 0, .slice s.pc.A s.pc.n s.pc.c, .slice s.F.A s.F.n s.F.c, .slice s.mem.A s.mem.n s.mem.c, .slice s.bufs.A s.bufs.n s.bufs.c, .slice s.H.A s.H.n s.H.c, .slice s.view.A s.view.n s.view.c, .slice s.sc.A s.sc.n s.sc.c, .int .i64 s.next] A2 p s wX) => commonOk_any A1 A2 s.pc.A s.F.A p.init.length c1 c2 s.pc.c s.F.c p.ts s.pc.zs s.F.rs (Old n) wX h.st.lts h.thr h.st.pc h.st.F
  rw [hl.out.pc, hl.out.F] at kc
  replace kc := hide kc
  generalize comB p.ts s.pc.zs s.F.rs = cb at *
  obtain ⟨bb, hbb⟩ : ∃ bb, bb = decide (s.bufs.n = 0) := ⟨_, rfl⟩
  rw [← hbb] at hrest nB
  clear hbb
  obtain ⟨vv, hvv⟩ : ∃ vv, vv = (decide (s.H.n = 0) && decide (s.view.n = 0) && decide (s.sc.n = 0) && decide (s.next = 0)) := ⟨_, rfl⟩
  rw [← hvv] at hrest nV
  clear hvv
  have hE := hide (show res = (cb && (decide (s.mem.n = p.init.length) && bb && vv)) from by rw [hres.out, hrest.out])
  clear hres hrest hl hR
  cases cb
  · refine wp_region_held_drew (S := (fun w' => (w'.cell? ⟨T, 0, none⟩ = some (.slice A1 p.init.length c1) ∧ w'.cell? ⟨T, 1, none⟩ = some (.slice A2 p.ts.length c2) ∧ w'.cell? ⟨T, 2, none⟩ = some (.slice s.pc.A s.pc.n s.pc.c) ∧ w'.cell? ⟨T, 3, none⟩ = some (.slice s.F.A s.F.n s.F.c) ∧ w'.cell? ⟨T, 4, none⟩ = some (.slice s.mem.A s.mem.n s.mem.c)) ∧ w'.cell? ⟨(w.heap.size + 1), 0, none⟩ = some (.int .i64 0) ∧ w'.cell? ⟨(w.heap.size + 1), 1, none⟩ = some (.slice s.pc.A s.pc.n s.pc.c) ∧ w'.cell? ⟨(w.heap.size + 1), 2, none⟩ = some (.slice s.F.A s.F.n s.F.c) ∧ w'.cell? ⟨(w.heap.size + 1), 3, none⟩ = some (.slice s.mem.A s.mem.n s.mem.c) ∧ w'.cell? ⟨(w.heap.size + 1), 4, none⟩ = some (.slice s.bufs.A s.bufs.n s.bufs.c) ∧ w'.cell? ⟨(w.heap.size + 1), 5, none⟩ = some (.slice s.H.A s.H.n s.H.c) ∧ w'.cell? ⟨(w.heap.size + 1), 6, none⟩ = some (.slice s.view.A s.view.n s.view.c) ∧ w'.cell? ⟨(w.heap.size + 1), 7, none⟩ = some (.slice s.sc.A s.sc.n s.sc.c) ∧ w'.cell? ⟨(w.heap.size + 1), 8, none⟩ = some (.int .i64 s.next))) (by kernel_rfl) ?_ (fun hHeld => ?_)
    · exact R2.out.cells0
    refine wpAnyH_take (i := 0) (oi := { dst := some 18, op := Op.move (Operand.tmp 5), type := 133, pos := "l02_state.go:331", after := #[], guard := none }) (v := ?_) rfl (by kernel_rfl) (by kernel_rfl) (by kernel_rfl) (fun _ _ _ h => h) (Or.inl ⟨by rfl, ?_⟩) hHeld ?_
    rotate_left
    · (intro wq hSw; (try dsimp only at hSw); first | (go_simp; done) | (go_simp; with_reducible rfl))
    try simp only [Act.put, qa, qb, qc]
    refine wpAnyH_take (i := 1) (oi := { dst := some 19, op := Op.nilCheck (Operand.tmp 18), type := 0, pos := "l02_state.go:331", after := #[{ on := 0, ground := Ground.data }], guard := none }) (v := ?_) rfl (by kernel_rfl) (by kernel_rfl) (by kernel_rfl) (fun _ _ _ h => h) (Or.inl ⟨by rfl, ?_⟩) hHeld ?_
    rotate_left
    · (intro wq hSw; (try dsimp only at hSw); first | (go_simp; done) | (go_simp; with_reducible rfl))
    try simp only [Act.put, qa, qb, qc]
    refine wpAnyH_take (i := 2) (oi := { dst := some 20, op := Op.fieldAddr 137 (Operand.tmp 19) 0, type := 0, pos := "l02_state.go:331", after := #[{ on := 1, ground := Ground.data }], guard := none }) (v := ?_) rfl (by kernel_rfl) (by kernel_rfl) (by kernel_rfl) (fun _ _ _ h => h) (Or.inl ⟨by rfl, ?_⟩) hHeld ?_
    rotate_left
    · (intro wq hSw; (try dsimp only at hSw); first | (go_simp; done) | (go_simp; with_reducible rfl))
    try simp only [Act.put, qa, qb, qc]
    refine wpAnyH_take (i := 3) (oi := { dst := some 21, op := Op.load 135 (Operand.tmp 20), type := 135, pos := "l02_state.go:331", after := #[{ on := 2, ground := Ground.data }], guard := none }) (v := ?_) rfl (by kernel_rfl) (by kernel_rfl) (by kernel_rfl) (fun _ _ _ h => h) (Or.inl ⟨by rfl, ?_⟩) hHeld ?_
    rotate_left
    · (intro wq hSw; (try dsimp only at hSw); first | (go_simp; done) | (go_simp; with_reducible rfl))
    try simp only [Act.put, qa, qb, qc]
    refine wpAnyH_ready (rs := [4]) (by kernel_rfl) (by simp) ?_
    refine AllReadyH.cons (o := { dst := some 22, op := Op.call { callee := Callee.value (Operand.func 102), args := #[Operand.tmp 21], argTypes := #[135] }, type := 4, pos := "l02_state.go:331", after := #[{ on := 3, ground := Ground.data }], guard := none }) rfl (fun K hK => ?_) AllReadyH.nil
    go_simp
    go_at_call 102; refine (kc.out _ R2.out).mono ?_; rintro e w4 ⟨rfl, hb4⟩; have R4 := hide (R2.out.next hb4); have B4 := hide (below_then B2.out hb4)
    refine hK.out _ _ ?_ (fun hHeldN => ?_)
    · exact R4.out.cells0
    clear hK K hHeld
    have hHeld := hHeldN
    clear hHeldN
    try simp only [Act.put, qa, qb, qc]
    refine wpAnyH_take (i := 5) (oi := { dst := some 23, op := Op.move (Operand.tmp 22), type := 4, pos := "l02_state.go:331", after := #[{ on := 4, ground := Ground.data }, { on := 4, ground := Ground.chain }], guard := none }) (v := ?_) rfl (by kernel_rfl) (by kernel_rfl) (by kernel_rfl) (fun _ _ _ h => h) (Or.inl ⟨by rfl, ?_⟩) hHeld ?_
    rotate_left
    · (intro wq hSw; (try dsimp only at hSw); first | (go_simp; done) | (go_simp; with_reducible rfl))
    try simp only [Act.put, qa, qb, qc]
    refine wpAnyH_take (i := 6) (oi := { dst := some 24, op := Op.move (Operand.tmp 5), type := 133, pos := "l02_state.go:331", after := #[{ on := 5, ground := Ground.guard }], guard := some (5, true) }) (v := undef) rfl (by kernel_rfl) (by kernel_rfl) (by kernel_rfl) (fun _ _ _ h => h) (Or.inr ⟨by rfl, rfl⟩) hHeld ?_
    try simp only [Act.put, qa, qb, qc]
    refine wpAnyH_take (i := 7) (oi := { dst := some 25, op := Op.nilCheck (Operand.tmp 24), type := 0, pos := "l02_state.go:331", after := #[{ on := 6, ground := Ground.data }, { on := 5, ground := Ground.guard }], guard := some (5, true) }) (v := undef) rfl (by kernel_rfl) (by kernel_rfl) (by kernel_rfl) (fun _ _ _ h => h) (Or.inr ⟨by rfl, rfl⟩) hHeld ?_
    try simp only [Act.put, qa, qb, qc]
    refine wpAnyH_take (i := 8) (oi := { dst := some 26, op := Op.fieldAddr 137 (Operand.tmp 25) 1, type := 0, pos := "l02_state.go:331", after := #[{ on := 7, ground := Ground.data }, { on := 5, ground := Ground.guard }], guard := some (5, true) }) (v := undef) rfl (by kernel_rfl) (by kernel_rfl) (by kernel_rfl) (fun _ _ _ h => h) (Or.inr ⟨by rfl, rfl⟩) hHeld ?_
    try simp only [Act.put, qa, qb, qc]
    refine wpAnyH_take (i := 9) (oi := { dst := some 27, op := Op.load 22 (Operand.tmp 26), type := 22, pos := "l02_state.go:331", after := #[{ on := 8, ground := Ground.data }, { on := 5, ground := Ground.guard }], guard := some (5, true) }) (v := undef) rfl (by kernel_rfl) (by kernel_rfl) (by kernel_rfl) (fun _ _ _ h => h) (Or.inr ⟨by rfl, rfl⟩) hHeld ?_
    try simp only [Act.put, qa, qb, qc]
    refine wpAnyH_take (i := 10) (oi := { dst := some 28, op := Op.call { callee := Callee.builtin Builtin.len, args := #[Operand.tmp 27], argTypes := #[22] }, type := 3, pos := "l02_state.go:331", after := #[{ on := 9, ground := Ground.data }, { on := 5, ground := Ground.guard }], guard := some (5, true) }) (v := undef) rfl (by kernel_rfl) (by kernel_rfl) (by kernel_rfl) (fun _ _ _ h => h) (Or.inr ⟨by rfl, rfl⟩) hHeld ?_
    try simp only [Act.put, qa, qb, qc]
    refine wpAnyH_take (i := 11) (oi := { dst := some 29, op := Op.move (Operand.tmp 5), type := 133, pos := "l02_state.go:331", after := #[{ on := 5, ground := Ground.guard }], guard := some (5, true) }) (v := undef) rfl (by kernel_rfl) (by kernel_rfl) (by kernel_rfl) (fun _ _ _ h => h) (Or.inr ⟨by rfl, rfl⟩) hHeld ?_
    try simp only [Act.put, qa, qb, qc]
    refine wpAnyH_take (i := 12) (oi := { dst := some 30, op := Op.nilCheck (Operand.tmp 29), type := 0, pos := "l02_state.go:331", after := #[{ on := 11, ground := Ground.data }, { on := 5, ground := Ground.guard }], guard := some (5, true) }) (v := undef) rfl (by kernel_rfl) (by kernel_rfl) (by kernel_rfl) (fun _ _ _ h => h) (Or.inr ⟨by rfl, rfl⟩) hHeld ?_
    try simp only [Act.put, qa, qb, qc]
    refine wpAnyH_take (i := 13) (oi := { dst := some 31, op := Op.fieldAddr 137 (Operand.tmp 30) 0, type := 0, pos := "l02_state.go:331", after := #[{ on := 12, ground := Ground.data }, { on := 5, ground := Ground.guard }], guard := some (5, true) }) (v := undef) rfl (by kernel_rfl) (by kernel_rfl) (by kernel_rfl) (fun _ _ _ h => h) (Or.inr ⟨by rfl, rfl⟩) hHeld ?_
    try simp only [Act.put, qa, qb, qc]
    refine wpAnyH_take (i := 14) (oi := { dst := some 32, op := Op.load 135 (Operand.tmp 31), type := 135, pos := "l02_state.go:331", after := #[{ on := 13, ground := Ground.data }, { on := 5, ground := Ground.guard }], guard := some (5, true) }) (v := undef) rfl (by kernel_rfl) (by kernel_rfl) (by kernel_rfl) (fun _ _ _ h => h) (Or.inr ⟨by rfl, rfl⟩) hHeld ?_
    try simp only [Act.put, qa, qb, qc]
    refine wpAnyH_take (i := 15) (oi := { dst := some 33, op := Op.call { callee := Callee.value (Operand.func 103), args := #[Operand.tmp 32], argTypes := #[135] }, type := 3, pos := "l02_state.go:331", after := #[{ on := 14, ground := Ground.data }, { on := 5, ground := Ground.chain }, { on := 5, ground := Ground.guard }], guard := some (5, true) }) (v := undef) rfl (by kernel_rfl) (by kernel_rfl) (by kernel_rfl) (fun _ _ _ h => h) (Or.inr ⟨by rfl, rfl⟩) hHeld ?_
    try simp only [Act.put, qa, qb, qc]
    refine wpAnyH_take (i := 16) (oi := { dst := some 34, op := Op.binOp BinOp.eql 3 (Operand.tmp 28) (Operand.tmp 33) 3, type := 4, pos := "l02_state.go:331", after := #[{ on := 10, ground := Ground.data }, { on := 15, ground := Ground.data }, { on := 5, ground := Ground.guard }], guard := some (5, true) }) (v := undef) rfl (by kernel_rfl) (by kernel_rfl) (by kernel_rfl) (fun _ _ _ h => h) (Or.inr ⟨by rfl, rfl⟩) hHeld ?_
    try simp only [Act.put, qa, qb, qc]
    refine wpAnyH_take (i := 17) (oi := { dst := some 35, op := Op.pick (Operand.tmp 23) (Operand.tmp 34) (Operand.const (Value.bool false)), type := 4, pos := "l02_state.go:331", after := #[{ on := 5, ground := Ground.data }, { on := 16, ground := Ground.data }], guard := none }) (v := ?_) rfl (by kernel_rfl) (by kernel_rfl) (by kernel_rfl) (fun _ _ _ h => h) (Or.inl ⟨by rfl, ?_⟩) hHeld ?_
    rotate_left
    · (intro wq hSw; (try dsimp only at hSw); first | (go_simp; done) | (go_simp; with_reducible rfl))
    try simp only [Act.put, qa, qb, qc]
    refine wpAnyH_take (i := 18) (oi := { dst := some 36, op := Op.move (Operand.tmp 35), type := 4, pos := "l02_state.go:331", after := #[{ on := 17, ground := Ground.data }, { on := 15, ground := Ground.chain }], guard := none }) (v := ?_) rfl (by kernel_rfl) (by kernel_rfl) (by kernel_rfl) (fun _ _ _ h => h) (Or.inl ⟨by rfl, ?_⟩) hHeld ?_
    rotate_left
    · (intro wq hSw; (try dsimp only at hSw); first | (go_simp; done) | (go_simp; with_reducible rfl))
    try simp only [Act.put, qa, qb, qc]
    refine wpAnyH_take (i := 19) (oi := { dst := some 37, op := Op.load 48 (Operand.tmp 3), type := 48, pos := "l02_state.go:331", after := #[{ on := 18, ground := Ground.guard }], guard := some (18, true) }) (v := undef) rfl (by kernel_rfl) (by kernel_rfl) (by kernel_rfl) (fun _ _ _ h => h) (Or.inr ⟨by rfl, rfl⟩) hHeld ?_
    try simp only [Act.put, qa, qb, qc]
    refine wpAnyH_take (i := 20) (oi := { dst := some 38, op := Op.call { callee := Callee.value (Operand.func 104), args := #[Operand.tmp 37], argTypes := #[48] }, type := 4, pos := "l02_state.go:331", after := #[{ on := 19, ground := Ground.data }, { on := 18, ground := Ground.chain }, { on := 18, ground := Ground.guard }], guard := some (18, true) }) (v := undef) rfl (by kernel_rfl) (by kernel_rfl) (by kernel_rfl) (fun _ _ _ h => h) (Or.inr ⟨by rfl, rfl⟩) hHeld ?_
    try simp only [Act.put, qa, qb, qc]
    refine wpAnyH_take (i := 21) (oi := { dst := some 39, op := Op.pick (Operand.tmp 36) (Operand.tmp 38) (Operand.const (Value.bool false)), type := 4, pos := "l02_state.go:331", after := #[{ on := 18, ground := Ground.data }, { on := 20, ground := Ground.data }], guard := none }) (v := ?_) rfl (by kernel_rfl) (by kernel_rfl) (by kernel_rfl) (fun _ _ _ h => h) (Or.inl ⟨by rfl, ?_⟩) hHeld ?_
    rotate_left
    · (intro wq hSw; (try dsimp only at hSw); first | (go_simp; done) | (go_simp; with_reducible rfl))
    try simp only [Act.put, qa, qb, qc]
    refine wpAnyH_take (i := 22) (oi := { dst := some 40, op := Op.move (Operand.tmp 39), type := 4, pos := "l02_state.go:331", after := #[{ on := 21, ground := Ground.data }, { on := 20, ground := Ground.chain }], guard := none }) (v := ?_) rfl (by kernel_rfl) (by kernel_rfl) (by kernel_rfl) (fun _ _ _ h => h) (Or.inl ⟨by rfl, ?_⟩) hHeld ?_
    rotate_left
    · (intro wq hSw; (try dsimp only at hSw); first | (go_simp; done) | (go_simp; with_reducible rfl))
    try simp only [Act.put, qa, qb, qc]
    refine wpAnyH_take (i := 23) (oi := { dst := some 41, op := Op.load 48 (Operand.tmp 3), type := 48, pos := "l02_state.go:331", after := #[{ on := 22, ground := Ground.guard }], guard := some (22, true) }) (v := undef) rfl (by kernel_rfl) (by kernel_rfl) (by kernel_rfl) (fun _ _ _ h => h) (Or.inr ⟨by rfl, rfl⟩) hHeld ?_
    try simp only [Act.put, qa, qb, qc]
    refine wpAnyH_take (i := 24) (oi := { dst := some 42, op := Op.call { callee := Callee.value (Operand.func 105), args := #[Operand.tmp 41], argTypes := #[48] }, type := 4, pos := "l02_state.go:331", after := #[{ on := 23, ground := Ground.data }, { on := 22, ground := Ground.chain }, { on := 22, ground := Ground.guard }], guard := some (22, true) }) (v := undef) rfl (by kernel_rfl) (by kernel_rfl) (by kernel_rfl) (fun _ _ _ h => h) (Or.inr ⟨by rfl, rfl⟩) hHeld ?_
    try simp only [Act.put, qa, qb, qc]
    refine wpAnyH_take (i := 25) (oi := { dst := some 43, op := Op.pick (Operand.tmp 40) (Operand.tmp 42) (Operand.const (Value.bool false)), type := 4, pos := "l02_state.go:331", after := #[{ on := 22, ground := Ground.data }, { on := 24, ground := Ground.data }], guard := none }) (v := ?_) rfl (by kernel_rfl) (by kernel_rfl) (by kernel_rfl) (fun _ _ _ h => h) (Or.inl ⟨by rfl, ?_⟩) hHeld ?_
    rotate_left
    · (intro wq hSw; (try dsimp only at hSw); first | (go_simp; done) | (go_simp; with_reducible rfl))
    try simp only [Act.put, qa, qb, qc]
    refine wpAnyH_take (i := 26) (oi := { dst := some 4, op := Op.assign (Operand.tmp 43), type := 4, pos := "l02_state.go:331", after := #[{ on := 25, ground := Ground.data }, { on := 24, ground := Ground.chain }, { on := 0, ground := Ground.phase }, { on := 1, ground := Ground.phase }, { on := 2, ground := Ground.phase }, { on := 3, ground := Ground.phase }, { on := 4, ground := Ground.phase }, { on := 5, ground := Ground.phase }, { on := 6, ground := Ground.phase }, { on := 7, ground := Ground.phase }, { on := 8, ground := Ground.phase }, { on := 9, ground := Ground.phase }, { on := 10, ground := Ground.phase }, { on := 11, ground := Ground.phase }, { on := 12, ground := Ground.phase }, { on := 13, ground := Ground.phase }, { on := 14, ground := Ground.phase }, { on := 15, ground := Ground.phase }, { on := 16, ground := Ground.phase }, { on := 17, ground := Ground.phase }, { on := 18, ground := Ground.phase }, { on := 19, ground := Ground.phase }, { on := 20, ground := Ground.phase }, { on := 21, ground := Ground.phase }, { on := 22, ground := Ground.phase }, { on := 23, ground := Ground.phase }, { on := 24, ground := Ground.phase }, { on := 25, ground := Ground.phase }], guard := none }) (v := ?_) rfl (by kernel_rfl) (by kernel_rfl) (by kernel_rfl) (fun _ _ _ h => h) (Or.inl ⟨by rfl, ?_⟩) hHeld ?_
    rotate_left
    · (intro wq hSw; (try dsimp only at hSw); first | (go_simp; done) | (go_simp; with_reducible rfl))
    try simp only [Act.put, qa, qb, qc]
    refine wpAnyH_done (by kernel_rfl) ?_ _
    go_wp2_with fail
    go_ret
    exact ⟨ret_bool (hE.out.trans rfl).symm, B4.out⟩
  · by_cases hm : s.mem.n = p.init.length
    · have hm' : ((s.mem.n : Int) == (p.init.length : Int)) = true := by simp [hm]
      have hm2 : decide (s.mem.n = p.init.length) = true := decide_eq_true hm
      rw [hm2] at hE
      clear hm hm2
      cases bb
      · refine wp_region_held_drew (S := (fun w' => (w'.cell? ⟨T, 0, none⟩ = some (.slice A1 p.init.length c1) ∧ w'.cell? ⟨T, 1, none⟩ = some (.slice A2 p.ts.length c2) ∧ w'.cell? ⟨T, 2, none⟩ = some (.slice s.pc.A s.pc.n s.pc.c) ∧ w'.cell? ⟨T, 3, none⟩ = some (.slice s.F.A s.F.n s.F.c) ∧ w'.cell? ⟨T, 4, none⟩ = some (.slice s.mem.A s.mem.n s.mem.c)) ∧ w'.cell? ⟨(w.heap.size + 1), 0, none⟩ = some (.int .i64 0) ∧ w'.cell? ⟨(w.heap.size + 1), 1, none⟩ = some (.slice s.pc.A s.pc.n s.pc.c) ∧ w'.cell? ⟨(w.heap.size + 1), 2, none⟩ = some (.slice s.F.A s.F.n s.F.c) ∧ w'.cell? ⟨(w.heap.size + 1), 3, none⟩ = some (.slice s.mem.A s.mem.n s.mem.c) ∧ w'.cell? ⟨(w.heap.size + 1), 4, none⟩ = some (.slice s.bufs.A s.bufs.n s.bufs.c) ∧ w'.cell? ⟨(w.heap.size + 1), 5, none⟩ = some (.slice s.H.A s.H.n s.H.c) ∧ w'.cell? ⟨(w.heap.size + 1), 6, none⟩ = some (.slice s.view.A s.view.n s.view.c) ∧ w'.cell? ⟨(w.heap.size + 1), 7, none⟩ = some (.slice s.sc.A s.sc.n s.sc.c) ∧ w'.cell? ⟨(w.heap.size + 1), 8, none⟩ = some (.int .i64 s.next))) (by kernel_rfl) ?_ (fun hHeld => ?_)
        · exact R2.out.cells0
        refine wpAnyH_take (i := 0) (oi := { dst := some 18, op := Op.move (Operand.tmp 5), type := 133, pos := "l02_state.go:331", after := #[], guard := none }) (v := ?_) rfl (by kernel_rfl) (by kernel_rfl) (by kernel_rfl) (fun _ _ _ h => h) (Or.inl ⟨by rfl, ?_⟩) hHeld ?_
        rotate_left
        · (intro wq hSw; (try dsimp only at hSw); first | (go_simp; done) | (go_simp; with_reducible rfl))
        try simp only [Act.put, qa, qb, qc]
        refine wpAnyH_take (i := 1) (oi := { dst := some 19, op := Op.nilCheck (Operand.tmp 18), type := 0, pos := "l02_state.go:331", after := #[{ on := 0, ground := Ground.data }], guard := none }) (v := ?_) rfl (by kernel_rfl) (by kernel_rfl) (by kernel_rfl) (fun _ _ _ h => h) (Or.inl ⟨by rfl, ?_⟩) hHeld ?_
        rotate_left
        · (intro wq hSw; (try dsimp only at hSw); first | (go_simp; done) | (go_simp; with_reducible rfl))
        try simp only [Act.put, qa, qb, qc]
        refine wpAnyH_take (i := 2) (oi := { dst := some 20, op := Op.fieldAddr 137 (Operand.tmp 19) 0, type := 0, pos := "l02_state.go:331", after := #[{ on := 1, ground := Ground.data }], guard := none }) (v := ?_) rfl (by kernel_rfl) (by kernel_rfl) (by kernel_rfl) (fun _ _ _ h => h) (Or.inl ⟨by rfl, ?_⟩) hHeld ?_
        rotate_left
        · (intro wq hSw; (try dsimp only at hSw); first | (go_simp; done) | (go_simp; with_reducible rfl))
        try simp only [Act.put, qa, qb, qc]
        refine wpAnyH_take (i := 3) (oi := { dst := some 21, op := Op.load 135 (Operand.tmp 20), type := 135, pos := "l02_state.go:331", after := #[{ on := 2, ground := Ground.data }], guard := none }) (v := ?_) rfl (by kernel_rfl) (by kernel_rfl) (by kernel_rfl) (fun _ _ _ h => h) (Or.inl ⟨by rfl, ?_⟩) hHeld ?_
        rotate_left
        · (intro wq hSw; (try dsimp only at hSw); first | (go_simp; done) | (go_simp; with_reducible rfl))
        try simp only [Act.put, qa, qb, qc]
        refine wpAnyH_ready (rs := [4]) (by kernel_rfl) (by simp) ?_
        refine AllReadyH.cons (o := { dst := some 22, op := Op.call { callee := Callee.value (Operand.func 102), args := #[Operand.tmp 21], argTypes := #[135] }, type := 4, pos := "l02_state.go:331", after := #[{ on := 3, ground := Ground.data }], guard := none }) rfl (fun K hK => ?_) AllReadyH.nil
        go_simp
        go_at_call 102; refine (kc.out _ R2.out).mono ?_; rintro e w4 ⟨rfl, hb4⟩; have R4 := hide (R2.out.next hb4); have B4 := hide (below_then B2.out hb4)
        refine hK.out _ _ ?_ (fun hHeldN => ?_)
        · exact R4.out.cells0
        clear hK K hHeld
        have hHeld := hHeldN
        clear hHeldN
        try simp only [Act.put, qa, qb, qc]
        refine wpAnyH_take (i := 5) (oi := { dst := some 23, op := Op.move (Operand.tmp 22), type := 4, pos := "l02_state.go:331", after := #[{ on := 4, ground := Ground.data }, { on := 4, ground := Ground.chain }], guard := none }) (v := ?_) rfl (by kernel_rfl) (by kernel_rfl) (by kernel_rfl) (fun _ _ _ h => h) (Or.inl ⟨by rfl, ?_⟩) hHeld ?_
        rotate_left
        · (intro wq hSw; (try dsimp only at hSw); first | (go_simp; done) | (go_simp; with_reducible rfl))
        try simp only [Act.put, qa, qb, qc]
        refine wpAnyH_take (i := 6) (oi := { dst := some 24, op := Op.move (Operand.tmp 5), type := 133, pos := "l02_state.go:331", after := #[{ on := 5, ground := Ground.guard }], guard := some (5, true) }) (v := ?_) rfl (by kernel_rfl) (by kernel_rfl) (by kernel_rfl) (fun _ _ _ h => h) (Or.inl ⟨by rfl, ?_⟩) hHeld ?_
        rotate_left
        · (intro wq hSw; (try dsimp only at hSw); first | (go_simp; done) | (go_simp; with_reducible rfl))
        try simp only [Act.put, qa, qb, qc]
        refine wpAnyH_take (i := 7) (oi := { dst := some 25, op := Op.nilCheck (Operand.tmp 24), type := 0, pos := "l02_state.go:331", after := #[{ on := 6, ground := Ground.data }, { on := 5, ground := Ground.guard }], guard := some (5, true) }) (v := ?_) rfl (by kernel_rfl) (by kernel_rfl) (by kernel_rfl) (fun _ _ _ h => h) (Or.inl ⟨by rfl, ?_⟩) hHeld ?_
        rotate_left
        · (intro wq hSw; (try dsimp only at hSw); first | (go_simp; done) | (go_simp; with_reducible rfl))
        try simp only [Act.put, qa, qb, qc]
        refine wpAnyH_take (i := 8) (oi := { dst := some 26, op := Op.fieldAddr 137 (Operand.tmp 25) 1, type := 0, pos := "l02_state.go:331", after := #[{ on := 7, ground := Ground.data }, { on := 5, ground := Ground.guard }], guard := some (5, true) }) (v := ?_) rfl (by kernel_rfl) (by kernel_rfl) (by kernel_rfl) (fun _ _ _ h => h) (Or.inl ⟨by rfl, ?_⟩) hHeld ?_
        rotate_left
        · (intro wq hSw; (try dsimp only at hSw); first | (go_simp; done) | (go_simp; with_reducible rfl))
        try simp only [Act.put, qa, qb, qc]
        refine wpAnyH_take (i := 9) (oi := { dst := some 27, op := Op.load 22 (Operand.tmp 26), type := 22, pos := "l02_state.go:331", after := #[{ on := 8, ground := Ground.data }, { on := 5, ground := Ground.guard }], guard := some (5, true) }) (v := ?_) rfl (by kernel_rfl) (by kernel_rfl) (by kernel_rfl) (fun _ _ _ h => h) (Or.inl ⟨by rfl, ?_⟩) hHeld ?_
        rotate_left
        · (intro wq hSw; (try dsimp only at hSw); first | (go_simp; done) | (go_simp; with_reducible rfl))
        try simp only [Act.put, qa, qb, qc]
        refine wpAnyH_take (i := 10) (oi := { dst := some 28, op := Op.call { callee := Callee.builtin Builtin.len, args := #[Operand.tmp 27], argTypes := #[22] }, type := 3, pos := "l02_state.go:331", after := #[{ on := 9, ground := Ground.data }, { on := 5, ground := Ground.guard }], guard := some (5, true) }) (v := ?_) rfl (by kernel_rfl) (by kernel_rfl) (by kernel_rfl) (fun _ _ _ h => h) (Or.inl ⟨by rfl, ?_⟩) hHeld ?_
        rotate_left
        · (intro wq hSw; (try dsimp only at hSw); first | (go_simp; done) | (go_simp; with_reducible rfl))
        try simp only [Act.put, qa, qb, qc]
        refine wpAnyH_take (i := 11) (oi := { dst := some 29, op := Op.move (Operand.tmp 5), type := 133, pos := "l02_state.go:331", after := #[{ on := 5, ground := Ground.guard }], guard := some (5, true) }) (v := ?_) rfl (by kernel_rfl) (by kernel_rfl) (by kernel_rfl) (fun _ _ _ h => h) (Or.inl ⟨by rfl, ?_⟩) hHeld ?_
        rotate_left
        · (intro wq hSw; (try dsimp only at hSw); first | (go_simp; done) | (go_simp; with_reducible rfl))
        try simp only [Act.put, qa, qb, qc]
        refine wpAnyH_take (i := 12) (oi := { dst := some 30, op := Op.nilCheck (Operand.tmp 29), type := 0, pos := "l02_state.go:331", after := #[{ on := 11, ground := Ground.data }, { on := 5, ground := Ground.guard }], guard := some (5, true) }) (v := ?_) rfl (by kernel_rfl) (by kernel_rfl) (by kernel_rfl) (fun _ _ _ h => h) (Or.inl ⟨by rfl, ?_⟩) hHeld ?_
        rotate_left
        · (intro wq hSw; (try dsimp only at hSw); first | (go_simp; done) | (go_simp; with_reducible rfl))
        try simp only [Act.put, qa, qb, qc]
        refine wpAnyH_take (i := 13) (oi := { dst := some 31, op := Op.fieldAddr 137 (Operand.tmp 30) 0, type := 0, pos := "l02_state.go:331", after := #[{ on := 12, ground := Ground.data }, { on := 5, ground := Ground.guard }], guard := some (5, true) }) (v := ?_) rfl (by kernel_rfl) (by kernel_rfl) (by kernel_rfl) (fun _ _ _ h => h) (Or.inl ⟨by rfl, ?_⟩) hHeld ?_
        rotate_left
        · (intro wq hSw; (try dsimp only at hSw); first | (go_simp; done) | (go_simp; with_reducible rfl))
        try simp only [Act.put, qa, qb, qc]
        refine wpAnyH_take (i := 14) (oi := { dst := some 32, op := Op.load 135 (Operand.tmp 31), type := 135, pos := "l02_state.go:331", after := #[{ on := 13, ground := Ground.data }, { on := 5, ground := Ground.guard }], guard := some (5, true) }) (v := ?_) rfl (by kernel_rfl) (by kernel_rfl) (by kernel_rfl) (fun _ _ _ h => h) (Or.inl ⟨by rfl, ?_⟩) hHeld ?_
        rotate_left
        · (intro wq hSw; (try dsimp only at hSw); first | (go_simp; done) | (go_simp; with_reducible rfl))
        try simp only [Act.put, qa, qb, qc]
        refine wpAnyH_ready (rs := [15]) (by kernel_rfl) (by simp) ?_
        refine AllReadyH.cons (o := { dst := some 33, op := Op.call { callee := Callee.value (Operand.func 103), args := #[Operand.tmp 32], argTypes := #[135] }, type := 3, pos := "l02_state.go:331", after := #[{ on := 14, ground := Ground.data }, { on := 5, ground := Ground.chain }, { on := 5, ground := Ground.guard }], guard := some (5, true) }) rfl (fun K hK => ?_) AllReadyH.nil
        go_simp
        go_at_call 103; refine (comCells_any _ _ _ _ _ _ _ _ _ _ _ _ _).mono ?_; rintro e w5 ⟨rfl, hb5⟩; have R5 := hide (R4.out.next hb5); have B5 := hide (below_then B4.out hb5)
        refine hK.out _ _ ?_ (fun hHeldN => ?_)
        · exact R5.out.cells0
        clear hK K hHeld
        have hHeld := hHeldN
        clear hHeldN
        try simp only [Act.put, qa, qb, qc]
        refine wpAnyH_take (i := 16) (oi := { dst := some 34, op := Op.binOp BinOp.eql 3 (Operand.tmp 28) (Operand.tmp 33) 3, type := 4, pos := "l02_state.go:331", after := #[{ on := 10, ground := Ground.data }, { on := 15, ground := Ground.data }, { on := 5, ground := Ground.guard }], guard := some (5, true) }) (v := ?_) rfl (by kernel_rfl) (by kernel_rfl) (by kernel_rfl) (fun _ _ _ h => h) (Or.inl ⟨by rfl, ?_⟩) hHeld ?_
        rotate_left
        · (intro wq hSw; (try dsimp only at hSw); first | (go_simp; done) | (go_simp; with_reducible rfl))
        try simp only [Act.put, qa, qb, qc]
        refine wpAnyH_take (i := 17) (oi := { dst := some 35, op := Op.pick (Operand.tmp 23) (Operand.tmp 34) (Operand.const (Value.bool false)), type := 4, pos := "l02_state.go:331", after := #[{ on := 5, ground := Ground.data }, { on := 16, ground := Ground.data }], guard := none }) (v := ?_) rfl (by kernel_rfl) (by kernel_rfl) (by kernel_rfl) (fun _ _ _ h => h) (Or.inl ⟨by rfl, ?_⟩) hHeld ?_
        rotate_left
        · (intro wq hSw; (try dsimp only at hSw); first | (go_simp; done) | (go_simp; with_reducible rfl))
        try simp only [Act.put, qa, qb, qc]
        refine wpAnyH_take (i := 18) (oi := { dst := some 36, op := Op.move (Operand.tmp 35), type := 4, pos := "l02_state.go:331", after := #[{ on := 17, ground := Ground.data }, { on := 15, ground := Ground.chain }], guard := none }) (v := ?_) rfl (by kernel_rfl) (by kernel_rfl) (by kernel_rfl) (fun _ _ _ h => h) (Or.inl ⟨by rfl, ?_⟩) hHeld ?_
        rotate_left
        · (intro wq hSw; (try dsimp only at hSw); first | (go_simp; done) | (go_simp; with_reducible rfl))
        try simp only [Act.put, qa, qb, qc]
        refine wpAnyH_take (i := 19) (oi := { dst := some 37, op := Op.load 48 (Operand.tmp 3), type := 48, pos := "l02_state.go:331", after := #[{ on := 18, ground := Ground.guard }], guard := some (18, true) }) (v := ?_) rfl (by kernel_rfl) (by kernel_rfl) (by kernel_rfl) (fun _ _ _ h => h) (Or.inl ⟨by rfl, ?_⟩) hHeld ?_
        rotate_left
        · (intro wq hSw; (try dsimp only at hSw); first | (go_simp; done) | (go_simp; with_reducible rfl))
        try simp only [Act.put, qa, qb, qc]
        refine wpAnyH_ready (rs := [20]) (by kernel_rfl) (by simp) ?_
        refine AllReadyH.cons (o := { dst := some 38, op := Op.call { callee := Callee.value (Operand.func 104), args := #[Operand.tmp 37], argTypes := #[48] }, type := 4, pos := "l02_state.go:331", after := #[{ on := 19, ground := Ground.data }, { on := 18, ground := Ground.chain }, { on := 18, ground := Ground.guard }], guard := some (18, true) }) rfl (fun K hK => ?_) AllReadyH.nil
        go_simp
        go_at_call 104; refine (nB.out _).mono ?_; rintro e w6 ⟨rfl, hb6⟩; have R6 := hide (R5.out.next hb6); have B6 := hide (below_then B5.out hb6)
        refine hK.out _ _ ?_ (fun hHeldN => ?_)
        · exact R6.out.cells0
        clear hK K hHeld
        have hHeld := hHeldN
        clear hHeldN
        try simp only [Act.put, qa, qb, qc]
        refine wpAnyH_take (i := 21) (oi := { dst := some 39, op := Op.pick (Operand.tmp 36) (Operand.tmp 38) (Operand.const (Value.bool false)), type := 4, pos := "l02_state.go:331", after := #[{ on := 18, ground := Ground.data }, { on := 20, ground := Ground.data }], guard := none }) (v := ?_) rfl (by kernel_rfl) (by kernel_rfl) (by kernel_rfl) (fun _ _ _ h => h) (Or.inl ⟨by rfl, ?_⟩) hHeld ?_
        rotate_left
        · (intro wq hSw; (try dsimp only at hSw); first | (go_simp; done) | (go_simp; with_reducible rfl))
        try simp only [Act.put, qa, qb, qc]
        refine wpAnyH_take (i := 22) (oi := { dst := some 40, op := Op.move (Operand.tmp 39), type := 4, pos := "l02_state.go:331", after := #[{ on := 21, ground := Ground.data }, { on := 20, ground := Ground.chain }], guard := none }) (v := ?_) rfl (by kernel_rfl) (by kernel_rfl) (by kernel_rfl) (fun _ _ _ h => h) (Or.inl ⟨by rfl, ?_⟩) hHeld ?_
        rotate_left
        · (intro wq hSw; (try dsimp only at hSw); first | (go_simp; done) | (go_simp; with_reducible rfl))
        try simp only [Act.put, qa, qb, qc]
        refine wpAnyH_take (i := 23) (oi := { dst := some 41, op := Op.load 48 (Operand.tmp 3), type := 48, pos := "l02_state.go:331", after := #[{ on := 22, ground := Ground.guard }], guard := some (22, true) }) (v := undef) rfl (by kernel_rfl) (by kernel_rfl) (by kernel_rfl) (fun _ _ _ h => h) (Or.inr ⟨by rfl, rfl⟩) hHeld ?_
        try simp only [Act.put, qa, qb, qc]
        refine wpAnyH_take (i := 24) (oi := { dst := some 42, op := Op.call { callee := Callee.value (Operand.func 105), args := #[Operand.tmp 41], argTypes := #[48] }, type := 4, pos := "l02_state.go:331", after := #[{ on := 23, ground := Ground.data }, { on := 22, ground := Ground.chain }, { on := 22, ground := Ground.guard }], guard := some (22, true) }) (v := undef) rfl (by kernel_rfl) (by kernel_rfl) (by kernel_rfl) (fun _ _ _ h => h) (Or.inr ⟨by rfl, rfl⟩) hHeld ?_
        try simp only [Act.put, qa, qb, qc]
        refine wpAnyH_take (i := 25) (oi := { dst := some 43, op := Op.pick (Operand.tmp 40) (Operand.tmp 42) (Operand.const (Value.bool false)), type := 4, pos := "l02_state.go:331", after := #[{ on := 22, ground := Ground.data }, { on := 24, ground := Ground.data }], guard := none }) (v := ?_) rfl (by kernel_rfl) (by kernel_rfl) (by kernel_rfl) (fun _ _ _ h => h) (Or.inl ⟨by rfl, ?_⟩) hHeld ?_
        rotate_left
        · (intro wq hSw; (try dsimp only at hSw); first | (go_simp; done) | (go_simp; with_reducible rfl))
        try simp only [Act.put, qa, qb, qc]
        refine wpAnyH_take (i := 26) (oi := { dst := some 4, op := Op.assign (Operand.tmp 43), type := 4, pos := "l02_state.go:331", after := #[{ on := 25, ground := Ground.data }, { on := 24, ground := Ground.chain }, { on := 0, ground := Ground.phase }, { on := 1, ground := Ground.phase }, { on := 2, ground := Ground.phase }, { on := 3, ground := Ground.phase }, { on := 4, ground := Ground.phase }, { on := 5, ground := Ground.phase }, { on := 6, ground := Ground.phase }, { on := 7, ground := Ground.phase }, { on := 8, ground := Ground.phase }, { on := 9, ground := Ground.phase }, { on := 10, ground := Ground.phase }, { on := 11, ground := Ground.phase }, { on := 12, ground := Ground.phase }, { on := 13, ground := Ground.phase }, { on := 14, ground := Ground.phase }, { on := 15, ground := Ground.phase }, { on := 16, ground := Ground.phase }, { on := 17, ground := Ground.phase }, { on := 18, ground := Ground.phase }, { on := 19, ground := Ground.phase }, { on := 20, ground := Ground.phase }, { on := 21, ground := Ground.phase }, { on := 22, ground := Ground.phase }, { on := 23, ground := Ground.phase }, { on := 24, ground := Ground.phase }, { on := 25, ground := Ground.phase }], guard := none }) (v := ?_) rfl (by kernel_rfl) (by kernel_rfl) (by kernel_rfl) (fun _ _ _ h => h) (Or.inl ⟨by rfl, ?_⟩) hHeld ?_
        rotate_left
        · (intro wq hSw; (try dsimp only at hSw); first | (go_simp; done) | (go_simp; with_reducible rfl))
        try simp only [Act.put, qa, qb, qc]
        refine wpAnyH_done (by kernel_rfl) ?_ _
        go_wp2_with fail
        go_ret
        exact ⟨ret_bool (hE.out.trans rfl).symm, B6.out⟩
      · refine wp_region_held_drew (S := (fun w' => (w'.cell? ⟨T, 0, none⟩ = some (.slice A1 p.init.length c1) ∧ w'.cell? ⟨T, 1, none⟩ = some (.slice A2 p.ts.length c2) ∧ w'.cell? ⟨T, 2, none⟩ = some (.slice s.pc.A s.pc.n s.pc.c) ∧ w'.cell? ⟨T, 3, none⟩ = some (.slice s.F.A s.F.n s.F.c) ∧ w'.cell? ⟨T, 4, none⟩ = some (.slice s.mem.A s.mem.n s.mem.c)) ∧ w'.cell? ⟨(w.heap.size + 1), 0, none⟩ = some (.int .i64 0) ∧ w'.cell? ⟨(w.heap.size + 1), 1, none⟩ = some (.slice s.pc.A s.pc.n s.pc.c) ∧ w'.cell? ⟨(w.heap.size + 1), 2, none⟩ = some (.slice s.F.A s.F.n s.F.c) ∧ w'.cell? ⟨(w.heap.size + 1), 3, none⟩ = some (.slice s.mem.A s.mem.n s.mem.c) ∧ w'.cell? ⟨(w.heap.size + 1), 4, none⟩ = some (.slice s.bufs.A s.bufs.n s.bufs.c) ∧ w'.cell? ⟨(w.heap.size + 1), 5, none⟩ = some (.slice s.H.A s.H.n s.H.c) ∧ w'.cell? ⟨(w.heap.size + 1), 6, none⟩ = some (.slice s.view.A s.view.n s.view.c) ∧ w'.cell? ⟨(w.heap.size + 1), 7, none⟩ = some (.slice s.sc.A s.sc.n s.sc.c) ∧ w'.cell? ⟨(w.heap.size + 1), 8, none⟩ = some (.int .i64 s.next))) (by kernel_rfl) ?_ (fun hHeld => ?_)
        · exact R2.out.cells0
        refine wpAnyH_take (i := 0) (oi := { dst := some 18, op := Op.move (Operand.tmp 5), type := 133, pos := "l02_state.go:331", after := #[], guard := none }) (v := ?_) rfl (by kernel_rfl) (by kernel_rfl) (by kernel_rfl) (fun _ _ _ h => h) (Or.inl ⟨by rfl, ?_⟩) hHeld ?_
        rotate_left
        · (intro wq hSw; (try dsimp only at hSw); first | (go_simp; done) | (go_simp; with_reducible rfl))
        try simp only [Act.put, qa, qb, qc]
        refine wpAnyH_take (i := 1) (oi := { dst := some 19, op := Op.nilCheck (Operand.tmp 18), type := 0, pos := "l02_state.go:331", after := #[{ on := 0, ground := Ground.data }], guard := none }) (v := ?_) rfl (by kernel_rfl) (by kernel_rfl) (by kernel_rfl) (fun _ _ _ h => h) (Or.inl ⟨by rfl, ?_⟩) hHeld ?_
        rotate_left
        · (intro wq hSw; (try dsimp only at hSw); first | (go_simp; done) | (go_simp; with_reducible rfl))
        try simp only [Act.put, qa, qb, qc]
        refine wpAnyH_take (i := 2) (oi := { dst := some 20, op := Op.fieldAddr 137 (Operand.tmp 19) 0, type := 0, pos := "l02_state.go:331", after := #[{ on := 1, ground := Ground.data }], guard := none }) (v := ?_) rfl (by kernel_rfl) (by kernel_rfl) (by kernel_rfl) (fun _ _ _ h => h) (Or.inl ⟨by rfl, ?_⟩) hHeld ?_
        rotate_left
        · (intro wq hSw; (try dsimp only at hSw); first | (go_simp; done) | (go_simp; with_reducible rfl))
        try simp only [Act.put, qa, qb, qc]
        refine wpAnyH_take (i := 3) (oi := { dst := some 21, op := Op.load 135 (Operand.tmp 20), type := 135, pos := "l02_state.go:331", after := #[{ on := 2, ground := Ground.data }], guard := none }) (v := ?_) rfl (by kernel_rfl) (by kernel_rfl) (by kernel_rfl) (fun _ _ _ h => h) (Or.inl ⟨by rfl, ?_⟩) hHeld ?_
        rotate_left
        · (intro wq hSw; (try dsimp only at hSw); first | (go_simp; done) | (go_simp; with_reducible rfl))
        try simp only [Act.put, qa, qb, qc]
        refine wpAnyH_ready (rs := [4]) (by kernel_rfl) (by simp) ?_
        refine AllReadyH.cons (o := { dst := some 22, op := Op.call { callee := Callee.value (Operand.func 102), args := #[Operand.tmp 21], argTypes := #[135] }, type := 4, pos := "l02_state.go:331", after := #[{ on := 3, ground := Ground.data }], guard := none }) rfl (fun K hK => ?_) AllReadyH.nil
        go_simp
        go_at_call 102; refine (kc.out _ R2.out).mono ?_; rintro e w4 ⟨rfl, hb4⟩; have R4 := hide (R2.out.next hb4); have B4 := hide (below_then B2.out hb4)
        refine hK.out _ _ ?_ (fun hHeldN => ?_)
        · exact R4.out.cells0
        clear hK K hHeld
        have hHeld := hHeldN
        clear hHeldN
        try simp only [Act.put, qa, qb, qc]
        refine wpAnyH_take (i := 5) (oi := { dst := some 23, op := Op.move (Operand.tmp 22), type := 4, pos := "l02_state.go:331", after := #[{ on := 4, ground := Ground.data }, { on := 4, ground := Ground.chain }], guard := none }) (v := ?_) rfl (by kernel_rfl) (by kernel_rfl) (by kernel_rfl) (fun _ _ _ h => h) (Or.inl ⟨by rfl, ?_⟩) hHeld ?_
        rotate_left
        · (intro wq hSw; (try dsimp only at hSw); first | (go_simp; done) | (go_simp; with_reducible rfl))
        try simp only [Act.put, qa, qb, qc]
        refine wpAnyH_take (i := 6) (oi := { dst := some 24, op := Op.move (Operand.tmp 5), type := 133, pos := "l02_state.go:331", after := #[{ on := 5, ground := Ground.guard }], guard := some (5, true) }) (v := ?_) rfl (by kernel_rfl) (by kernel_rfl) (by kernel_rfl) (fun _ _ _ h => h) (Or.inl ⟨by rfl, ?_⟩) hHeld ?_
        rotate_left
        · (intro wq hSw; (try dsimp only at hSw); first | (go_simp; done) | (go_simp; with_reducible rfl))
        try simp only [Act.put, qa, qb, qc]
        refine wpAnyH_take (i := 7) (oi := { dst := some 25, op := Op.nilCheck (Operand.tmp 24), type := 0, pos := "l02_state.go:331", after := #[{ on := 6, ground := Ground.data }, { on := 5, ground := Ground.guard }], guard := some (5, true) }) (v := ?_) rfl (by kernel_rfl) (by kernel_rfl) (by kernel_rfl) (fun _ _ _ h => h) (Or.inl ⟨by rfl, ?_⟩) hHeld ?_
        rotate_left
        · (intro wq hSw; (try dsimp only at hSw); first | (go_simp; done) | (go_simp; with_reducible rfl))
        try simp only [Act.put, qa, qb, qc]
        refine wpAnyH_take (i := 8) (oi := { dst := some 26, op := Op.fieldAddr 137 (Operand.tmp 25) 1, type := 0, pos := "l02_state.go:331", after := #[{ on := 7, ground := Ground.data }, { on := 5, ground := Ground.guard }], guard := some (5, true) }) (v := ?_) rfl (by kernel_rfl) (by kernel_rfl) (by kernel_rfl) (fun _ _ _ h => h) (Or.inl ⟨by rfl, ?_⟩) hHeld ?_
        rotate_left
        · (intro wq hSw; (try dsimp only at hSw); first | (go_simp; done) | (go_simp; with_reducible rfl))
        try simp only [Act.put, qa, qb, qc]
        refine wpAnyH_take (i := 9) (oi := { dst := some 27, op := Op.load 22 (Operand.tmp 26), type := 22, pos := "l02_state.go:331", after := #[{ on := 8, ground := Ground.data }, { on := 5, ground := Ground.guard }], guard := some (5, true) }) (v := ?_) rfl (by kernel_rfl) (by kernel_rfl) (by kernel_rfl) (fun _ _ _ h => h) (Or.inl ⟨by rfl, ?_⟩) hHeld ?_
        rotate_left
        · (intro wq hSw; (try dsimp only at hSw); first | (go_simp; done) | (go_simp; with_reducible rfl))
        try simp only [Act.put, qa, qb, qc]
        refine wpAnyH_take (i := 10) (oi := { dst := some 28, op := Op.call { callee := Callee.builtin Builtin.len, args := #[Operand.tmp 27], argTypes := #[22] }, type := 3, pos := "l02_state.go:331", after := #[{ on := 9, ground := Ground.data }, { on := 5, ground := Ground.guard }], guard := some (5, true) }) (v := ?_) rfl (by kernel_rfl) (by kernel_rfl) (by kernel_rfl) (fun _ _ _ h => h) (Or.inl ⟨by rfl, ?_⟩) hHeld ?_
        rotate_left
        · (intro wq hSw; (try dsimp only at hSw); first | (go_simp; done) | (go_simp; with_reducible rfl))
        try simp only [Act.put, qa, qb, qc]
        refine wpAnyH_take (i := 11) (oi := { dst := some 29, op := Op.move (Operand.tmp 5), type := 133, pos := "l02_state.go:331", after := #[{ on := 5, ground := Ground.guard }], guard := some (5, true) }) (v := ?_) rfl (by kernel_rfl) (by kernel_rfl) (by kernel_rfl) (fun _ _ _ h => h) (Or.inl ⟨by rfl, ?_⟩) hHeld ?_
        rotate_left
        · (intro wq hSw; (try dsimp only at hSw); first | (go_simp; done) | (go_simp; with_reducible rfl))
        try simp only [Act.put, qa, qb, qc]
        refine wpAnyH_take (i := 12) (oi := { dst := some 30, op := Op.nilCheck (Operand.tmp 29), type := 0, pos := "l02_state.go:331", after := #[{ on := 11, ground := Ground.data }, { on := 5, ground := Ground.guard }], guard := some (5, true) }) (v := ?_) rfl (by kernel_rfl) (by kernel_rfl) (by kernel_rfl) (fun _ _ _ h => h) (Or.inl ⟨by rfl, ?_⟩) hHeld ?_
        rotate_left
        · (intro wq hSw; (try dsimp only at hSw); first | (go_simp; done) | (go_simp; with_reducible rfl))
        try simp only [Act.put, qa, qb, qc]
        refine wpAnyH_take (i := 13) (oi := { dst := some 31, op := Op.fieldAddr 137 (Operand.tmp 30) 0, type := 0, pos := "l02_state.go:331", after := #[{ on := 12, ground := Ground.data }, { on := 5, ground := Ground.guard }], guard := some (5, true) }) (v := ?_) rfl (by kernel_rfl) (by kernel_rfl) (by kernel_rfl) (fun _ _ _ h => h) (Or.inl ⟨by rfl, ?_⟩) hHeld ?_
        rotate_left
        · (intro wq hSw; (try dsimp only at hSw); first | (go_simp; done) | (go_simp; with_reducible rfl))
        try simp only [Act.put, qa, qb, qc]
        refine wpAnyH_take (i := 14) (oi := { dst := some 32, op := Op.load 135 (Operand.tmp 31), type := 135, pos := "l02_state.go:331", after := #[{ on := 13, ground := Ground.data }, { on := 5, ground := Ground.guard }], guard := some (5, true) }) (v := ?_) rfl (by kernel_rfl) (by kernel_rfl) (by kernel_rfl) (fun _ _ _ h => h) (Or.inl ⟨by rfl, ?_⟩) hHeld ?_
        rotate_left
        · (intro wq hSw; (try dsimp only at hSw); first | (go_simp; done) | (go_simp; with_reducible rfl))
        try simp only [Act.put, qa, qb, qc]
        refine wpAnyH_ready (rs := [15]) (by kernel_rfl) (by simp) ?_
        refine AllReadyH.cons (o := { dst := some 33, op := Op.call { callee := Callee.value (Operand.func 103), args := #[Operand.tmp 32], argTypes := #[135] }, type := 3, pos := "l02_state.go:331", after := #[{ on := 14, ground := Ground.data }, { on := 5, ground := Ground.chain }, { on := 5, ground := Ground.guard }], guard := some (5, true) }) rfl (fun K hK => ?_) AllReadyH.nil
        go_simp
        go_at_call 103; refine (comCells_any _ _ _ _ _ _ _ _ _ _ _ _ _).mono ?_; rintro e w5 ⟨rfl, hb5⟩; have R5 := hide (R4.out.next hb5); have B5 := hide (below_then B4.out hb5)
        refine hK.out _ _ ?_ (fun hHeldN => ?_)
        · exact R5.out.cells0
        clear hK K hHeld
        have hHeld := hHeldN
        clear hHeldN
        try simp only [Act.put, qa, qb, qc]
        refine wpAnyH_take (i := 16) (oi := { dst := some 34, op := Op.binOp BinOp.eql 3 (Operand.tmp 28) (Operand.tmp 33) 3, type := 4, pos := "l02_state.go:331", after := #[{ on := 10, ground := Ground.data }, { on := 15, ground := Ground.data }, { on := 5, ground := Ground.guard }], guard := some (5, true) }) (v := ?_) rfl (by kernel_rfl) (by kernel_rfl) (by kernel_rfl) (fun _ _ _ h => h) (Or.inl ⟨by rfl, ?_⟩) hHeld ?_
        rotate_left
        · (intro wq hSw; (try dsimp only at hSw); first | (go_simp; done) | (go_simp; with_reducible rfl))
        try simp only [Act.put, qa, qb, qc]
        refine wpAnyH_take (i := 17) (oi := { dst := some 35, op := Op.pick (Operand.tmp 23) (Operand.tmp 34) (Operand.const (Value.bool false)), type := 4, pos := "l02_state.go:331", after := #[{ on := 5, ground := Ground.data }, { on := 16, ground := Ground.data }], guard := none }) (v := ?_) rfl (by kernel_rfl) (by kernel_rfl) (by kernel_rfl) (fun _ _ _ h => h) (Or.inl ⟨by rfl, ?_⟩) hHeld ?_
        rotate_left
        · (intro wq hSw; (try dsimp only at hSw); first | (go_simp; done) | (go_simp; with_reducible rfl))
        try simp only [Act.put, qa, qb, qc]
        refine wpAnyH_take (i := 18) (oi := { dst := some 36, op := Op.move (Operand.tmp 35), type := 4, pos := "l02_state.go:331", after := #[{ on := 17, ground := Ground.data }, { on := 15, ground := Ground.chain }], guard := none }) (v := ?_) rfl (by kernel_rfl) (by kernel_rfl) (by kernel_rfl) (fun _ _ _ h => h) (Or.inl ⟨by rfl, ?_⟩) hHeld ?_
        rotate_left
        · (intro wq hSw; (try dsimp only at hSw); first | (go_simp; done) | (go_simp; with_reducible rfl))
        try simp only [Act.put, qa, qb, qc]
        refine wpAnyH_take (i := 19) (oi := { dst := some 37, op := Op.load 48 (Operand.tmp 3), type := 48, pos := "l02_state.go:331", after := #[{ on := 18, ground := Ground.guard }], guard := some (18, true) }) (v := ?_) rfl (by kernel_rfl) (by kernel_rfl) (by kernel_rfl) (fun _ _ _ h => h) (Or.inl ⟨by rfl, ?_⟩) hHeld ?_
        rotate_left
        · (intro wq hSw; (try dsimp only at hSw); first | (go_simp; done) | (go_simp; with_reducible rfl))
        try simp only [Act.put, qa, qb, qc]
        refine wpAnyH_ready (rs := [20]) (by kernel_rfl) (by simp) ?_
        refine AllReadyH.cons (o := { dst := some 38, op := Op.call { callee := Callee.value (Operand.func 104), args := #[Operand.tmp 37], argTypes := #[48] }, type := 4, pos := "l02_state.go:331", after := #[{ on := 19, ground := Ground.data }, { on := 18, ground := Ground.chain }, { on := 18, ground := Ground.guard }], guard := some (18, true) }) rfl (fun K hK => ?_) AllReadyH.nil
        go_simp
        go_at_call 104; refine (nB.out _).mono ?_; rintro e w6 ⟨rfl, hb6⟩; have R6 := hide (R5.out.next hb6); have B6 := hide (below_then B5.out hb6)
        refine hK.out _ _ ?_ (fun hHeldN => ?_)
        · exact R6.out.cells0
        clear hK K hHeld
        have hHeld := hHeldN
        clear hHeldN
        try simp only [Act.put, qa, qb, qc]
        refine wpAnyH_take (i := 21) (oi := { dst := some 39, op := Op.pick (Operand.tmp 36) (Operand.tmp 38) (Operand.const (Value.bool false)), type := 4, pos := "l02_state.go:331", after := #[{ on := 18, ground := Ground.data }, { on := 20, ground := Ground.data }], guard := none }) (v := ?_) rfl (by kernel_rfl) (by kernel_rfl) (by kernel_rfl) (fun _ _ _ h => h) (Or.inl ⟨by rfl, ?_⟩) hHeld ?_
        rotate_left
        · (intro wq hSw; (try dsimp only at hSw); first | (go_simp; done) | (go_simp; with_reducible rfl))
        try simp only [Act.put, qa, qb, qc]
        refine wpAnyH_take (i := 22) (oi := { dst := some 40, op := Op.move (Operand.tmp 39), type := 4, pos := "l02_state.go:331", after := #[{ on := 21, ground := Ground.data }, { on := 20, ground := Ground.chain }], guard := none }) (v := ?_) rfl (by kernel_rfl) (by kernel_rfl) (by kernel_rfl) (fun _ _ _ h => h) (Or.inl ⟨by rfl, ?_⟩) hHeld ?_
        rotate_left
        · (intro wq hSw; (try dsimp only at hSw); first | (go_simp; done) | (go_simp; with_reducible rfl))
        try simp only [Act.put, qa, qb, qc]
        refine wpAnyH_take (i := 23) (oi := { dst := some 41, op := Op.load 48 (Operand.tmp 3), type := 48, pos := "l02_state.go:331", after := #[{ on := 22, ground := Ground.guard }], guard := some (22, true) }) (v := ?_) rfl (by kernel_rfl) (by kernel_rfl) (by kernel_rfl) (fun _ _ _ h => h) (Or.inl ⟨by rfl, ?_⟩) hHeld ?_
        rotate_left
        · (intro wq hSw; (try dsimp only at hSw); first | (go_simp; done) | (go_simp; with_reducible rfl))
        try simp only [Act.put, qa, qb, qc]
        refine wpAnyH_ready (rs := [24]) (by kernel_rfl) (by simp) ?_
        refine AllReadyH.cons (o := { dst := some 42, op := Op.call { callee := Callee.value (Operand.func 105), args := #[Operand.tmp 41], argTypes := #[48] }, type := 4, pos := "l02_state.go:331", after := #[{ on := 23, ground := Ground.data }, { on := 22, ground := Ground.chain }, { on := 22, ground := Ground.guard }], guard := some (22, true) }) rfl (fun K hK => ?_) AllReadyH.nil
        go_simp
        go_at_call 105; refine (nV.out _).mono ?_; rintro e w7 ⟨rfl, hb7⟩; have R7 := hide (R6.out.next hb7); have B7 := hide (below_then B6.out hb7)
        refine hK.out _ _ ?_ (fun hHeldN => ?_)
        · exact R7.out.cells0
        clear hK K hHeld
        have hHeld := hHeldN
        clear hHeldN
        try simp only [Act.put, qa, qb, qc]
        refine wpAnyH_take (i := 25) (oi := { dst := some 43, op := Op.pick (Operand.tmp 40) (Operand.tmp 42) (Operand.const (Value.bool false)), type := 4, pos := "l02_state.go:331", after := #[{ on := 22, ground := Ground.data }, { on := 24, ground := Ground.data }], guard := none }) (v := ?_) rfl (by kernel_rfl) (by kernel_rfl) (by kernel_rfl) (fun _ _ _ h => h) (Or.inl ⟨by rfl, ?_⟩) hHeld ?_
        rotate_left
        · (intro wq hSw; (try dsimp only at hSw); first | (go_simp; done) | (go_simp; with_reducible rfl))
        try simp only [Act.put, qa, qb, qc]
        refine wpAnyH_take (i := 26) (oi := { dst := some 4, op := Op.assign (Operand.tmp 43), type := 4, pos := "l02_state.go:331", after := #[{ on := 25, ground := Ground.data }, { on := 24, ground := Ground.chain }, { on := 0, ground := Ground.phase }, { on := 1, ground := Ground.phase }, { on := 2, ground := Ground.phase }, { on := 3, ground := Ground.phase }, { on := 4, ground := Ground.phase }, { on := 5, ground := Ground.phase }, { on := 6, ground := Ground.phase }, { on := 7, ground := Ground.phase }, { on := 8, ground := Ground.phase }, { on := 9, ground := Ground.phase }, { on := 10, ground := Ground.phase }, { on := 11, ground := Ground.phase }, { on := 12, ground := Ground.phase }, { on := 13, ground := Ground.phase }, { on := 14, ground := Ground.phase }, { on := 15, ground := Ground.phase }, { on := 16, ground := Ground.phase }, { on := 17, ground := Ground.phase }, { on := 18, ground := Ground.phase }, { on := 19, ground := Ground.phase }, { on := 20, ground := Ground.phase }, { on := 21, ground := Ground.phase }, { on := 22, ground := Ground.phase }, { on := 23, ground := Ground.phase }, { on := 24, ground := Ground.phase }, { on := 25, ground := Ground.phase }], guard := none }) (v := ?_) rfl (by kernel_rfl) (by kernel_rfl) (by kernel_rfl) (fun _ _ _ h => h) (Or.inl ⟨by rfl, ?_⟩) hHeld ?_
        rotate_left
        · (intro wq hSw; (try dsimp only at hSw); first | (go_simp; done) | (go_simp; with_reducible rfl))
        try simp only [Act.put, qa, qb, qc]
        refine wpAnyH_done (by kernel_rfl) ?_ _
        go_wp2_with fail
        go_ret
        exact ⟨ret_bool (hE.out.trans rfl).symm, B7.out⟩
    · have hm' : ((s.mem.n : Int) == (p.init.length : Int)) = false := by rw [beq_eq_false_iff_ne]; omega
      have hm2 : decide (s.mem.n = p.init.length) = false := decide_eq_false hm
      rw [hm2] at hE
      clear hm hm2
      refine wp_region_held_drew (S := (fun w' => (w'.cell? ⟨T, 0, none⟩ = some (.slice A1 p.init.length c1) ∧ w'.cell? ⟨T, 1, none⟩ = some (.slice A2 p.ts.length c2) ∧ w'.cell? ⟨T, 2, none⟩ = some (.slice s.pc.A s.pc.n s.pc.c) ∧ w'.cell? ⟨T, 3, none⟩ = some (.slice s.F.A s.F.n s.F.c) ∧ w'.cell? ⟨T, 4, none⟩ = some (.slice s.mem.A s.mem.n s.mem.c)) ∧ w'.cell? ⟨(w.heap.size + 1), 0, none⟩ = some (.int .i64 0) ∧ w'.cell? ⟨(w.heap.size + 1), 1, none⟩ = some (.slice s.pc.A s.pc.n s.pc.c) ∧ w'.cell? ⟨(w.heap.size + 1), 2, none⟩ = some (.slice s.F.A s.F.n s.F.c) ∧ w'.cell? ⟨(w.heap.size + 1), 3, none⟩ = some (.slice s.mem.A s.mem.n s.mem.c) ∧ w'.cell? ⟨(w.heap.size + 1), 4, none⟩ = some (.slice s.bufs.A s.bufs.n s.bufs.c) ∧ w'.cell? ⟨(w.heap.size + 1), 5, none⟩ = some (.slice s.H.A s.H.n s.H.c) ∧ w'.cell? ⟨(w.heap.size + 1), 6, none⟩ = some (.slice s.view.A s.view.n s.view.c) ∧ w'.cell? ⟨(w.heap.size + 1), 7, none⟩ = some (.slice s.sc.A s.sc.n s.sc.c) ∧ w'.cell? ⟨(w.heap.size + 1), 8, none⟩ = some (.int .i64 s.next))) (by kernel_rfl) ?_ (fun hHeld => ?_)
      · exact R2.out.cells0
      refine wpAnyH_take (i := 0) (oi := { dst := some 18, op := Op.move (Operand.tmp 5), type := 133, pos := "l02_state.go:331", after := #[], guard := none }) (v := ?_) rfl (by kernel_rfl) (by kernel_rfl) (by kernel_rfl) (fun _ _ _ h => h) (Or.inl ⟨by rfl, ?_⟩) hHeld ?_
      rotate_left
      · (intro wq hSw; (try dsimp only at hSw); first | (go_simp; done) | (go_simp; with_reducible rfl))
      try simp only [Act.put, qa, qb, qc]
      refine wpAnyH_take (i := 1) (oi := { dst := some 19, op := Op.nilCheck (Operand.tmp 18), type := 0, pos := "l02_state.go:331", after := #[{ on := 0, ground := Ground.data }], guard := none }) (v := ?_) rfl (by kernel_rfl) (by kernel_rfl) (by kernel_rfl) (fun _ _ _ h => h) (Or.inl ⟨by rfl, ?_⟩) hHeld ?_
      rotate_left
      · (intro wq hSw; (try dsimp only at hSw); first | (go_simp; done) | (go_simp; with_reducible rfl))
      try simp only [Act.put, qa, qb, qc]
      refine wpAnyH_take (i := 2) (oi := { dst := some 20, op := Op.fieldAddr 137 (Operand.tmp 19) 0, type := 0, pos := "l02_state.go:331", after := #[{ on := 1, ground := Ground.data }], guard := none }) (v := ?_) rfl (by kernel_rfl) (by kernel_rfl) (by kernel_rfl) (fun _ _ _ h => h) (Or.inl ⟨by rfl, ?_⟩) hHeld ?_
      rotate_left
      · (intro wq hSw; (try dsimp only at hSw); first | (go_simp; done) | (go_simp; with_reducible rfl))
      try simp only [Act.put, qa, qb, qc]
      refine wpAnyH_take (i := 3) (oi := { dst := some 21, op := Op.load 135 (Operand.tmp 20), type := 135, pos := "l02_state.go:331", after := #[{ on := 2, ground := Ground.data }], guard := none }) (v := ?_) rfl (by kernel_rfl) (by kernel_rfl) (by kernel_rfl) (fun _ _ _ h => h) (Or.inl ⟨by rfl, ?_⟩) hHeld ?_
      rotate_left
      · (intro wq hSw; (try dsimp only at hSw); first | (go_simp; done) | (go_simp; with_reducible rfl))
      try simp only [Act.put, qa, qb, qc]
      refine wpAnyH_ready (rs := [4]) (by kernel_rfl) (by simp) ?_
      refine AllReadyH.cons (o := { dst := some 22, op := Op.call { callee := Callee.value (Operand.func 102), args := #[Operand.tmp 21], argTypes := #[135] }, type := 4, pos := "l02_state.go:331", after := #[{ on := 3, ground := Ground.data }], guard := none }) rfl (fun K hK => ?_) AllReadyH.nil
      go_simp
      go_at_call 102; refine (kc.out _ R2.out).mono ?_; rintro e w4 ⟨rfl, hb4⟩; have R4 := hide (R2.out.next hb4); have B4 := hide (below_then B2.out hb4)
      refine hK.out _ _ ?_ (fun hHeldN => ?_)
      · exact R4.out.cells0
      clear hK K hHeld
      have hHeld := hHeldN
      clear hHeldN
      try simp only [Act.put, qa, qb, qc]
      refine wpAnyH_take (i := 5) (oi := { dst := some 23, op := Op.move (Operand.tmp 22), type := 4, pos := "l02_state.go:331", after := #[{ on := 4, ground := Ground.data }, { on := 4, ground := Ground.chain }], guard := none }) (v := ?_) rfl (by kernel_rfl) (by kernel_rfl) (by kernel_rfl) (fun _ _ _ h => h) (Or.inl ⟨by rfl, ?_⟩) hHeld ?_
      rotate_left
      · (intro wq hSw; (try dsimp only at hSw); first | (go_simp; done) | (go_simp; with_reducible rfl))
      try simp only [Act.put, qa, qb, qc]
      refine wpAnyH_take (i := 6) (oi := { dst := some 24, op := Op.move (Operand.tmp 5), type := 133, pos := "l02_state.go:331", after := #[{ on := 5, ground := Ground.guard }], guard := some (5, true) }) (v := ?_) rfl (by kernel_rfl) (by kernel_rfl) (by kernel_rfl) (fun _ _ _ h => h) (Or.inl ⟨by rfl, ?_⟩) hHeld ?_
      rotate_left
      · (intro wq hSw; (try dsimp only at hSw); first | (go_simp; done) | (go_simp; with_reducible rfl))
      try simp only [Act.put, qa, qb, qc]
      refine wpAnyH_take (i := 7) (oi := { dst := some 25, op := Op.nilCheck (Operand.tmp 24), type := 0, pos := "l02_state.go:331", after := #[{ on := 6, ground := Ground.data }, { on := 5, ground := Ground.guard }], guard := some (5, true) }) (v := ?_) rfl (by kernel_rfl) (by kernel_rfl) (by kernel_rfl) (fun _ _ _ h => h) (Or.inl ⟨by rfl, ?_⟩) hHeld ?_
      rotate_left
      · (intro wq hSw; (try dsimp only at hSw); first | (go_simp; done) | (go_simp; with_reducible rfl))
      try simp only [Act.put, qa, qb, qc]
      refine wpAnyH_take (i := 8) (oi := { dst := some 26, op := Op.fieldAddr 137 (Operand.tmp 25) 1, type := 0, pos := "l02_state.go:331", after := #[{ on := 7, ground := Ground.data }, { on := 5, ground := Ground.guard }], guard := some (5, true) }) (v := ?_) rfl (by kernel_rfl) (by kernel_rfl) (by kernel_rfl) (fun _ _ _ h => h) (Or.inl ⟨by rfl, ?_⟩) hHeld ?_
      rotate_left
      · (intro wq hSw; (try dsimp only at hSw); first | (go_simp; done) | (go_simp; with_reducible rfl))
      try simp only [Act.put, qa, qb, qc]
      refine wpAnyH_take (i := 9) (oi := { dst := some 27, op := Op.load 22 (Operand.tmp 26), type := 22, pos := "l02_state.go:331", after := #[{ on := 8, ground := Ground.data }, { on := 5, ground := Ground.guard }], guard := some (5, true) }) (v := ?_) rfl (by kernel_rfl) (by kernel_rfl) (by kernel_rfl) (fun _ _ _ h => h) (Or.inl ⟨by rfl, ?_⟩) hHeld ?_
      rotate_left
      · (intro wq hSw; (try dsimp only at hSw); first | (go_simp; done) | (go_simp; with_reducible rfl))
      try simp only [Act.put, qa, qb, qc]
      refine wpAnyH_take (i := 10) (oi := { dst := some 28, op := Op.call { callee := Callee.builtin Builtin.len, args := #[Operand.tmp 27], argTypes := #[22] }, type := 3, pos := "l02_state.go:331", after := #[{ on := 9, ground := Ground.data }, { on := 5, ground := Ground.guard }], guard := some (5, true) }) (v := ?_) rfl (by kernel_rfl) (by kernel_rfl) (by kernel_rfl) (fun _ _ _ h => h) (Or.inl ⟨by rfl, ?_⟩) hHeld ?_
      rotate_left
      · (intro wq hSw; (try dsimp only at hSw); first | (go_simp; done) | (go_simp; with_reducible rfl))
      try simp only [Act.put, qa, qb, qc]
      refine wpAnyH_take (i := 11) (oi := { dst := some 29, op := Op.move (Operand.tmp 5), type := 133, pos := "l02_state.go:331", after := #[{ on := 5, ground := Ground.guard }], guard := some (5, true) }) (v := ?_) rfl (by kernel_rfl) (by kernel_rfl) (by kernel_rfl) (fun _ _ _ h => h) (Or.inl ⟨by rfl, ?_⟩) hHeld ?_
      rotate_left
      · (intro wq hSw; (try dsimp only at hSw); first | (go_simp; done) | (go_simp; with_reducible rfl))
      try simp only [Act.put, qa, qb, qc]
      refine wpAnyH_take (i := 12) (oi := { dst := some 30, op := Op.nilCheck (Operand.tmp 29), type := 0, pos := "l02_state.go:331", after := #[{ on := 11, ground := Ground.data }, { on := 5, ground := Ground.guard }], guard := some (5, true) }) (v := ?_) rfl (by kernel_rfl) (by kernel_rfl) (by kernel_rfl) (fun _ _ _ h => h) (Or.inl ⟨by rfl, ?_⟩) hHeld ?_
      rotate_left
      · (intro wq hSw; (try dsimp only at hSw); first | (go_simp; done) | (go_simp; with_reducible rfl))
      try simp only [Act.put, qa, qb, qc]
      refine wpAnyH_take (i := 13) (oi := { dst := some 31, op := Op.fieldAddr 137 (Operand.tmp 30) 0, type := 0, pos := "l02_state.go:331", after := #[{ on := 12, ground := Ground.data }, { on := 5, ground := Ground.guard }], guard := some (5, true) }) (v := ?_) rfl (by kernel_rfl) (by kernel_rfl) (by kernel_rfl) (fun _ _ _ h => h) (Or.inl ⟨by rfl, ?_⟩) hHeld ?_
      rotate_left
      · (intro wq hSw; (try dsimp only at hSw); first | (go_simp; done) | (go_simp; with_reducible rfl))
      try simp only [Act.put, qa, qb, qc]
      refine wpAnyH_take (i := 14) (oi := { dst := some 32, op := Op.load 135 (Operand.tmp 31), type := 135, pos := "l02_state.go:331", after := #[{ on := 13, ground := Ground.data }, { on := 5, ground := Ground.guard }], guard := some (5, true) }) (v := ?_) rfl (by kernel_rfl) (by kernel_rfl) (by kernel_rfl) (fun _ _ _ h => h) (Or.inl ⟨by rfl, ?_⟩) hHeld ?_
      rotate_left
      · (intro wq hSw; (try dsimp only at hSw); first | (go_simp; done) | (go_simp; with_reducible rfl))
      try simp only [Act.put, qa, qb, qc]
      refine wpAnyH_ready (rs := [15]) (by kernel_rfl) (by simp) ?_
      refine AllReadyH.cons (o := { dst := some 33, op := Op.call { callee := Callee.value (Operand.func 103), args := #[Operand.tmp 32], argTypes := #[135] }, type := 3, pos := "l02_state.go:331", after := #[{ on := 14, ground := Ground.data }, { on := 5, ground := Ground.chain }, { on := 5, ground := Ground.guard }], guard := some (5, true) }) rfl (fun K hK => ?_) AllReadyH.nil
      go_simp
      go_at_call 103; refine (comCells_any _ _ _ _ _ _ _ _ _ _ _ _ _).mono ?_; rintro e w5 ⟨rfl, hb5⟩; have R5 := hide (R4.out.next hb5); have B5 := hide (below_then B4.out hb5)
      refine hK.out _ _ ?_ (fun hHeldN => ?_)
      · exact R5.out.cells0
      clear hK K hHeld
      have hHeld := hHeldN
      clear hHeldN
      try simp only [Act.put, qa, qb, qc]
      refine wpAnyH_take (i := 16) (oi := { dst := some 34, op := Op.binOp BinOp.eql 3 (Operand.tmp 28) (Operand.tmp 33) 3, type := 4, pos := "l02_state.go:331", after := #[{ on := 10, ground := Ground.data }, { on := 15, ground := Ground.data }, { on := 5, ground := Ground.guard }], guard := some (5, true) }) (v := ?_) rfl (by kernel_rfl) (by kernel_rfl) (by kernel_rfl) (fun _ _ _ h => h) (Or.inl ⟨by rfl, ?_⟩) hHeld ?_
      rotate_left
      · (intro wq hSw; (try dsimp only at hSw); first | (go_simp; done) | (go_simp; with_reducible rfl))
      try simp only [Act.put, qa, qb, qc]
      refine wpAnyH_take (i := 17) (oi := { dst := some 35, op := Op.pick (Operand.tmp 23) (Operand.tmp 34) (Operand.const (Value.bool false)), type := 4, pos := "l02_state.go:331", after := #[{ on := 5, ground := Ground.data }, { on := 16, ground := Ground.data }], guard := none }) (v := ?_) rfl (by kernel_rfl) (by kernel_rfl) (by kernel_rfl) (fun _ _ _ h => h) (Or.inl ⟨by rfl, ?_⟩) hHeld ?_
      rotate_left
      · (intro wq hSw; (try dsimp only at hSw); first | (go_simp; done) | (go_simp; with_reducible rfl))
      try simp only [Act.put, qa, qb, qc]
      refine wpAnyH_take (i := 18) (oi := { dst := some 36, op := Op.move (Operand.tmp 35), type := 4, pos := "l02_state.go:331", after := #[{ on := 17, ground := Ground.data }, { on := 15, ground := Ground.chain }], guard := none }) (v := ?_) rfl (by kernel_rfl) (by kernel_rfl) (by kernel_rfl) (fun _ _ _ h => h) (Or.inl ⟨by rfl, ?_⟩) hHeld ?_
      rotate_left
      · (intro wq hSw; (try dsimp only at hSw); first | (go_simp; done) | (go_simp; with_reducible rfl))
      try simp only [Act.put, qa, qb, qc]
      refine wpAnyH_take (i := 19) (oi := { dst := some 37, op := Op.load 48 (Operand.tmp 3), type := 48, pos := "l02_state.go:331", after := #[{ on := 18, ground := Ground.guard }], guard := some (18, true) }) (v := undef) rfl (by kernel_rfl) (by kernel_rfl) (by kernel_rfl) (fun _ _ _ h => h) (Or.inr ⟨by rfl, rfl⟩) hHeld ?_
      try simp only [Act.put, qa, qb, qc]
      refine wpAnyH_take (i := 20) (oi := { dst := some 38, op := Op.call { callee := Callee.value (Operand.func 104), args := #[Operand.tmp 37], argTypes := #[48] }, type := 4, pos := "l02_state.go:331", after := #[{ on := 19, ground := Ground.data }, { on := 18, ground := Ground.chain }, { on := 18, ground := Ground.guard }], guard := some (18, true) }) (v := undef) rfl (by kernel_rfl) (by kernel_rfl) (by kernel_rfl) (fun _ _ _ h => h) (Or.inr ⟨by rfl, rfl⟩) hHeld ?_
      try simp only [Act.put, qa, qb, qc]
      refine wpAnyH_take (i := 21) (oi := { dst := some 39, op := Op.pick (Operand.tmp 36) (Operand.tmp 38) (Operand.const (Value.bool false)), type := 4, pos := "l02_state.go:331", after := #[{ on := 18, ground := Ground.data }, { on := 20, ground := Ground.data }], guard := none }) (v := ?_) rfl (by kernel_rfl) (by kernel_rfl) (by kernel_rfl) (fun _ _ _ h => h) (Or.inl ⟨by rfl, ?_⟩) hHeld ?_
      rotate_left
      · (intro wq hSw; (try dsimp only at hSw); first | (go_simp; done) | (go_simp; with_reducible rfl))
      try simp only [Act.put, qa, qb, qc]
      refine wpAnyH_take (i := 22) (oi := { dst := some 40, op := Op.move (Operand.tmp 39), type := 4, pos := "l02_state.go:331", after := #[{ on := 21, ground := Ground.data }, { on := 20, ground := Ground.chain }], guard := none }) (v := ?_) rfl (by kernel_rfl) (by kernel_rfl) (by kernel_rfl) (fun _ _ _ h => h) (Or.inl ⟨by rfl, ?_⟩) hHeld ?_
      rotate_left
      · (intro wq hSw; (try dsimp only at hSw); first | (go_simp; done) | (go_simp; with_reducible rfl))
      try simp only [Act.put, qa, qb, qc]
      refine wpAnyH_take (i := 23) (oi := { dst := some 41, op := Op.load 48 (Operand.tmp 3), type := 48, pos := "l02_state.go:331", after := #[{ on := 22, ground := Ground.guard }], guard := some (22, true) }) (v := undef) rfl (by kernel_rfl) (by kernel_rfl) (by kernel_rfl) (fun _ _ _ h => h) (Or.inr ⟨by rfl, rfl⟩) hHeld ?_
      try simp only [Act.put, qa, qb, qc]
      refine wpAnyH_take (i := 24) (oi := { dst := some 42, op := Op.call { callee := Callee.value (Operand.func 105), args := #[Operand.tmp 41], argTypes := #[48] }, type := 4, pos := "l02_state.go:331", after := #[{ on := 23, ground := Ground.data }, { on := 22, ground := Ground.chain }, { on := 22, ground := Ground.guard }], guard := some (22, true) }) (v := undef) rfl (by kernel_rfl) (by kernel_rfl) (by kernel_rfl) (fun _ _ _ h => h) (Or.inr ⟨by rfl, rfl⟩) hHeld ?_
      try simp only [Act.put, qa, qb, qc]
      refine wpAnyH_take (i := 25) (oi := { dst := some 43, op := Op.pick (Operand.tmp 40) (Operand.tmp 42) (Operand.const (Value.bool false)), type := 4, pos := "l02_state.go:331", after := #[{ on := 22, ground := Ground.data }, { on := 24, ground := Ground.data }], guard := none }) (v := ?_) rfl (by kernel_rfl) (by kernel_rfl) (by kernel_rfl) (fun _ _ _ h => h) (Or.inl ⟨by rfl, ?_⟩) hHeld ?_
      rotate_left
      · (intro wq hSw; (try dsimp only at hSw); first | (go_simp; done) | (go_simp; with_reducible rfl))
      try simp only [Act.put, qa, qb, qc]
      refine wpAnyH_take (i := 26) (oi := { dst := some 4, op := Op.assign (Operand.tmp 43), type := 4, pos := "l02_state.go:331", after := #[{ on := 25, ground := Ground.data }, { on := 24, ground := Ground.chain }, { on := 0, ground := Ground.phase }, { on := 1, ground := Ground.phase }, { on := 2, ground := Ground.phase }, { on := 3, ground := Ground.phase }, { on := 4, ground := Ground.phase }, { on := 5, ground := Ground.phase }, { on := 6, ground := Ground.phase }, { on := 7, ground := Ground.phase }, { on := 8, ground := Ground.phase }, { on := 9, ground := Ground.phase }, { on := 10, ground := Ground.phase }, { on := 11, ground := Ground.phase }, { on := 12, ground := Ground.phase }, { on := 13, ground := Ground.phase }, { on := 14, ground := Ground.phase }, { on := 15, ground := Ground.phase }, { on := 16, ground := Ground.phase }, { on := 17, ground := Ground.phase }, { on := 18, ground := Ground.phase }, { on := 19, ground := Ground.phase }, { on := 20, ground := Ground.phase }, { on := 21, ground := Ground.phase }, { on := 22, ground := Ground.phase }, { on := 23, ground := Ground.phase }, { on := 24, ground := Ground.phase }, { on := 25, ground := Ground.phase }], guard := none }) (v := ?_) rfl (by kernel_rfl) (by kernel_rfl) (by kernel_rfl) (fun _ _ _ h => h) (Or.inl ⟨by rfl, ?_⟩) hHeld ?_
      rotate_left
      · (intro wq hSw; (try dsimp only at hSw); first | (go_simp; done) | (go_simp; with_reducible rfl))
      try simp only [Act.put, qa, qb, qc]
      refine wpAnyH_done (by kernel_rfl) ?_ _
      go_wp2_with fail
      go_ret
      exact ⟨ret_bool (hE.out.trans rfl).symm, B5.out⟩
end Go.Proofs.Ytfkaacfeikmabaa
